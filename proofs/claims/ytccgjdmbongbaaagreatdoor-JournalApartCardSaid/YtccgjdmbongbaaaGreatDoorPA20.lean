import Derived.Test.YtccgjdmbongbaaaGreatDoorPA16
import Derived.Deep.Cut
namespace Go.Proofs.YtccgjdmbongbaaaGreatDoor
open Go.RowKit Go.ChangeShapes Go.WideShapes
set_option linter.unusedVariables false
set_option linter.unusedSimpArgs false
set_option maxRecDepth 10000
theorem txfree {w : World} {B : Nat} {cs : Array Value} {T : TypeId} (h : w.heap[B]? = some (.cells cs T (0, 0))) : w.frozen? ⟨B, 0, none⟩ = false ∧ w.frozen? ⟨B, 1, none⟩ = false ∧ w.frozen? ⟨B, 2, none⟩ = false ∧ w.frozen? ⟨B, 3, none⟩ = false ∧ w.frozen? ⟨B, 4, none⟩ = false ∧ w.frozen? ⟨B, 5, none⟩ = false ∧ w.frozen? ⟨B, 6, none⟩ = false ∧ w.frozen? ⟨B, 7, none⟩ = false :=
 ⟨block_free 0 h, block_free 1 h, block_free 2 h, block_free 3 h, block_free 4 h, block_free 5 h, block_free 6 h, block_free 7 h⟩
set_option maxHeartbeats 2000000 in
theorem tstored {w : World} {B : Nat} {a b c d e f g h a' b' c' d' e' f' g' h' : Value} {T : TypeId} (h : w.heap[B]? = some (.cells #[a, b, c, d, e, f, g, h] T (0, 0))) :
 ((((((((w.setCell ⟨B, 0, none⟩ a').setCell ⟨B, 1, none⟩ b').setCell ⟨B, 2, none⟩ c').setCell ⟨B, 3, none⟩ d').setCell ⟨B, 4, none⟩ e').setCell ⟨B, 5, none⟩ f').setCell ⟨B, 6, none⟩ g').setCell ⟨B, 7, none⟩ h').heap[B]? = some (.cells #[a', b', c', d', e', f', g', h'] T (0, 0)) :=
 block_put 7 h' (block_put 6 g' (block_put 5 f' (block_put 4 e' (block_put 3 d' (block_put 2 c' (block_put 1 b' (block_put 0 a' h)))))))
theorem tkept {W w : World} {B : Nat} (h : Below W.heap.size W w) (hB : W.heap.size ≤ B) (a' b' c' d' e' f' g' h' : Value) : Below W.heap.size W ((((((((w.setCell ⟨B, 0, none⟩ a').setCell ⟨B, 1, none⟩ b').setCell ⟨B, 2, none⟩ c').setCell ⟨B, 3, none⟩ d').setCell ⟨B, 4, none⟩ e').setCell ⟨B, 5, none⟩ f').setCell ⟨B, 6, none⟩ g').setCell ⟨B, 7, none⟩ h') :=
 (((((((h.setCell hB _).setCell hB _).setCell hB _).setCell hB _).setCell hB _).setCell hB _).setCell hB _).setCell hB _
theorem results_tt {fn : Func} {p u : Tmp} (h : fn.results = #[.cell p 47, .tmp u]) (tmps : Array Value) (W : World) (R : Nat) (cs : Array Value) (hs : cs.size = 8) (v : Value) (hp : tmps.getD p undef = .pointer (some ⟨R, 0, none⟩)) (hv : tmps.getD u undef = v)
 (hB : W.heap[R]? = some (.cells cs 47 (0, 0))) : (results fn tmps).run Tryz.prog W = .ok (.tuple #[.agg cs, v]) W := by
 rw [results_cell_tmp h, hp, hv]
 simp [asAddr, Result.andThen, run_loadVar_row W R 47 47 cs (0, 0) _ hB Tryz.underlying47 rfl (by rw [hs]; kernel_rfl)]
theorem getT_drop {α : Type} (ix : α → Int) (L : List α) (d : α) (i : Int) (j : Nat) (h : j < L.length) : getT ix (L.drop j) i = if ix (L.getD j d) = i then some (L.getD j d) else getT ix (L.drop (j + 1)) i := by
 have e : L.getD j d = L[j] := by simp [List.getD, List.getElem?_eq_getElem h]
 rw [List.drop_eq_getElem_cons h, e]
 unfold getT
 rw [List.find?_cons]
 by_cases hx : ix L[j] = i
 · simp [hx]
 · simp [hx]
set_option maxHeartbeats 2000000 in
theorem rtOf_any (p : Option Addr) (n c : Nat) (L : List Tv) (i : Int) (W : World) (hL : SlG tce 8 tv0 W p n c L) (hn : n ≤ 100000) :
 Calls Tryz.prog 26 #[.slice p n c, .int .u32 i] W fun e w' => e = .returned (.tuple #[.agg (tcs ((getT Tv.sg L i).getD tv0)), .bool (getT Tv.sg L i).isSome]) ∧ Below W.heap.size W w' := by
 have HD := Lib.hid fun j (hj : j < n) => getT_drop Tv.sg L tv0 i j (by rw [hL.len]; exact hj)
 have HLen := Lib.hid hL.len
 obtain ⟨g, hg⟩ : ∃ g, getT Tv.sg L i = g := ⟨_, rfl⟩
 rw [hg]
 have HGG := Lib.hid hg
 have hcap := hL.cap
 have hb0 : Below W.heap.size W (W.alloc (.cells #[.int .u32 0, .int .u32 0, .int .u8 0, .bool false, .bool false, .slice none 0 0, .int .i64 0, .int .i64 0] 47)) := (Below.refl _ _).alloc (Nat.le_refl _) _
 have HW1 := Lib.hid hb0
 have HL := Lib.hid (hL.later hb0)
 have HR := Lib.hid (alloc_block W (.cells #[.int .u32 0, .int .u32 0, .int .u8 0, .bool false, .bool false, .slice none 0 0, .int .i64 0, .int .i64 0] 47))
 obtain ⟨X, hX⟩ : ∃ X, W.heap.size = X := ⟨_, rfl⟩
 have HXR : Hid (W.heap.size ≤ X) := Lib.hid (by omega)
 rw [hX] at HR
 clear hb0 hL hg
 go_enter Tryz.func26, Tryz.ntmps26
 go_upto_region 1 with (fail)
 clear hX
 generalize W.alloc (.cells #[.int .u32 0, .int .u32 0, .int .u8 0, .bool false, .bool false, .slice none 0 0, .int .i64 0, .int .i64 0] 47) = W1 at *
 go_wp2_with fail
 go_loopw [6] (fun v wr => ∃ j : Nat, j ≤ n ∧ v = .int .i64 (j : Int) ∧ Hid (Below W1.heap.size W1 wr) ∧ Hid (g = getT Tv.sg (L.drop j) i)) (fun v _ => n - (Go.RowKit.intOf v).toNat)
 case atStart => exact ⟨0, Nat.zero_le _, rfl, Lib.hid (Below.refl _ _), Lib.hid HGG.out.symm⟩
 case round =>
  obtain ⟨j, hj, rfl, HB, HG⟩ := hrel
  have HRw := Lib.hid (block_later HR.out HB.out)
  have HBW := Lib.hid (HW1.out.trans (HB.out.mono HW1.out.size))
  obtain ⟨r0, r1, r2, r3, r4, r5, r6, r7⟩ := txv_cells HRw.out
  obtain ⟨f0, f1, f2, f3, f4, f5, f6, f7⟩ := txfree HRw.out
  by_cases hlt : j < n
  · have hlt' : (j : Int) < n := by omega
    obtain ⟨b, off, rfl, _, c0, c1, c2, c3, c4, c5, c6, c7⟩ := txr_cells (HL.out.later HB.out) hlt
    have hd := HD.out j hlt
    generalize L.getD j tv0 = x at *
    by_cases hx : Tv.sg x = i
    · rw [if_pos hx] at hd
      have hgx := HG.out.trans hd
      have HGX := Lib.hid hgx
      have hq : (x.c.sg == i) = true := by simpa [Tv.sg] using hx
      have HX := Lib.hid hx
      clear hd hx hgx
      have HFS := Lib.hid (tstored (a' := .int .u32 x.c.id) (b' := .int .u32 x.c.sg) (c' := .int .u8 x.c.st) (d' := .bool x.c.cp) (e' := .bool x.c.dd) (f' := .slice x.p x.n x.m) (g' := .int .i64 x.c.fs) (h' := .int .i64 x.c.sz) HRw.out)
      have HGS := Lib.hid (tkept HBW.out HXR.out (.int .u32 x.c.id) (.int .u32 x.c.sg) (.int .u8 x.c.st) (.bool x.c.cp) (.bool x.c.dd) (.slice x.p x.n x.m) (.int .i64 x.c.fs) (.int .i64 x.c.sz))
      go_wp2_with fail
      refine bodyPost_ret (v := .tuple #[.agg #[.int .u32 x.c.id, .int .u32 x.c.sg, .int .u8 x.c.st, .bool x.c.cp, .bool x.c.dd, .slice x.p x.n x.m, .int .i64 x.c.fs, .int .i64 x.c.sz], .bool true]) ?_ rfl ⟨by rw [HGX.out]; rfl, HGS.out⟩
      exact results_tt rfl _ _ X _ rfl _ rfl rfl HFS.out
    · rw [if_neg hx] at hd
      have hq : (x.c.sg == i) = false := by simpa [Tv.sg] using hx
      have HX := Lib.hid hx
      have HGX := Lib.hid (HG.out.trans hd)
      clear hd hx r0 r1 r2 r3 r4 r5 r6 r7 f0 f1 f2 f3 f4 f5 f6 f7
      go_wp2_with fail
      go_roundw
      case rel => exact ⟨j + 1, by omega, by go_num, HB, HGX⟩
      case measure =>
       simp [Go.RowKit.intOf]
       omega
  · have t1 : ¬ (j : Int) < n := by omega
    have hgx : g = none := by rw [HG.out, List.drop_of_length_le (by rw [HLen.out]; omega)]; rfl
    have HGX := Lib.hid hgx
    clear hgx
    have HFS := Lib.hid (tstored (a' := .int .u32 0) (b' := .int .u32 0) (c' := .int .u8 0) (d' := .bool false) (e' := .bool false) (f' := .slice none 0 0) (g' := .int .i64 0) (h' := .int .i64 0) HRw.out)
    have HGS := Lib.hid (tkept HBW.out HXR.out (.int .u32 0) (.int .u32 0) (.int .u8 0) (.bool false) (.bool false) (.slice none 0 0) (.int .i64 0) (.int .i64 0))
    go_wp2_with fail
    refine bodyPost_ret (v := .tuple #[.agg #[.int .u32 0, .int .u32 0, .int .u8 0, .bool false, .bool false, .slice none 0 0, .int .i64 0, .int .i64 0], .bool false]) ?_ rfl ⟨by rw [HGX.out]; rfl, HGS.out⟩
    exact results_tt rfl _ _ X _ rfl _ rfl rfl HFS.out
theorem firstC_fold (L : List Tv) (j : Nat) (h : j < L.length) (n0 : Int) : ((L.take (j + 1)).map (·.c)).foldl (fun n x => if x.fs < n then x.fs else n) n0 = (fun n => if (L.getD j tv0).c.fs < n then (L.getD j tv0).c.fs else n) (((L.take j).map (·.c)).foldl (fun n x => if x.fs < n then x.fs else n) n0) := by
 rw [List.take_add_one, List.map_append, List.foldl_append]
 simp [List.getD, List.getElem?_eq_getElem h]
theorem firstC_all (L : List Tv) (h : 0 < L.length) : firstC (L.map (·.c)) = ((L.map (·.c)).foldl (fun n x => if x.fs < n then x.fs else n) (L.getD 0 tv0).c.fs, true) := by
 cases L with
 | nil => simp at h
 | cons x L => simp [firstC]
set_option maxHeartbeats 2000000 in
theorem rtfirst_any (p : Option Addr) (n c : Nat) (L : List Tv) (W : World) (hL : SlG tce 8 tv0 W p n c L) (hn : n ≤ 100000) :
 Calls Tryz.prog 35 #[.slice p n c] W fun e w' => e = .returned (.tuple #[.int .i64 (firstC (L.map (·.c))).1, .bool (firstC (L.map (·.c))).2]) ∧ Below W.heap.size W w' := by
 have hcap := hL.cap
 by_cases h0 : n = 0
 · have hl : L = [] := List.length_eq_zero_iff.1 (by rw [hL.len]; exact h0)
   subst hl
   have HN := Lib.hid h0
   have hq : ((n : Int) == 0) = true := by simp [h0]
   subst h0
   clear hL
   go_enter Tryz.func35, Tryz.ntmps35
   go_wp2_with fail
   go_ret2
   exact ⟨rfl, Below.refl _ _⟩
 · rw [firstC_all L (by rw [hL.len]; omega)]
   have hq : ((n : Int) == 0) = false := by simp; omega
   have HL := Lib.hid hL
   obtain ⟨st, hst⟩ : ∃ st : Nat → Int, ∀ j, st j = ((L.take j).map (·.c)).foldl (fun n x => if x.fs < n then x.fs else n) (L.getD 0 tv0).c.fs := ⟨_, fun _ => rfl⟩
   have HS := Lib.hid fun j (hj : j < n) => (show st (j + 1) = (if (L.getD j tv0).c.fs < st j then (L.getD j tv0).c.fs else st j) by rw [hst, hst]; exact firstC_fold L j (by rw [hL.len]; exact hj) _)
   have HS0 : Hid (st 0 = (L.getD 0 tv0).c.fs) := Lib.hid (by rw [hst]; rfl)
   have HSN : Hid (st n = (L.map (·.c)).foldl (fun n x => if x.fs < n then x.fs else n) (L.getD 0 tv0).c.fs) := Lib.hid (by rw [hst, List.take_of_length_le (by rw [hL.len]; exact Nat.le_refl _)])
   rw [← HSN.out]
   obtain ⟨b, off, rfl, _, c0, c1, c2, c3, c4, c5, c6, c7⟩ := txr_cells hL (show 0 < n by omega)
   rw [Nat.zero_mul, Nat.add_zero] at c0 c1 c2 c3 c4 c5 c6 c7
   have hn0 : (0 : Int) < n := by omega
   rw [← HS0.out] at c6
   have HN := Lib.hid h0
   clear hst hL h0 c0 c1 c2 c3 c4 c5 c7
   go_enter Tryz.func35, Tryz.ntmps35
   go_wp2_with fail
   clear c6
   go_loopw [4, 5] (fun v i wr => ∃ j : Nat, j ≤ n ∧ i = .int .i64 (j : Int) ∧ v = .int .i64 (st j) ∧ Hid (Below W.heap.size W wr)) (fun _ i _ => n - (Go.RowKit.intOf i).toNat)
   case atStart => exact ⟨0, Nat.zero_le _, rfl, rfl, Lib.hid (Below.refl _ _)⟩
   case round =>
    obtain ⟨j, hj, rfl, rfl, HB⟩ := hrel
    by_cases hlt : j < n
    · have hlt' : (j : Int) < n := by omega
      have HLW := Lib.hid (HL.out.later HB.out)
      obtain ⟨b2, off2, hp, _, c0, c1, c2, c3, c4, c5, c6, c7⟩ := txr_cells HLW.out hlt
      cases hp
      have hsucc := HS.out j hlt
      generalize L.getD j tv0 = x at *
      clear c0 c1 c2 c3 c4 c5 c7
      by_cases hx : x.c.fs < st j
      · rw [if_pos hx] at hsucc
        have HSS := Lib.hid hsucc
        clear hsucc
        go_wp2_with fail
        go_roundw
        case rel => exact ⟨j + 1, by omega, by go_num, by rw [HSS.out], HB⟩
        case measure =>
         simp [Go.RowKit.intOf]
         omega
      · rw [if_neg hx] at hsucc
        have HSS := Lib.hid hsucc
        clear hsucc
        go_wp2_with fail
        go_roundw
        case rel => exact ⟨j + 1, by omega, by go_num, by rw [HSS.out], HB⟩
        case measure =>
         simp [Go.RowKit.intOf]
         omega
    · obtain rfl : j = n := by omega
      go_wp2_with fail
      go_ret2
      exact ⟨rfl, HB.out⟩
theorem ttwo (W : World) (c0 c1 : Array Value) (t0 t1 : TypeId) : Below W.heap.size W ((W.alloc (.cells c0 t0)).alloc (.cells c1 t1)) ∧ ((W.alloc (.cells c0 t0)).alloc (.cells c1 t1)).heap[W.heap.size]? = some (.cells c0 t0 (0, 0)) ∧ ((W.alloc (.cells c0 t0)).alloc (.cells c1 t1)).heap[W.heap.size + 1]? = some (.cells c1 t1 (0, 0)) := by
 have h1 := alloc_block (W.alloc (.cells c0 t0)) (.cells c1 t1)
 have hs : (W.alloc (.cells c0 t0)).heap.size = W.heap.size + 1 := by simp
 rw [hs] at h1
 have h0 := alloc_block W (.cells c0 t0)
 have hb : Below (W.alloc (.cells c0 t0)).heap.size (W.alloc (.cells c0 t0)) ((W.alloc (.cells c0 t0)).alloc (.cells c1 t1)) := (Below.refl _ _).alloc (Nat.le_refl _) _
 exact ⟨((Below.refl _ _).alloc (Nat.le_refl _) _).alloc (by omega) _, block_later h0 hb, h1⟩
set_option maxHeartbeats 4000000 in
theorem rtsame_any (a b : Tv) (W : World) (ha : TvM W a) (hb : TvM W b) (hn : a.n ≤ 100000) (hm : b.n ≤ 100000) :
 Calls Tryz.prog 36 #[.agg #[.int .u32 a.c.id, .int .u32 a.c.sg, .int .u8 a.c.st, .bool a.c.cp, .bool a.c.dd, .slice a.p a.n a.m, .int .i64 a.c.fs, .int .i64 a.c.sz], .agg #[.int .u32 b.c.id, .int .u32 b.c.sg, .int .u8 b.c.st, .bool b.c.cp, .bool b.c.dd, .slice b.p b.n b.m, .int .i64 b.c.fs, .int .i64 b.c.sz]] W fun e w' => e = .returned (.bool (decide (a.c = b.c))) ∧ Below W.heap.size W w' := by
 obtain ⟨hb0, hx0, hy0⟩ := ttwo W #[.int .u32 a.c.id, .int .u32 a.c.sg, .int .u8 a.c.st, .bool a.c.cp, .bool a.c.dd, .slice a.p a.n a.m, .int .i64 a.c.fs, .int .i64 a.c.sz] #[.int .u32 b.c.id, .int .u32 b.c.sg, .int .u8 b.c.st, .bool b.c.cp, .bool b.c.dd, .slice b.p b.n b.m, .int .i64 b.c.fs, .int .i64 b.c.sz] 47 47
 have HS := Lib.hid (rsame_o a.p b.p a.n b.n a.m b.m a.c.dn b.c.dn _ (ha.later hb0) (hb.later hb0) hn hm)
 have HB0 := Lib.hid hb0
 have HX := Lib.hid hx0
 have HY := Lib.hid hy0
 have HD := Lib.hid fun (h : a.c = b.c) => h
 obtain ⟨X, hX⟩ : ∃ X, W.heap.size = X := ⟨_, rfl⟩
 have HHX := Lib.hid hX
 rw [hX] at HX HY
 clear hb0 hx0 hy0 ha hb HD
 go_enter Tryz.func36, Tryz.ntmps36
 go_upto_region 1 with (fail)
 clear hX
 generalize (W.alloc (.cells #[.int .u32 a.c.id, .int .u32 a.c.sg, .int .u8 a.c.st, .bool a.c.cp, .bool a.c.dd, .slice a.p a.n a.m, .int .i64 a.c.fs, .int .i64 a.c.sz] 47)).alloc (.cells #[.int .u32 b.c.id, .int .u32 b.c.sg, .int .u8 b.c.st, .bool b.c.cp, .bool b.c.dd, .slice b.p b.n b.m, .int .i64 b.c.fs, .int .i64 b.c.sz] 47) = V0 at *
 generalize X + 1 = Y at *
 obtain ⟨x0, x1, x2, x3, x4, x5, x6, x7⟩ := tx_box HX.out
 obtain ⟨y0, y1, y2, y3, y4, y5, y6, y7⟩ := tx_box HY.out
 by_cases h0 : a.c.id = b.c.id
 · have H0 := Lib.hid h0
   have q0 : (a.c.id == b.c.id) = true := by simpa using h0
   clear h0
   by_cases h1 : a.c.sg = b.c.sg
   · have H1 := Lib.hid h1
     have q1 : (a.c.sg == b.c.sg) = true := by simpa using h1
     clear h1
     by_cases h2 : a.c.st = b.c.st
     · have H2 := Lib.hid h2
       have q2 : (a.c.st == b.c.st) = true := by simpa using h2
       clear h2
       by_cases h3 : a.c.cp = b.c.cp
       · have H3 := Lib.hid h3
         have q3 : (a.c.cp == b.c.cp) = true := by simpa using h3
         clear h3
         by_cases h4 : a.c.dd = b.c.dd
         · have H4 := Lib.hid h4
           have q4 : (a.c.dd == b.c.dd) = true := by simpa using h4
           clear h4
           by_cases h5 : a.c.dn = b.c.dn
           · have H5 := Lib.hid h5
             clear h5
             by_cases h6 : a.c.fs = b.c.fs
             · have H6 := Lib.hid h6
               have q6 : (a.c.fs == b.c.fs) = true := by simpa using h6
               clear h6
               by_cases h7 : a.c.sz = b.c.sz
               · have H7 := Lib.hid h7
                 have q7 : (a.c.sz == b.c.sz) = true := by simpa using h7
                 clear h7
                 have he : a.c = b.c := by
                  obtain ⟨⟨i1, i2, i3, i4, i5, i6, i7, i8⟩, _, _, _⟩ := a
                  obtain ⟨⟨j1, j2, j3, j4, j5, j6, j7, j8⟩, _, _, _⟩ := b
                  have k0 := H0.out; have k1 := H1.out; have k2 := H2.out; have k3 := H3.out; have k4 := H4.out; have k5 := H5.out; have k6 := H6.out; have k7 := H7.out
                  simp only at k0 k1 k2 k3 k4 k5 k6 k7
                  subst k0 k1 k2 k3 k4 k5 k6 k7
                  rfl
                 have HE := Lib.hid he
                 clear he
                 go_wp2_with fail
                 refine HS.out.mono ?_
                 rintro e1 w1 ⟨rfl, hb1⟩
                 have HB1 := Lib.hid (HB0.out.trans (hb1.mono HB0.out.size))
                 have HX1 := Lib.hid (block_later HX.out hb1)
                 have HY1 := Lib.hid (block_later HY.out hb1)
                 clear hb1 HS x0 x1 x2 x3 x4 x5 x6 x7 y0 y1 y2 y3 y4 y5 y6 y7
                 obtain ⟨x0, x1, x2, x3, x4, x5, x6, x7⟩ := tx_box HX1.out
                 obtain ⟨y0, y1, y2, y3, y4, y5, y6, y7⟩ := tx_box HY1.out
                 rw [decide_eq_true H5.out]
                 go_wp2_with fail
                 go_ret
                 exact ⟨by rw [decide_eq_true HE.out]; rfl, HB1.out⟩
               · have HN : Hid (a.c ≠ b.c) := Lib.hid fun e => h7 (by rw [e])
                 have q7 : (a.c.sz == b.c.sz) = false := by simpa using h7
                 have HH := Lib.hid h7
                 clear h7
                 go_wp2_with fail
                 refine HS.out.mono ?_
                 rintro e1 w1 ⟨rfl, hb1⟩
                 have HB1 := Lib.hid (HB0.out.trans (hb1.mono HB0.out.size))
                 have HX1 := Lib.hid (block_later HX.out hb1)
                 have HY1 := Lib.hid (block_later HY.out hb1)
                 clear hb1 HS x0 x1 x2 x3 x4 x5 x6 x7 y0 y1 y2 y3 y4 y5 y6 y7
                 obtain ⟨x0, x1, x2, x3, x4, x5, x6, x7⟩ := tx_box HX1.out
                 obtain ⟨y0, y1, y2, y3, y4, y5, y6, y7⟩ := tx_box HY1.out
                 rw [decide_eq_true H5.out]
                 go_wp2_with fail
                 go_ret
                 exact ⟨by rw [decide_eq_false HN.out]; rfl, HB1.out⟩
             · have HN : Hid (a.c ≠ b.c) := Lib.hid fun e => h6 (by rw [e])
               have q6 : (a.c.fs == b.c.fs) = false := by simpa using h6
               have HH := Lib.hid h6
               clear h6
               go_wp2_with fail
               refine HS.out.mono ?_
               rintro e1 w1 ⟨rfl, hb1⟩
               have HB1 := Lib.hid (HB0.out.trans (hb1.mono HB0.out.size))
               have HX1 := Lib.hid (block_later HX.out hb1)
               have HY1 := Lib.hid (block_later HY.out hb1)
               clear hb1 HS x0 x1 x2 x3 x4 x5 x6 x7 y0 y1 y2 y3 y4 y5 y6 y7
               obtain ⟨x0, x1, x2, x3, x4, x5, x6, x7⟩ := tx_box HX1.out
               obtain ⟨y0, y1, y2, y3, y4, y5, y6, y7⟩ := tx_box HY1.out
               rw [decide_eq_true H5.out]
               go_wp2_with fail
               go_ret
               exact ⟨by rw [decide_eq_false HN.out]; rfl, HB1.out⟩
           · have HN : Hid (a.c ≠ b.c) := Lib.hid fun e => h5 (by rw [e])
             have HH := Lib.hid h5
             clear h5
             go_wp2_with fail
             refine HS.out.mono ?_
             rintro e1 w1 ⟨rfl, hb1⟩
             have HB1 := Lib.hid (HB0.out.trans (hb1.mono HB0.out.size))
             have HX1 := Lib.hid (block_later HX.out hb1)
             have HY1 := Lib.hid (block_later HY.out hb1)
             clear hb1 HS x0 x1 x2 x3 x4 x5 x6 x7 y0 y1 y2 y3 y4 y5 y6 y7
             obtain ⟨x0, x1, x2, x3, x4, x5, x6, x7⟩ := tx_box HX1.out
             obtain ⟨y0, y1, y2, y3, y4, y5, y6, y7⟩ := tx_box HY1.out
             rw [decide_eq_false HH.out]
             go_wp2_with fail
             go_ret
             exact ⟨by rw [decide_eq_false HN.out]; rfl, HB1.out⟩
         · have HN : Hid (a.c ≠ b.c) := Lib.hid fun e => h4 (by rw [e])
           have q4 : (a.c.dd == b.c.dd) = false := by simpa using h4
           have HH := Lib.hid h4
           clear h4
           go_wp2_with fail
           go_ret
           exact ⟨by rw [decide_eq_false HN.out]; rfl, HB0.out⟩
       · have HN : Hid (a.c ≠ b.c) := Lib.hid fun e => h3 (by rw [e])
         have q3 : (a.c.cp == b.c.cp) = false := by simpa using h3
         have HH := Lib.hid h3
         clear h3
         go_wp2_with fail
         go_ret
         exact ⟨by rw [decide_eq_false HN.out]; rfl, HB0.out⟩
     · have HN : Hid (a.c ≠ b.c) := Lib.hid fun e => h2 (by rw [e])
       have q2 : (a.c.st == b.c.st) = false := by simpa using h2
       have HH := Lib.hid h2
       clear h2
       go_wp2_with fail
       go_ret
       exact ⟨by rw [decide_eq_false HN.out]; rfl, HB0.out⟩
   · have HN : Hid (a.c ≠ b.c) := Lib.hid fun e => h1 (by rw [e])
     have q1 : (a.c.sg == b.c.sg) = false := by simpa using h1
     have HH := Lib.hid h1
     clear h1
     go_wp2_with fail
     go_ret
     exact ⟨by rw [decide_eq_false HN.out]; rfl, HB0.out⟩
 · have HN : Hid (a.c ≠ b.c) := Lib.hid fun e => h0 (by rw [e])
   have q0 : (a.c.id == b.c.id) = false := by simpa using h0
   have HH := Lib.hid h0
   clear h0
   go_wp2_with fail
   go_ret
   exact ⟨by rw [decide_eq_false HN.out]; rfl, HB0.out⟩
theorem results_cell_1 {fn : Func} {p : Tmp} {ty : TypeId} (h : fn.results = #[.cell p ty]) (tmps : Array Value) (P : Program) (w : World) :
 (results fn tmps).run P w = ((asAddr (tmps.getD p undef)).run P w).andThen fun a w₁ => (loadVar ty a).run P w₁ := by
 simp only [results, h]
 simp [Sem.run_bind, Result.andThen]
theorem results_t1 {fn : Func} {p : Tmp} (h : fn.results = #[.cell p 47]) (tmps : Array Value) (W : World) (R : Nat) (cs : Array Value) (hs : cs.size = 8) (hp : tmps.getD p undef = .pointer (some ⟨R, 0, none⟩))
 (hB : W.heap[R]? = some (.cells cs 47 (0, 0))) : (results fn tmps).run Tryz.prog W = .ok (.agg cs) W := by
 rw [results_cell_1 h, hp]
 simp [asAddr, Result.andThen, run_loadVar_row W R 47 47 cs (0, 0) _ hB Tryz.underlying47 rfl (by rw [hs]; kernel_rfl)]
theorem tthree (W : World) (c0 c1 c2 : Array Value) (t0 t1 t2 : TypeId) :
 Below W.heap.size W (((W.alloc (.cells c0 t0)).alloc (.cells c1 t1)).alloc (.cells c2 t2)) ∧ (((W.alloc (.cells c0 t0)).alloc (.cells c1 t1)).alloc (.cells c2 t2)).heap[W.heap.size]? = some (.cells c0 t0 (0, 0)) ∧
 (((W.alloc (.cells c0 t0)).alloc (.cells c1 t1)).alloc (.cells c2 t2)).heap[W.heap.size + 1]? = some (.cells c1 t1 (0, 0)) ∧ (((W.alloc (.cells c0 t0)).alloc (.cells c1 t1)).alloc (.cells c2 t2)).heap[W.heap.size + 2]? = some (.cells c2 t2 (0, 0)) := by
 have s1 : (W.alloc (.cells c0 t0)).heap.size = W.heap.size + 1 := by simp
 have s2 : ((W.alloc (.cells c0 t0)).alloc (.cells c1 t1)).heap.size = W.heap.size + 2 := by simp
 have h0 := alloc_block W (.cells c0 t0)
 have h1 := alloc_block (W.alloc (.cells c0 t0)) (.cells c1 t1)
 have h2 := alloc_block ((W.alloc (.cells c0 t0)).alloc (.cells c1 t1)) (.cells c2 t2)
 rw [s1] at h1
 rw [s2] at h2
 have b1 : Below (W.alloc (.cells c0 t0)).heap.size (W.alloc (.cells c0 t0)) ((W.alloc (.cells c0 t0)).alloc (.cells c1 t1)) := (Below.refl _ _).alloc (Nat.le_refl _) _
 have b2 : Below ((W.alloc (.cells c0 t0)).alloc (.cells c1 t1)).heap.size ((W.alloc (.cells c0 t0)).alloc (.cells c1 t1)) (((W.alloc (.cells c0 t0)).alloc (.cells c1 t1)).alloc (.cells c2 t2)) := (Below.refl _ _).alloc (Nat.le_refl _) _
 exact ⟨(((Below.refl _ _).alloc (Nat.le_refl _) _).alloc (by omega) _).alloc (by omega) _, block_later (block_later h0 b1) b2, block_later h1 b2, h2⟩
def Scr1 (w : World) (t : Tv) : Prop := (∃ D, OL w t.p t.n t.m D) ∧ (0 < t.n → ∀ a, t.p = some a → ∃ cs T, w.heap[a.block]? = some (.cells cs T (0, 0)))
structure Scr (S : Nat → Prop) (w : World) (L : List Tv) : Prop where
 each : ∀ t ∈ L, Scr1 w t
 inS : ∀ t ∈ L, 0 < t.n → ∀ a, t.p = some a → S a.block
 apart : ∀ i j, i < L.length → j < L.length → i ≠ j → 0 < (L.getD i tv0).n → 0 < (L.getD j tv0).n → ∀ a b, (L.getD i tv0).p = some a → (L.getD j tv0).p = some b → a.block ≠ b.block
theorem Scr1.turn {w w' : World} {t : Tv} {b : Nat} (h : Scr1 w t) (hc : Chg (fun k => k = b) w w') (hn : 0 < t.n → ∀ a, t.p = some a → a.block ≠ b) : Scr1 w' t := by
 obtain ⟨⟨D, hD⟩, hf⟩ := h
 refine ⟨⟨D, hD.turn hc.size fun h0 a ha hlt => hc.block a.block hlt (hn h0 a ha)⟩, fun h0 a ha => ?_⟩
 obtain ⟨cs, T, h1⟩ := hf h0 a ha
 exact ⟨cs, T, (hc.block a.block (block_lt h1) (hn h0 a ha)).trans h1⟩
theorem cells_at {w : World} {b o : Nat} {cs : Array Value} {T : TypeId} (hb : w.heap[b]? = some (.cells cs T (0, 0))) : w.cell? ⟨b, o, none⟩ = cs[o]? := by simp [World.cell?, hb]
theorem set_other {w : World} {b o o' : Nat} {v u : Value} {cs : Array Value} {T : TypeId} (hb : w.heap[b]? = some (.cells cs T (0, 0))) (h : w.cell? ⟨b, o', none⟩ = some u) (hne : o' ≠ o) : (w.setCell ⟨b, o, none⟩ v).cell? ⟨b, o', none⟩ = some u := by
 rw [cells_at hb] at h
 rw [cells_at (block_put o v hb), Array.getElem?_setIfInBounds_ne (Ne.symm hne)]
 exact h
theorem set_same {w : World} {b o : Nat} {v u : Value} {cs : Array Value} {T : TypeId} (hb : w.heap[b]? = some (.cells cs T (0, 0))) (h : w.cell? ⟨b, o, none⟩ = some u) : (w.setCell ⟨b, o, none⟩ v).cell? ⟨b, o, none⟩ = some v := by
 rw [cells_at hb] at h
 have hlt := (Array.getElem?_eq_some_iff.1 h).1
 rw [cells_at (block_put o v hb)]
 simp [Array.getElem?_setIfInBounds, hlt]
theorem Scr1.put {w : World} {t : Tv} (h : Scr1 w t) {b off k : Nat} (hp : t.p = some ⟨b, off, none⟩) (hk : k < t.n) (z : Int) : Scr1 (w.setCell ⟨b, off + k * 4 + 3, none⟩ (.int .i64 z)) t := by
 obtain ⟨⟨D, hD⟩, hf⟩ := h
 obtain ⟨cs, T, hb⟩ := hf (by omega) _ hp
 obtain ⟨b2, off2, hp2, hlt, hc⟩ := hD.cell (by omega)
 rw [hp] at hp2
 cases hp2
 have hput := block_put (off + k * 4 + 3) (.int .i64 z) hb
 refine ⟨⟨D.set k ((D.getD k o0).1, z), by rw [List.length_set]; exact hD.len, hD.cap, hD.max, hD.nil, fun _ => ⟨b, off, hp, block_lt hput, fun j hj i v hv => ?_⟩⟩, fun _ a ha => ?_⟩
 · have hj2 : j < D.length := by rw [hD.len]; exact hj
   by_cases hjk : j = k
   · subst hjk
     have e : (D.set j ((D.getD j o0).1, z)).getD j o0 = ((D.getD j o0).1, z) := by simp [List.getD, List.getElem?_set, hj2]
     rw [e] at hv
     have hi : i < 4 := (List.getElem?_eq_some_iff.1 hv).1
     by_cases h3 : i = 3
     · subst h3
       have hv2 : v = .int .i64 z := by simpa [oc] using hv.symm
       rw [hv2]
       have hcell := hc j hj 3 (.int .i64 (D.getD j o0).2) rfl
       exact set_same hb hcell
     · have hv0 : (oc (D.getD j o0))[i]? = some v := by
        have : i = 0 ∨ i = 1 ∨ i = 2 := by omega
        rcases this with rfl | rfl | rfl <;> simpa [oc] using hv
       exact set_other hb (hc j hj i v hv0) (by omega)
   · have e : (D.set k ((D.getD k o0).1, z)).getD j o0 = D.getD j o0 := by simp [List.getD, List.getElem?_set, Ne.symm hjk]
     rw [e] at hv
     have hi : i < 4 := (List.getElem?_eq_some_iff.1 hv).1
     exact set_other hb (hc j hj i v hv) (by omega)
 · rw [hp] at ha
   cases ha
   exact ⟨_, T, hput⟩
theorem Scr.put {S : Nat → Prop} {w : World} {L : List Tv} (h : Scr S w L) {i : Nat} (hi : i < L.length) {b off k : Nat} (hp : (L.getD i tv0).p = some ⟨b, off, none⟩) (hk : k < (L.getD i tv0).n) (z : Int) : Scr S (w.setCell ⟨b, off + k * 4 + 3, none⟩ (.int .i64 z)) L := by
 have hc : Chg (fun k => k = b) w (w.setCell ⟨b, off + k * 4 + 3, none⟩ (.int .i64 z)) := (Chg.refl _ _).setCell _ _ fun _ => rfl
 refine ⟨fun t ht => ?_, h.inS, h.apart⟩
 obtain ⟨j, hj, rfl⟩ := List.getElem_of_mem ht
 have ej : L.getD j tv0 = L[j] := by simp [List.getD, List.getElem?_eq_getElem hj]
 by_cases hij : i = j
 · subst hij
   rw [← ej]
   exact (h.each _ (by rw [ej]; exact ht)).put hp hk z
 · rw [← ej]
   refine (h.each _ (by rw [ej]; exact ht)).turn hc fun h0 a ha e => ?_
   exact h.apart i j hi hj hij (by omega) h0 _ _ hp ha e.symm
theorem own_ty {w : World} {base k n : Nat} {T : TypeId} {v : Value} {xs : List Value} (h : w.ownsRow base T k v n xs) {b : Nat} (hb : v.ownBlock = some b) : ∃ cs, w.heap[b]? = some (.cells cs T (0, 0)) := by
 rcases h.2 with hn | ⟨g, cap, cur, rfl, h1, h2, h3⟩
 · rw [hn.1] at hb
   cases hb
 · cases hb
   exact ⟨_, h2⟩
structure InR (w0 w2 wr : World) (v : Value) (Lx L : List Tv) (j : Nat) : Prop where
 fill : FillT w2 wr v Lx j
 is : Lx.map (·.c) = (L.take j).map (·.c)
 each : ∀ t ∈ Lx, TvM wr t
 free : ∀ t ∈ Lx, 0 < t.n → ∀ a, t.p = some a → w2.heap.size ≤ a.block ∧ ∃ cs, wr.heap[a.block]? = some (.cells cs 50 (0, 0))
 apart : ∀ i j, i < Lx.length → j < Lx.length → i ≠ j → 0 < (Lx.getD i tv0).n → 0 < (Lx.getD j tv0).n → ∀ a b, (Lx.getD i tv0).p = some a → (Lx.getD j tv0).p = some b → a.block ≠ b.block
 low : Below w0.heap.size w0 w2
theorem InR.below {w0 w2 wr : World} {v : Value} {Lx L : List Tv} {j : Nat} (h : InR w0 w2 wr v Lx L j) : Below w0.heap.size w0 wr := h.low.trans (h.fill.below.mono h.low.size)
theorem InR.start {w0 w2 : World} (h : Below w0.heap.size w0 w2) (L : List Tv) : InR w0 w2 w2 (.slice none 0 0) [] L 0 :=
 ⟨FillG.nil w2, rfl, (fun t ht => by cases ht), (fun t ht => by cases ht), (fun i j hi => by cases hi), h⟩
theorem InR.later {w0 w2 wr w' : World} {v : Value} {Lx L : List Tv} {j : Nat} (h : InR w0 w2 wr v Lx L j) (hb : Below wr.heap.size wr w') : InR w0 w2 w' v Lx L j :=
 ⟨h.fill.later hb, h.is, fun t ht => (h.each t ht).later hb, fun t ht h0 a ha => by
  obtain ⟨h1, cs, h2⟩ := h.free t ht h0 a ha
  exact ⟨h1, cs, block_later h2 hb⟩, h.apart, h.low⟩
theorem getD_app_l {L : List Tv} {t : Tv} {i : Nat} (h : i < L.length) : (L ++ [t]).getD i tv0 = L.getD i tv0 := by
 simp [List.getD, List.getElem?_append_left h]
theorem getD_app_r {L : List Tv} {t : Tv} : (L ++ [t]).getD L.length tv0 = t := by
 simp [List.getD]
theorem InR.step {w0 w2 wr w3 w5 : World} {v v' : Value} {Lx L : List Tv} {j : Nat} (h : InR w0 w2 wr v Lx L j) (hj : j < L.length) (hb : Below wr.heap.size wr w3) (t : Tv) (ht : TvM w3 t) (hc : t.c = (L.getD j tv0).c)
 (hf : 0 < t.n → ∀ a, t.p = some a → wr.heap.size ≤ a.block ∧ ∃ cs, w3.heap[a.block]? = some (.cells cs 50 (0, 0))) (o : Obj)
 (h1 : w5.ownsRow w2.heap.size 47 8 v' (Lx.length + 1) (flatG tce (Lx ++ [t]))) (h2 : (w3.alloc o).grownBy w5 v.ownBlock) : InR w0 w2 w5 v' (Lx ++ [t]) L (j + 1) := by
 have h3 := h.later hb
 have hba : Below w3.heap.size w3 (w3.alloc o) := (Below.refl _ _).alloc (Nat.le_refl _) _
 have hch := Chg.of_grown h2
 have hsz := Nat.le_trans hba.size hch.size
 have hty : ∀ b cs, v.ownBlock = some b → w3.heap[b]? = some (.cells cs 50 (0, 0)) → False := fun b cs e1 e2 => by
  obtain ⟨ds, e3⟩ := own_ty h3.fill.own e1
  rw [e2] at e3
  injection e3 with e3
  injection e3 with _ e4 _
  revert e4
  decide
 have hkeep : ∀ u : Tv, TvM w3 u → (0 < u.n → ∀ a, u.p = some a → ∃ cs, w3.heap[a.block]? = some (.cells cs 50 (0, 0))) → TvM w5 u ∧ (0 < u.n → ∀ a, u.p = some a → ∃ cs, w5.heap[a.block]? = some (.cells cs 50 (0, 0))) := fun u hu hfu => by
  have hk : 0 < u.n → ∀ a, u.p = some a → w5.heap[a.block]? = w3.heap[a.block]? := fun h0 a ha => by
   obtain ⟨cs, e1⟩ := hfu h0 a ha
   have hlt := block_lt e1
   rw [hch.block a.block (Nat.lt_of_lt_of_le hlt hba.size) (fun e => hty _ cs e e1)]
   exact hba.block a.block hlt
  exact ⟨SlG.turn hu hsz fun h0 a ha _ => hk h0 a ha, fun h0 a ha => by
   obtain ⟨cs, e1⟩ := hfu h0 a ha
   exact ⟨cs, (hk h0 a ha).trans e1⟩⟩
 have hold : ∀ u ∈ Lx, 0 < u.n → ∀ a, u.p = some a → a.block < wr.heap.size := fun u hu h0 a ha => by
  obtain ⟨_, cs, e1⟩ := h.free u hu h0 a ha
  exact block_lt e1
 refine ⟨h3.fill.step o h1 h2, ?_, fun u hu => ?_, fun u hu h0 a ha => ?_, fun i k hi hk hik hn1 hn2 a b ha hbk => ?_, ?_⟩
 · rw [List.map_append, h.is, List.take_add_one, List.getElem?_eq_getElem hj, Option.toList_some, List.map_append, List.map_singleton, List.map_singleton, hc, List.getD, List.getElem?_eq_getElem hj, Option.getD_some]
 · rcases List.mem_append.1 hu with e | e
   · exact (hkeep u (h3.each u e) fun h0 a ha => (h3.free u e h0 a ha).2).1
   · rw [List.mem_singleton.1 e]
     exact (hkeep t ht fun h0 a ha => (hf h0 a ha).2).1
 · rcases List.mem_append.1 hu with e | e
   · exact ⟨(h3.free u e h0 a ha).1, (hkeep u (h3.each u e) fun h0 a ha => (h3.free u e h0 a ha).2).2 h0 a ha⟩
   · rw [List.mem_singleton.1 e] at h0 ha
     have hs := h.fill.below.size
     exact ⟨Nat.le_trans hs (hf h0 a ha).1, (hkeep t ht fun h0 a ha => (hf h0 a ha).2).2 h0 a ha⟩
 · rw [List.length_append, List.length_singleton] at hi hk
   have hmem : ∀ i, i < Lx.length → Lx.getD i tv0 ∈ Lx := fun i hi => by
    rw [List.getD, List.getElem?_eq_getElem hi]
    exact List.getElem_mem _
   rcases Nat.lt_or_ge i Lx.length with h1i | h1i
   · rw [getD_app_l h1i] at hn1 ha
     rcases Nat.lt_or_ge k Lx.length with h1k | h1k
     · rw [getD_app_l h1k] at hn2 hbk
       exact h.apart i k h1i h1k hik hn1 hn2 a b ha hbk
     · obtain rfl : k = Lx.length := by omega
       rw [getD_app_r] at hn2 hbk
       have g1 := hold _ (hmem i h1i) hn1 a ha
       have g2 := (hf hn2 b hbk).1
       omega
   · obtain rfl : i = Lx.length := by omega
     rw [getD_app_r] at hn1 ha
     have h1k : k < Lx.length := by omega
     rw [getD_app_l h1k] at hn2 hbk
     have g1 := hold _ (hmem k h1k) hn2 b hbk
     have g2 := (hf hn1 a ha).1
     omega
 · exact h.low
theorem xown_none (w : World) : (w.alloc (.cells #[] 50)).ownsRow 0 50 4 (.slice (some ⟨w.heap.size, 0, none⟩) 0 0) 0 (flatG oc []) :=
 ⟨rfl, .inr ⟨w.heap.size, 0, #[], rfl, Nat.zero_le _, alloc_block _ _, Nat.le_refl _, by unfold maxLen; omega, rfl, rfl⟩⟩
theorem xop_news {w : World} {p : Option Addr} {n c : Nat} {G : List O} (h : OL w p n c G) : (p = none → n = 0 ∧ c = 0) ∧ ∀ ad, p = some ad → ∀ j u, (flatG oc G)[j]? = some u → w.cell? (ad.add j) = some u := by
 refine ⟨fun e => ?_, fun ad ha j u hu => ?_⟩
 · have h1 := h.nil e
   have h2 := h.cap
   omega
 · have hl : (flatG oc G).length = n * 4 := by rw [flatG_len oc_len, h.len]
   have hj : j < n * 4 := by rw [← hl]; exact (List.getElem?_eq_some_iff.1 hu).1
   obtain ⟨b, off, rfl, _, hc⟩ := h.cell (by omega)
   cases ha
   have e : j = j / 4 * 4 + j % 4 := by omega
   rw [e, flatG_at oc_len G (j / 4) (j % 4) (by rw [h.len]; omega) (by omega) (d := o0)] at hu
   have := hc (j / 4) (by omega) (j % 4) u hu
   rw [Go.WideShapes.add_plain]
   rw [show off + j = off + j / 4 * 4 + j % 4 by omega]
   exact this
theorem xoc_one (L : List O) : ∀ u ∈ flatG oc L, u.oneCell' = true := flatG_all oc_one L
theorem InR.scr {w0 w2 wr : World} {v : Value} {Lx L : List Tv} {j : Nat} (h : InR w0 w2 wr v Lx L j) : Scr (fun b => w2.heap.size ≤ b) wr Lx :=
 ⟨fun t ht => ⟨⟨_, h.each t ht⟩, fun h0 a ha => by
  obtain ⟨_, cs, e⟩ := h.free t ht h0 a ha
  exact ⟨cs, _, e⟩⟩, fun t ht h0 a ha => (h.free t ht h0 a ha).1, h.apart⟩
theorem Scr.later {S : Nat → Prop} {w w' : World} {L : List Tv} (h : Scr S w L) (hb : Below w.heap.size w w') : Scr S w' L :=
 ⟨fun t ht => by
  obtain ⟨⟨D, hD⟩, hf⟩ := h.each t ht
  exact ⟨⟨D, hD.later hb⟩, fun h0 a ha => by
   obtain ⟨cs, T, e⟩ := hf h0 a ha
   exact ⟨cs, T, block_later e hb⟩⟩, h.inS, h.apart⟩
def InS (L : List Tv) (b : Nat) : Prop := ∃ t ∈ L, 0 < t.n ∧ ∃ a, t.p = some a ∧ a.block = b
theorem Scr.ins {S : Nat → Prop} {w : World} {L : List Tv} (h : Scr S w L) : Scr (InS L) w L := ⟨h.each, fun t ht h0 a ha => ⟨t, ht, h0, a, ha, rfl⟩, h.apart⟩
structure Wrt (w0 wr : World) (p : Option Addr) (n c : Nat) (L : List Tv) : Prop where
 scr : Scr (InS L) wr L
 chg : Chg (InS L) w0 wr
 row : SlG tce 8 tv0 wr p n c L
 hdr : 0 < n → ∀ a, p = some a → ¬ InS L a.block
theorem Wrt.put {w0 wr : World} {p : Option Addr} {n c : Nat} {L : List Tv} (h : Wrt w0 wr p n c L) {i : Nat} (hi : i < n) {b off k : Nat} (hp : (L.getD i tv0).p = some ⟨b, off, none⟩) (hk : k < (L.getD i tv0).n) (z : Int) : Wrt w0 (wr.setCell ⟨b, off + k * 4 + 3, none⟩ (.int .i64 z)) p n c L := by
 have hi2 : i < L.length := by rw [h.row.len]; exact hi
 have hmem : L.getD i tv0 ∈ L := by
  rw [List.getD, List.getElem?_eq_getElem hi2]
  exact List.getElem_mem _
 have hin : InS L b := ⟨_, hmem, by omega, _, hp, rfl⟩
 have hc : Chg (fun k => k = b) wr (wr.setCell ⟨b, off + k * 4 + 3, none⟩ (.int .i64 z)) := (Chg.refl _ _).setCell _ _ fun _ => rfl
 refine ⟨h.scr.put hi2 hp hk z, h.chg.setCell _ _ fun _ => hin, h.row.turn hc.size fun h0 a ha hlt => hc.block a.block hlt fun e => ?_, h.hdr⟩
 exact h.hdr h0 a ha (e ▸ hin)
end Go.Proofs.YtccgjdmbongbaaaGreatDoor
