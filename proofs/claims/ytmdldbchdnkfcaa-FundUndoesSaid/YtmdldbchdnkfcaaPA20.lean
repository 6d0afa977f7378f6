import Derived.Test.YtmdldbchdnkfcaaPA19
namespace Go.Proofs.Ytmdldbchdnkfcaa
open Go.RowKit Go.ChangeShapes Go.WideShapes
set_option linter.unusedVariables false
set_option linter.unusedSimpArgs false
theorem GivesG.up {α : Type} {enc : α → List Value} {k : Nat} {d : α} {W W1 w' : World} {L : List α} {e : Ending} (h : GivesG enc k d W1 L e w') (hb : Below W.heap.size W W1) : GivesG enc k d W L e w' := by
 obtain ⟨p, c, he, hs, hb2, hp⟩ := h
 exact ⟨p, c, he, hs, hb.trans (hb2.mono hb.size), fun a ha => Nat.le_trans hb.size (hp a ha)⟩
theorem at_below {W w : World} {a : Addr} {v : Value} (hb : Below W.heap.size W w) (h : W.cell? a = some v) : w.cell? a = some v := (hb.cell (World.block_lt_of_cell? _ _ h)).trans h
set_option maxHeartbeats 4000000 in
set_option maxRecDepth 100000 in
theorem fwput_any (p : Option Addr) (n c : Nat) (L : List FW) (k : K) (v : Fv) (W : World) (hL : FWL W p n c L) (hn : n ≤ 100000) :
 Calls Try.prog 27 #[.slice p n c, .agg #[.int .u8 k.1, .int .u8 k.2.1, .int .u8 k.2.2, .int .i64 v.lo, .int .i64 v.hi, .int .i64 v.ba, .int .i64 v.inf, .int .i64 v.sup, .int .i64 v.va]] W (GivesW W (putG L k v)) := by
 rw [← fput_put]
 have HL0 := Lib.hid hL
 obtain ⟨st, hst⟩ : ∃ st : Nat → Bool × List FW, ∀ j, st j = (L.take j).foldl (stG k v) (false, []) := ⟨_, fun _ => rfl⟩
 have hst0 : st 0 = (false, []) := by rw [hst]; rfl
 have HS := Lib.hid fun j (hj : j < n) => (show st (j + 1) = stG k v (st j) (L.getD j fw0) by rw [hst, hst]; exact takeG_fold k v L j (by rw [hL.len]; exact hj))
 have hstn : fputL L k v = if (st n).1 = true then (st n).2 else (st n).2 ++ [(k, v)] := by
  rw [hst, List.take_of_length_le (by rw [hL.len]; exact Nat.le_refl _)]; rfl
 have HSN := Lib.hid hstn
 have HS0 := Lib.hid hst0
 clear hst hst0 hstn hL
 go_enter Try.func27, Try.ntmps27
 go_wp2_with fail
 have HW1 := Lib.hid ((Below.refl W.heap.size W).alloc (Nat.le_refl _) (.cells #[.int .u8 k.1, .int .u8 k.2.1, .int .u8 k.2.2, .int .i64 v.lo, .int .i64 v.hi, .int .i64 v.ba, .int .i64 v.inf, .int .i64 v.sup, .int .i64 v.va] 71))
 have HL := Lib.hid (HL0.out.later ((Below.refl _ _).alloc (Nat.le_refl _) (.cells #[.int .u8 k.1, .int .u8 k.2.1, .int .u8 k.2.2, .int .i64 v.lo, .int .i64 v.hi, .int .i64 v.ba, .int .i64 v.inf, .int .i64 v.sup, .int .i64 v.va] 71)))
 have HX : Hid ((W.alloc (.cells #[.int .u8 k.1, .int .u8 k.2.1, .int .u8 k.2.2, .int .i64 v.lo, .int .i64 v.hi, .int .i64 v.ba, .int .i64 v.inf, .int .i64 v.sup, .int .i64 v.va] 71)).heap[W.heap.size]? = some (.cells #[.int .u8 k.1, .int .u8 k.2.1, .int .u8 k.2.2, .int .i64 v.lo, .int .i64 v.hi, .int .i64 v.ba, .int .i64 v.inf, .int .i64 v.sup, .int .i64 v.va] 71 (0, 0))) := Lib.hid (alloc_block _ _)
 generalize W.alloc (.cells #[.int .u8 k.1, .int .u8 k.2.1, .int .u8 k.2.2, .int .i64 v.lo, .int .i64 v.hi, .int .i64 v.ba, .int .i64 v.inf, .int .i64 v.sup, .int .i64 v.va] 71) = W1 at *
 generalize hX : W.heap.size = X at *
 have HXX := Lib.hid hX
 clear hX HL0
 have X0 : Hid (W1.cell? ⟨X, 0, none⟩ = some (.int .u8 k.1)) := Lib.hid (block_cell (j := 0) HX.out rfl)
 have X1 : Hid (W1.cell? ⟨X, 1, none⟩ = some (.int .u8 k.2.1)) := Lib.hid (block_cell (j := 1) HX.out rfl)
 have X2 : Hid (W1.cell? ⟨X, 2, none⟩ = some (.int .u8 k.2.2)) := Lib.hid (block_cell (j := 2) HX.out rfl)
 have X3 : Hid (W1.cell? ⟨X, 3, none⟩ = some (.int .i64 v.lo)) := Lib.hid (block_cell (j := 3) HX.out rfl)
 have X4 : Hid (W1.cell? ⟨X, 4, none⟩ = some (.int .i64 v.hi)) := Lib.hid (block_cell (j := 4) HX.out rfl)
 have X5 : Hid (W1.cell? ⟨X, 5, none⟩ = some (.int .i64 v.ba)) := Lib.hid (block_cell (j := 5) HX.out rfl)
 have X6 : Hid (W1.cell? ⟨X, 6, none⟩ = some (.int .i64 v.inf)) := Lib.hid (block_cell (j := 6) HX.out rfl)
 have X7 : Hid (W1.cell? ⟨X, 7, none⟩ = some (.int .i64 v.sup)) := Lib.hid (block_cell (j := 7) HX.out rfl)
 have X8 : Hid (W1.cell? ⟨X, 8, none⟩ = some (.int .i64 v.va)) := Lib.hid (block_cell (j := 8) HX.out rfl)
 go_loopw [5, 6, 7] (fun u d i wr => ∃ j : Nat, j ≤ n ∧ i = .int .i64 j ∧ d = .bool (st j).1 ∧ Hid (FillW W1 wr u (st j).2 (2 * j))) (fun _ _ i _ => n - (intOf i).toNat)
 case atStart => exact ⟨0, Nat.zero_le _, rfl, by rw [HS0.out], Lib.hid (by rw [HS0.out]; exact ⟨World.ownsRow_nil _ _ _ _, Below.refl _ _, Nat.le_refl _⟩)⟩
 case round =>
  obtain ⟨j, hj, rfl, rfl, HF⟩ := hrel
  by_cases hlt : j < n
  · have hlt' : (j : Int) < n := by omega
    have hnm : (n : Int) ≤ 100000 := by omega
    obtain ⟨b, off, rfl, c0, c1, c2, c3, c4, c5, c6, c7, c8⟩ := frow_cells HL.out hlt
    have hsucc := HS.out j hlt
    generalize L.getD j fw0 = x at *
    have C0 := Lib.hid c0
    have C1 := Lib.hid c1
    have C2 := Lib.hid c2
    have C3 := Lib.hid c3
    have C4 := Lib.hid c4
    have C5 := Lib.hid c5
    have C6 := Lib.hid c6
    have C7 := Lib.hid c7
    have C8 := Lib.hid c8
    clear c0 c1 c2 c3 c4 c5 c6 c7 c8
    have HLS := Lib.hid fun W => less_any x.1 k W
    have qn := fun W => key_neq x.1.1 x.1.2.1 x.1.2.2 k.1 k.2.1 k.2.2 W
    have hd : decide (((x.1.1, x.1.2.1, x.1.2.2) : K) = (k.1, k.2.1, k.2.2)) = decide (x.1 = k) := rfl
    rw [hd] at qn
    clear hd
    generalize st j = sj at *
    obtain ⟨d, out⟩ := sj
    dsimp only at HF ⊢
    have c0 := at_below HF.out.below C0.out
    have c1 := at_below HF.out.below C1.out
    have c2 := at_below HF.out.below C2.out
    have c3 := at_below HF.out.below C3.out
    have c4 := at_below HF.out.below C4.out
    have c5 := at_below HF.out.below C5.out
    have c6 := at_below HF.out.below C6.out
    have c7 := at_below HF.out.below C7.out
    have c8 := at_below HF.out.below C8.out
    have x0 := at_below HF.out.below X0.out
    have x1 := at_below HF.out.below X1.out
    have x2 := at_below HF.out.below X2.out
    have x3 := at_below HF.out.below X3.out
    have x4 := at_below HF.out.below X4.out
    have x5 := at_below HF.out.below X5.out
    have x6 := at_below HF.out.below X6.out
    have x7 := at_below HF.out.below X7.out
    have x8 := at_below HF.out.below X8.out
    have cc0 := fun p : After _ => cell_after p c0
    have cc1 := fun p : After _ => cell_after p c1
    have cc2 := fun p : After _ => cell_after p c2
    have cc3 := fun p : After _ => cell_after p c3
    have cc4 := fun p : After _ => cell_after p c4
    have cc5 := fun p : After _ => cell_after p c5
    have cc6 := fun p : After _ => cell_after p c6
    have cc7 := fun p : After _ => cell_after p c7
    have cc8 := fun p : After _ => cell_after p c8
    have xx0 := fun p : After _ => cell_after p x0
    have xx1 := fun p : After _ => cell_after p x1
    have xx2 := fun p : After _ => cell_after p x2
    have xx3 := fun p : After _ => cell_after p x3
    have xx4 := fun p : After _ => cell_after p x4
    have xx5 := fun p : After _ => cell_after p x5
    have xx6 := fun p : After _ => cell_after p x6
    have xx7 := fun p : After _ => cell_after p x7
    have xx8 := fun p : After _ => cell_after p x8
    cases d with
    | true =>
     by_cases hxk : x.1 = k
     · have hst : st (j + 1) = (true, out) := by rw [hsucc]; simp [stG, hxk]
       have HST := Lib.hid hst
       clear hst hsucc
       have HXK := Lib.hid hxk
       rw [decide_eq_true hxk] at qn
       clear hxk
       go_wp2_with fail
       refine wp_region_after (by kernel_rfl) (by kernel_rfl) ?_
       repeat (go_big_quiet_step (fail))
       refine wpQuiet_nil ?_
       intro w1 hw'
       obtain ⟨⟨wq, h6⟩, hw''⟩ := hw'
       subst hw''
       have HF1 := Lib.hid (HF.out.later h6)
       clear c0 c1 c2 c3 c4 c5 c6 c7 c8 x0 x1 x2 x3 x4 x5 x6 x7 x8 cc0 cc1 cc2 cc3 cc4 cc5 cc6 cc7 cc8 xx0 xx1 xx2 xx3 xx4 xx5 xx6 xx7 xx8
       clear h6 HF
       have c0 := at_below HF1.out.below C0.out
       have c1 := at_below HF1.out.below C1.out
       have c2 := at_below HF1.out.below C2.out
       have c3 := at_below HF1.out.below C3.out
       have c4 := at_below HF1.out.below C4.out
       have c5 := at_below HF1.out.below C5.out
       have c6 := at_below HF1.out.below C6.out
       have c7 := at_below HF1.out.below C7.out
       have c8 := at_below HF1.out.below C8.out
       have x0 := at_below HF1.out.below X0.out
       have x1 := at_below HF1.out.below X1.out
       have x2 := at_below HF1.out.below X2.out
       have x3 := at_below HF1.out.below X3.out
       have x4 := at_below HF1.out.below X4.out
       have x5 := at_below HF1.out.below X5.out
       have x6 := at_below HF1.out.below X6.out
       have x7 := at_below HF1.out.below X7.out
       have x8 := at_below HF1.out.below X8.out
       have cc0 := fun p : After _ => cell_after p c0
       have cc1 := fun p : After _ => cell_after p c1
       have cc2 := fun p : After _ => cell_after p c2
       have cc3 := fun p : After _ => cell_after p c3
       have cc4 := fun p : After _ => cell_after p c4
       have cc5 := fun p : After _ => cell_after p c5
       have cc6 := fun p : After _ => cell_after p c6
       have cc7 := fun p : After _ => cell_after p c7
       have cc8 := fun p : After _ => cell_after p c8
       have xx0 := fun p : After _ => cell_after p x0
       have xx1 := fun p : After _ => cell_after p x1
       have xx2 := fun p : After _ => cell_after p x2
       have xx3 := fun p : After _ => cell_after p x3
       have xx4 := fun p : After _ => cell_after p x4
       have xx5 := fun p : After _ => cell_after p x5
       have xx6 := fun p : After _ => cell_after p x6
       have xx7 := fun p : After _ => cell_after p x7
       have xx8 := fun p : After _ => cell_after p x8
       go_wp2_with fail
       refine wp_region_after (by kernel_rfl) (by kernel_rfl) ?_
       repeat (go_big_quiet_step (fail))
       refine wpQuiet_nil ?_
       intro w3 hw'
       obtain ⟨⟨wq, h6⟩, hw''⟩ := hw'
       subst hw''
       have HF3 := Lib.hid (HF1.out.later h6)
       clear c0 c1 c2 c3 c4 c5 c6 c7 c8 x0 x1 x2 x3 x4 x5 x6 x7 x8 cc0 cc1 cc2 cc3 cc4 cc5 cc6 cc7 cc8 xx0 xx1 xx2 xx3 xx4 xx5 xx6 xx7 xx8
       clear h6 HF1
       skip
       go_wp2_with fail
       go_roundw
       case rel => exact ⟨j + 1, by omega, by go_num, by rw [HST.out], Lib.hid (by rw [HST.out]; exact HF3.out.mono (by omega))⟩
       case measure => simp [intOf]; omega
     · have hst : st (j + 1) = (true, (out) ++ [x]) := by rw [hsucc]; simp [stG, hxk]
       have HST := Lib.hid hst
       clear hst hsucc
       rw [decide_eq_false hxk] at qn
       clear hxk
       go_wp2_with fail
       refine wp_region_after (by kernel_rfl) (by kernel_rfl) ?_
       repeat (go_big_quiet_step (fail))
       refine wpQuiet_nil ?_
       intro w1 hw'
       obtain ⟨⟨wq, h6⟩, hw''⟩ := hw'
       subst hw''
       have HF1 := Lib.hid (HF.out.later h6)
       clear c0 c1 c2 c3 c4 c5 c6 c7 c8 x0 x1 x2 x3 x4 x5 x6 x7 x8 cc0 cc1 cc2 cc3 cc4 cc5 cc6 cc7 cc8 xx0 xx1 xx2 xx3 xx4 xx5 xx6 xx7 xx8
       clear h6 HF
       have c0 := at_below HF1.out.below C0.out
       have c1 := at_below HF1.out.below C1.out
       have c2 := at_below HF1.out.below C2.out
       have c3 := at_below HF1.out.below C3.out
       have c4 := at_below HF1.out.below C4.out
       have c5 := at_below HF1.out.below C5.out
       have c6 := at_below HF1.out.below C6.out
       have c7 := at_below HF1.out.below C7.out
       have c8 := at_below HF1.out.below C8.out
       have x0 := at_below HF1.out.below X0.out
       have x1 := at_below HF1.out.below X1.out
       have x2 := at_below HF1.out.below X2.out
       have x3 := at_below HF1.out.below X3.out
       have x4 := at_below HF1.out.below X4.out
       have x5 := at_below HF1.out.below X5.out
       have x6 := at_below HF1.out.below X6.out
       have x7 := at_below HF1.out.below X7.out
       have x8 := at_below HF1.out.below X8.out
       have cc0 := fun p : After _ => cell_after p c0
       have cc1 := fun p : After _ => cell_after p c1
       have cc2 := fun p : After _ => cell_after p c2
       have cc3 := fun p : After _ => cell_after p c3
       have cc4 := fun p : After _ => cell_after p c4
       have cc5 := fun p : After _ => cell_after p c5
       have cc6 := fun p : After _ => cell_after p c6
       have cc7 := fun p : After _ => cell_after p c7
       have cc8 := fun p : After _ => cell_after p c8
       have xx0 := fun p : After _ => cell_after p x0
       have xx1 := fun p : After _ => cell_after p x1
       have xx2 := fun p : After _ => cell_after p x2
       have xx3 := fun p : After _ => cell_after p x3
       have xx4 := fun p : After _ => cell_after p x4
       have xx5 := fun p : After _ => cell_after p x5
       have xx6 := fun p : After _ => cell_after p x6
       have xx7 := fun p : After _ => cell_after p x7
       have xx8 := fun p : After _ => cell_after p x8
       go_wp2_with fail
       refine wp_region_after (by kernel_rfl) (by kernel_rfl) ?_
       repeat (go_big_quiet_step (fail))
       refine wpQuiet_nil ?_
       intro w3 hw'
       obtain ⟨⟨wq, h6⟩, hw''⟩ := hw'
       subst hw''
       have HF3 := Lib.hid (HF1.out.later h6)
       clear c0 c1 c2 c3 c4 c5 c6 c7 c8 x0 x1 x2 x3 x4 x5 x6 x7 x8 cc0 cc1 cc2 cc3 cc4 cc5 cc6 cc7 cc8 xx0 xx1 xx2 xx3 xx4 xx5 xx6 xx7 xx8
       clear h6 HF1
       have c0 := at_below HF3.out.below C0.out
       have c1 := at_below HF3.out.below C1.out
       have c2 := at_below HF3.out.below C2.out
       have c3 := at_below HF3.out.below C3.out
       have c4 := at_below HF3.out.below C4.out
       have c5 := at_below HF3.out.below C5.out
       have c6 := at_below HF3.out.below C6.out
       have c7 := at_below HF3.out.below C7.out
       have c8 := at_below HF3.out.below C8.out
       have x0 := at_below HF3.out.below X0.out
       have x1 := at_below HF3.out.below X1.out
       have x2 := at_below HF3.out.below X2.out
       have x3 := at_below HF3.out.below X3.out
       have x4 := at_below HF3.out.below X4.out
       have x5 := at_below HF3.out.below X5.out
       have x6 := at_below HF3.out.below X6.out
       have x7 := at_below HF3.out.below X7.out
       have x8 := at_below HF3.out.below X8.out
       have cc0 := fun p : After _ => cell_after p c0
       have cc1 := fun p : After _ => cell_after p c1
       have cc2 := fun p : After _ => cell_after p c2
       have cc3 := fun p : After _ => cell_after p c3
       have cc4 := fun p : After _ => cell_after p c4
       have cc5 := fun p : After _ => cell_after p c5
       have cc6 := fun p : After _ => cell_after p c6
       have cc7 := fun p : After _ => cell_after p c7
       have cc8 := fun p : After _ => cell_after p c8
       have xx0 := fun p : After _ => cell_after p x0
       have xx1 := fun p : After _ => cell_after p x1
       have xx2 := fun p : After _ => cell_after p x2
       have xx3 := fun p : After _ => cell_after p x3
       have xx4 := fun p : After _ => cell_after p x4
       have xx5 := fun p : After _ => cell_after p x5
       have xx6 := fun p : After _ => cell_after p x6
       have xx7 := fun p : After _ => cell_after p x7
       have xx8 := fun p : After _ => cell_after p x8
       have hsz := HF3.out.below.size
       have hmost := HF3.out.most
       go_wp2_with (at_builtin; refine wpList_append_frow rfl _ _ rfl W1.heap.size _ (out).length (out) rfl (HF3.out.own.alloc _) (by omega) x w3.heap.size rfl (frow_news w3 x) (by simp; omega) ?_; intro v4 w4 h1 h2)
       have HF4 := Lib.hid (HF3.out.step _ h1 h2)
       clear h1 h2 hsz hmost
       clear c0 c1 c2 c3 c4 c5 c6 c7 c8 x0 x1 x2 x3 x4 x5 x6 x7 x8 cc0 cc1 cc2 cc3 cc4 cc5 cc6 cc7 cc8 xx0 xx1 xx2 xx3 xx4 xx5 xx6 xx7 xx8
       clear HF3
       go_wp2_with fail
       go_roundw
       case rel => exact ⟨j + 1, by omega, by go_num, by rw [HST.out], Lib.hid (by rw [HST.out]; exact HF4.out.mono (by omega))⟩
       case measure => simp [intOf]; omega
    | false =>
     cases hless : lessB x.1 k with
     | true =>
      rw [hless] at HLS
      have hxk : ¬ x.1 = k := fun e => by rw [e, less_irrefl] at hless; cases hless
      have hst : st (j + 1) = (false, (out) ++ [x]) := by rw [hsucc]; unfold stG; rw [hless]; simp [hxk]
      have HST := Lib.hid hst
      clear hst hsucc hless
      rw [decide_eq_false hxk] at qn
      clear hxk
      go_wp2_with fail
      refine wp_region_after (by kernel_rfl) (by kernel_rfl) ?_
      repeat (go_big_quiet_step (first | (go_at_call 48; exact calls_after_gr _ (HLS.out _))))
      refine wpQuiet_nil ?_
      intro w1 hw'
      obtain ⟨⟨wq, h6⟩, hw''⟩ := hw'
      subst hw''
      have HF1 := Lib.hid (HF.out.later h6)
      clear c0 c1 c2 c3 c4 c5 c6 c7 c8 x0 x1 x2 x3 x4 x5 x6 x7 x8 cc0 cc1 cc2 cc3 cc4 cc5 cc6 cc7 cc8 xx0 xx1 xx2 xx3 xx4 xx5 xx6 xx7 xx8
      clear h6 HF
      have c0 := at_below HF1.out.below C0.out
      have c1 := at_below HF1.out.below C1.out
      have c2 := at_below HF1.out.below C2.out
      have c3 := at_below HF1.out.below C3.out
      have c4 := at_below HF1.out.below C4.out
      have c5 := at_below HF1.out.below C5.out
      have c6 := at_below HF1.out.below C6.out
      have c7 := at_below HF1.out.below C7.out
      have c8 := at_below HF1.out.below C8.out
      have x0 := at_below HF1.out.below X0.out
      have x1 := at_below HF1.out.below X1.out
      have x2 := at_below HF1.out.below X2.out
      have x3 := at_below HF1.out.below X3.out
      have x4 := at_below HF1.out.below X4.out
      have x5 := at_below HF1.out.below X5.out
      have x6 := at_below HF1.out.below X6.out
      have x7 := at_below HF1.out.below X7.out
      have x8 := at_below HF1.out.below X8.out
      have cc0 := fun p : After _ => cell_after p c0
      have cc1 := fun p : After _ => cell_after p c1
      have cc2 := fun p : After _ => cell_after p c2
      have cc3 := fun p : After _ => cell_after p c3
      have cc4 := fun p : After _ => cell_after p c4
      have cc5 := fun p : After _ => cell_after p c5
      have cc6 := fun p : After _ => cell_after p c6
      have cc7 := fun p : After _ => cell_after p c7
      have cc8 := fun p : After _ => cell_after p c8
      have xx0 := fun p : After _ => cell_after p x0
      have xx1 := fun p : After _ => cell_after p x1
      have xx2 := fun p : After _ => cell_after p x2
      have xx3 := fun p : After _ => cell_after p x3
      have xx4 := fun p : After _ => cell_after p x4
      have xx5 := fun p : After _ => cell_after p x5
      have xx6 := fun p : After _ => cell_after p x6
      have xx7 := fun p : After _ => cell_after p x7
      have xx8 := fun p : After _ => cell_after p x8
      go_wp2_with fail
      refine wp_region_after (by kernel_rfl) (by kernel_rfl) ?_
      repeat (go_big_quiet_step (fail))
      refine wpQuiet_nil ?_
      intro w3 hw'
      obtain ⟨⟨wq, h6⟩, hw''⟩ := hw'
      subst hw''
      have HF3 := Lib.hid (HF1.out.later h6)
      clear c0 c1 c2 c3 c4 c5 c6 c7 c8 x0 x1 x2 x3 x4 x5 x6 x7 x8 cc0 cc1 cc2 cc3 cc4 cc5 cc6 cc7 cc8 xx0 xx1 xx2 xx3 xx4 xx5 xx6 xx7 xx8
      clear h6 HF1
      have c0 := at_below HF3.out.below C0.out
      have c1 := at_below HF3.out.below C1.out
      have c2 := at_below HF3.out.below C2.out
      have c3 := at_below HF3.out.below C3.out
      have c4 := at_below HF3.out.below C4.out
      have c5 := at_below HF3.out.below C5.out
      have c6 := at_below HF3.out.below C6.out
      have c7 := at_below HF3.out.below C7.out
      have c8 := at_below HF3.out.below C8.out
      have x0 := at_below HF3.out.below X0.out
      have x1 := at_below HF3.out.below X1.out
      have x2 := at_below HF3.out.below X2.out
      have x3 := at_below HF3.out.below X3.out
      have x4 := at_below HF3.out.below X4.out
      have x5 := at_below HF3.out.below X5.out
      have x6 := at_below HF3.out.below X6.out
      have x7 := at_below HF3.out.below X7.out
      have x8 := at_below HF3.out.below X8.out
      have cc0 := fun p : After _ => cell_after p c0
      have cc1 := fun p : After _ => cell_after p c1
      have cc2 := fun p : After _ => cell_after p c2
      have cc3 := fun p : After _ => cell_after p c3
      have cc4 := fun p : After _ => cell_after p c4
      have cc5 := fun p : After _ => cell_after p c5
      have cc6 := fun p : After _ => cell_after p c6
      have cc7 := fun p : After _ => cell_after p c7
      have cc8 := fun p : After _ => cell_after p c8
      have xx0 := fun p : After _ => cell_after p x0
      have xx1 := fun p : After _ => cell_after p x1
      have xx2 := fun p : After _ => cell_after p x2
      have xx3 := fun p : After _ => cell_after p x3
      have xx4 := fun p : After _ => cell_after p x4
      have xx5 := fun p : After _ => cell_after p x5
      have xx6 := fun p : After _ => cell_after p x6
      have xx7 := fun p : After _ => cell_after p x7
      have xx8 := fun p : After _ => cell_after p x8
      have hsz := HF3.out.below.size
      have hmost := HF3.out.most
      go_wp2_with (at_builtin; refine wpList_append_frow rfl _ _ rfl W1.heap.size _ (out).length (out) rfl (HF3.out.own.alloc _) (by omega) x w3.heap.size rfl (frow_news w3 x) (by simp; omega) ?_; intro v4 w4 h1 h2)
      have HF4 := Lib.hid (HF3.out.step _ h1 h2)
      clear h1 h2 hsz hmost
      clear c0 c1 c2 c3 c4 c5 c6 c7 c8 x0 x1 x2 x3 x4 x5 x6 x7 x8 cc0 cc1 cc2 cc3 cc4 cc5 cc6 cc7 cc8 xx0 xx1 xx2 xx3 xx4 xx5 xx6 xx7 xx8
      clear HF3
      go_wp2_with fail
      go_roundw
      case rel => exact ⟨j + 1, by omega, by go_num, by rw [HST.out], Lib.hid (by rw [HST.out]; exact HF4.out.mono (by omega))⟩
      case measure => simp [intOf]; omega
     | false =>
      rw [hless] at HLS
      by_cases hxk : x.1 = k
      · have hst : st (j + 1) = (true, out ++ [(k, v)]) := by rw [hsucc]; unfold stG; rw [hless]; simp [hxk]
        have HST := Lib.hid hst
        clear hst hsucc hless
        have HXK := Lib.hid hxk
        rw [decide_eq_true hxk] at qn
        clear hxk
        go_wp2_with fail
        refine wp_region_after (by kernel_rfl) (by kernel_rfl) ?_
        repeat (go_big_quiet_step (first | (go_at_call 48; exact calls_after_gr _ (HLS.out _))))
        refine wpQuiet_nil ?_
        intro w1 hw'
        obtain ⟨⟨wq, h6⟩, hw''⟩ := hw'
        subst hw''
        have HF1 := Lib.hid (HF.out.later h6)
        clear c0 c1 c2 c3 c4 c5 c6 c7 c8 x0 x1 x2 x3 x4 x5 x6 x7 x8 cc0 cc1 cc2 cc3 cc4 cc5 cc6 cc7 cc8 xx0 xx1 xx2 xx3 xx4 xx5 xx6 xx7 xx8
        clear h6 HF
        have c0 := at_below HF1.out.below C0.out
        have c1 := at_below HF1.out.below C1.out
        have c2 := at_below HF1.out.below C2.out
        have c3 := at_below HF1.out.below C3.out
        have c4 := at_below HF1.out.below C4.out
        have c5 := at_below HF1.out.below C5.out
        have c6 := at_below HF1.out.below C6.out
        have c7 := at_below HF1.out.below C7.out
        have c8 := at_below HF1.out.below C8.out
        have x0 := at_below HF1.out.below X0.out
        have x1 := at_below HF1.out.below X1.out
        have x2 := at_below HF1.out.below X2.out
        have x3 := at_below HF1.out.below X3.out
        have x4 := at_below HF1.out.below X4.out
        have x5 := at_below HF1.out.below X5.out
        have x6 := at_below HF1.out.below X6.out
        have x7 := at_below HF1.out.below X7.out
        have x8 := at_below HF1.out.below X8.out
        have cc0 := fun p : After _ => cell_after p c0
        have cc1 := fun p : After _ => cell_after p c1
        have cc2 := fun p : After _ => cell_after p c2
        have cc3 := fun p : After _ => cell_after p c3
        have cc4 := fun p : After _ => cell_after p c4
        have cc5 := fun p : After _ => cell_after p c5
        have cc6 := fun p : After _ => cell_after p c6
        have cc7 := fun p : After _ => cell_after p c7
        have cc8 := fun p : After _ => cell_after p c8
        have xx0 := fun p : After _ => cell_after p x0
        have xx1 := fun p : After _ => cell_after p x1
        have xx2 := fun p : After _ => cell_after p x2
        have xx3 := fun p : After _ => cell_after p x3
        have xx4 := fun p : After _ => cell_after p x4
        have xx5 := fun p : After _ => cell_after p x5
        have xx6 := fun p : After _ => cell_after p x6
        have xx7 := fun p : After _ => cell_after p x7
        have xx8 := fun p : After _ => cell_after p x8
        have hsz := HF1.out.below.size
        have hmost := HF1.out.most
        go_wp2_with (at_builtin; refine wpList_append_frow rfl _ _ rfl W1.heap.size _ (out).length (out) rfl (HF1.out.own.alloc _) (by omega) (k, v) w1.heap.size rfl (frow_news w1 (k, v)) (by simp; omega) ?_; intro v2 w2 h1 h2)
        have HF2 := Lib.hid (HF1.out.step _ h1 h2)
        clear h1 h2 hsz hmost
        clear c0 c1 c2 c3 c4 c5 c6 c7 c8 x0 x1 x2 x3 x4 x5 x6 x7 x8 cc0 cc1 cc2 cc3 cc4 cc5 cc6 cc7 cc8 xx0 xx1 xx2 xx3 xx4 xx5 xx6 xx7 xx8
        clear HF1
        have c0 := at_below HF2.out.below C0.out
        have c1 := at_below HF2.out.below C1.out
        have c2 := at_below HF2.out.below C2.out
        have c3 := at_below HF2.out.below C3.out
        have c4 := at_below HF2.out.below C4.out
        have c5 := at_below HF2.out.below C5.out
        have c6 := at_below HF2.out.below C6.out
        have c7 := at_below HF2.out.below C7.out
        have c8 := at_below HF2.out.below C8.out
        have x0 := at_below HF2.out.below X0.out
        have x1 := at_below HF2.out.below X1.out
        have x2 := at_below HF2.out.below X2.out
        have x3 := at_below HF2.out.below X3.out
        have x4 := at_below HF2.out.below X4.out
        have x5 := at_below HF2.out.below X5.out
        have x6 := at_below HF2.out.below X6.out
        have x7 := at_below HF2.out.below X7.out
        have x8 := at_below HF2.out.below X8.out
        have cc0 := fun p : After _ => cell_after p c0
        have cc1 := fun p : After _ => cell_after p c1
        have cc2 := fun p : After _ => cell_after p c2
        have cc3 := fun p : After _ => cell_after p c3
        have cc4 := fun p : After _ => cell_after p c4
        have cc5 := fun p : After _ => cell_after p c5
        have cc6 := fun p : After _ => cell_after p c6
        have cc7 := fun p : After _ => cell_after p c7
        have cc8 := fun p : After _ => cell_after p c8
        have xx0 := fun p : After _ => cell_after p x0
        have xx1 := fun p : After _ => cell_after p x1
        have xx2 := fun p : After _ => cell_after p x2
        have xx3 := fun p : After _ => cell_after p x3
        have xx4 := fun p : After _ => cell_after p x4
        have xx5 := fun p : After _ => cell_after p x5
        have xx6 := fun p : After _ => cell_after p x6
        have xx7 := fun p : After _ => cell_after p x7
        have xx8 := fun p : After _ => cell_after p x8
        go_wp2_with fail
        refine wp_region_after (by kernel_rfl) (by kernel_rfl) ?_
        repeat (go_big_quiet_step (fail))
        refine wpQuiet_nil ?_
        intro w3 hw'
        obtain ⟨⟨wq, h6⟩, hw''⟩ := hw'
        subst hw''
        have HF3 := Lib.hid (HF2.out.later h6)
        clear c0 c1 c2 c3 c4 c5 c6 c7 c8 x0 x1 x2 x3 x4 x5 x6 x7 x8 cc0 cc1 cc2 cc3 cc4 cc5 cc6 cc7 cc8 xx0 xx1 xx2 xx3 xx4 xx5 xx6 xx7 xx8
        clear h6 HF2
        skip
        go_wp2_with fail
        go_roundw
        case rel => exact ⟨j + 1, by omega, by go_num, by rw [HST.out], Lib.hid (by rw [HST.out]; exact HF3.out.mono (by omega))⟩
        case measure => simp [intOf]; omega
      · have hst : st (j + 1) = (true, (out ++ [(k, v)]) ++ [x]) := by rw [hsucc]; unfold stG; rw [hless]; simp [hxk]
        have HST := Lib.hid hst
        clear hst hsucc hless
        rw [decide_eq_false hxk] at qn
        clear hxk
        go_wp2_with fail
        refine wp_region_after (by kernel_rfl) (by kernel_rfl) ?_
        repeat (go_big_quiet_step (first | (go_at_call 48; exact calls_after_gr _ (HLS.out _))))
        refine wpQuiet_nil ?_
        intro w1 hw'
        obtain ⟨⟨wq, h6⟩, hw''⟩ := hw'
        subst hw''
        have HF1 := Lib.hid (HF.out.later h6)
        clear c0 c1 c2 c3 c4 c5 c6 c7 c8 x0 x1 x2 x3 x4 x5 x6 x7 x8 cc0 cc1 cc2 cc3 cc4 cc5 cc6 cc7 cc8 xx0 xx1 xx2 xx3 xx4 xx5 xx6 xx7 xx8
        clear h6 HF
        have c0 := at_below HF1.out.below C0.out
        have c1 := at_below HF1.out.below C1.out
        have c2 := at_below HF1.out.below C2.out
        have c3 := at_below HF1.out.below C3.out
        have c4 := at_below HF1.out.below C4.out
        have c5 := at_below HF1.out.below C5.out
        have c6 := at_below HF1.out.below C6.out
        have c7 := at_below HF1.out.below C7.out
        have c8 := at_below HF1.out.below C8.out
        have x0 := at_below HF1.out.below X0.out
        have x1 := at_below HF1.out.below X1.out
        have x2 := at_below HF1.out.below X2.out
        have x3 := at_below HF1.out.below X3.out
        have x4 := at_below HF1.out.below X4.out
        have x5 := at_below HF1.out.below X5.out
        have x6 := at_below HF1.out.below X6.out
        have x7 := at_below HF1.out.below X7.out
        have x8 := at_below HF1.out.below X8.out
        have cc0 := fun p : After _ => cell_after p c0
        have cc1 := fun p : After _ => cell_after p c1
        have cc2 := fun p : After _ => cell_after p c2
        have cc3 := fun p : After _ => cell_after p c3
        have cc4 := fun p : After _ => cell_after p c4
        have cc5 := fun p : After _ => cell_after p c5
        have cc6 := fun p : After _ => cell_after p c6
        have cc7 := fun p : After _ => cell_after p c7
        have cc8 := fun p : After _ => cell_after p c8
        have xx0 := fun p : After _ => cell_after p x0
        have xx1 := fun p : After _ => cell_after p x1
        have xx2 := fun p : After _ => cell_after p x2
        have xx3 := fun p : After _ => cell_after p x3
        have xx4 := fun p : After _ => cell_after p x4
        have xx5 := fun p : After _ => cell_after p x5
        have xx6 := fun p : After _ => cell_after p x6
        have xx7 := fun p : After _ => cell_after p x7
        have xx8 := fun p : After _ => cell_after p x8
        have hsz := HF1.out.below.size
        have hmost := HF1.out.most
        go_wp2_with (at_builtin; refine wpList_append_frow rfl _ _ rfl W1.heap.size _ (out).length (out) rfl (HF1.out.own.alloc _) (by omega) (k, v) w1.heap.size rfl (frow_news w1 (k, v)) (by simp; omega) ?_; intro v2 w2 h1 h2)
        have HF2 := Lib.hid (HF1.out.step _ h1 h2)
        clear h1 h2 hsz hmost
        clear c0 c1 c2 c3 c4 c5 c6 c7 c8 x0 x1 x2 x3 x4 x5 x6 x7 x8 cc0 cc1 cc2 cc3 cc4 cc5 cc6 cc7 cc8 xx0 xx1 xx2 xx3 xx4 xx5 xx6 xx7 xx8
        clear HF1
        have c0 := at_below HF2.out.below C0.out
        have c1 := at_below HF2.out.below C1.out
        have c2 := at_below HF2.out.below C2.out
        have c3 := at_below HF2.out.below C3.out
        have c4 := at_below HF2.out.below C4.out
        have c5 := at_below HF2.out.below C5.out
        have c6 := at_below HF2.out.below C6.out
        have c7 := at_below HF2.out.below C7.out
        have c8 := at_below HF2.out.below C8.out
        have x0 := at_below HF2.out.below X0.out
        have x1 := at_below HF2.out.below X1.out
        have x2 := at_below HF2.out.below X2.out
        have x3 := at_below HF2.out.below X3.out
        have x4 := at_below HF2.out.below X4.out
        have x5 := at_below HF2.out.below X5.out
        have x6 := at_below HF2.out.below X6.out
        have x7 := at_below HF2.out.below X7.out
        have x8 := at_below HF2.out.below X8.out
        have cc0 := fun p : After _ => cell_after p c0
        have cc1 := fun p : After _ => cell_after p c1
        have cc2 := fun p : After _ => cell_after p c2
        have cc3 := fun p : After _ => cell_after p c3
        have cc4 := fun p : After _ => cell_after p c4
        have cc5 := fun p : After _ => cell_after p c5
        have cc6 := fun p : After _ => cell_after p c6
        have cc7 := fun p : After _ => cell_after p c7
        have cc8 := fun p : After _ => cell_after p c8
        have xx0 := fun p : After _ => cell_after p x0
        have xx1 := fun p : After _ => cell_after p x1
        have xx2 := fun p : After _ => cell_after p x2
        have xx3 := fun p : After _ => cell_after p x3
        have xx4 := fun p : After _ => cell_after p x4
        have xx5 := fun p : After _ => cell_after p x5
        have xx6 := fun p : After _ => cell_after p x6
        have xx7 := fun p : After _ => cell_after p x7
        have xx8 := fun p : After _ => cell_after p x8
        go_wp2_with fail
        refine wp_region_after (by kernel_rfl) (by kernel_rfl) ?_
        repeat (go_big_quiet_step (fail))
        refine wpQuiet_nil ?_
        intro w3 hw'
        obtain ⟨⟨wq, h6⟩, hw''⟩ := hw'
        subst hw''
        have HF3 := Lib.hid (HF2.out.later h6)
        clear c0 c1 c2 c3 c4 c5 c6 c7 c8 x0 x1 x2 x3 x4 x5 x6 x7 x8 cc0 cc1 cc2 cc3 cc4 cc5 cc6 cc7 cc8 xx0 xx1 xx2 xx3 xx4 xx5 xx6 xx7 xx8
        clear h6 HF2
        have c0 := at_below HF3.out.below C0.out
        have c1 := at_below HF3.out.below C1.out
        have c2 := at_below HF3.out.below C2.out
        have c3 := at_below HF3.out.below C3.out
        have c4 := at_below HF3.out.below C4.out
        have c5 := at_below HF3.out.below C5.out
        have c6 := at_below HF3.out.below C6.out
        have c7 := at_below HF3.out.below C7.out
        have c8 := at_below HF3.out.below C8.out
        have x0 := at_below HF3.out.below X0.out
        have x1 := at_below HF3.out.below X1.out
        have x2 := at_below HF3.out.below X2.out
        have x3 := at_below HF3.out.below X3.out
        have x4 := at_below HF3.out.below X4.out
        have x5 := at_below HF3.out.below X5.out
        have x6 := at_below HF3.out.below X6.out
        have x7 := at_below HF3.out.below X7.out
        have x8 := at_below HF3.out.below X8.out
        have cc0 := fun p : After _ => cell_after p c0
        have cc1 := fun p : After _ => cell_after p c1
        have cc2 := fun p : After _ => cell_after p c2
        have cc3 := fun p : After _ => cell_after p c3
        have cc4 := fun p : After _ => cell_after p c4
        have cc5 := fun p : After _ => cell_after p c5
        have cc6 := fun p : After _ => cell_after p c6
        have cc7 := fun p : After _ => cell_after p c7
        have cc8 := fun p : After _ => cell_after p c8
        have xx0 := fun p : After _ => cell_after p x0
        have xx1 := fun p : After _ => cell_after p x1
        have xx2 := fun p : After _ => cell_after p x2
        have xx3 := fun p : After _ => cell_after p x3
        have xx4 := fun p : After _ => cell_after p x4
        have xx5 := fun p : After _ => cell_after p x5
        have xx6 := fun p : After _ => cell_after p x6
        have xx7 := fun p : After _ => cell_after p x7
        have xx8 := fun p : After _ => cell_after p x8
        have hsz := HF3.out.below.size
        have hmost := HF3.out.most
        go_wp2_with (at_builtin; refine wpList_append_frow rfl _ _ rfl W1.heap.size _ (out ++ [(k, v)]).length (out ++ [(k, v)]) rfl (HF3.out.own.alloc _) (by omega) x w3.heap.size rfl (frow_news w3 x) (by simp; omega) ?_; intro v4 w4 h1 h2)
        have HF4 := Lib.hid (HF3.out.step _ h1 h2)
        clear h1 h2 hsz hmost
        clear c0 c1 c2 c3 c4 c5 c6 c7 c8 x0 x1 x2 x3 x4 x5 x6 x7 x8 cc0 cc1 cc2 cc3 cc4 cc5 cc6 cc7 cc8 xx0 xx1 xx2 xx3 xx4 xx5 xx6 xx7 xx8
        clear HF3
        go_wp2_with fail
        go_roundw
        case rel => exact ⟨j + 1, by omega, by go_num, by rw [HST.out], Lib.hid (by rw [HST.out]; exact HF4.out.mono (by omega))⟩
        case measure => simp [intOf]; omega
  · obtain rfl : j = n := by omega
    have x0 := at_below HF.out.below X0.out
    have x1 := at_below HF.out.below X1.out
    have x2 := at_below HF.out.below X2.out
    have x3 := at_below HF.out.below X3.out
    have x4 := at_below HF.out.below X4.out
    have x5 := at_below HF.out.below X5.out
    have x6 := at_below HF.out.below X6.out
    have x7 := at_below HF.out.below X7.out
    have x8 := at_below HF.out.below X8.out
    generalize st j = sj at *
    obtain ⟨d, out⟩ := sj
    dsimp only at HF ⊢
    cases d with
    | true =>
     have hw : fputL L k v = out := HSN.out
     have HWW := Lib.hid hw
     clear hw
     go_wp2_with fail
     go_ret
     rw [HWW.out]
     exact (HF.out.gives frc_len (by decide)).up (by rw [HXX.out]; exact HW1.out)
    | false =>
     have hw : fputL L k v = out ++ [(k, v)] := HSN.out
     have HWW := Lib.hid hw
     clear hw
     have hsz := HF.out.below.size
     have hmost := HF.out.most
     go_wp2_with (at_builtin; refine wpList_append_frow rfl _ _ rfl W1.heap.size _ out.length out rfl (HF.out.own.alloc _) (by omega) (k, v) wr.heap.size rfl (frow_news wr (k, v)) (by simp; omega) ?_; intro v2 w2 h1 h2)
     have HF2 := Lib.hid (HF.out.step _ h1 h2)
     clear h1 h2 hsz hmost
     go_wp2_with fail
     go_ret
     rw [HWW.out]
     exact (HF2.out.gives frc_len (by decide)).up (by rw [HXX.out]; exact HW1.out)
end Go.Proofs.Ytmdldbchdnkfcaa
