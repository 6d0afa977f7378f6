/- The document's With and Set. -/
import Derived.Test.YtmjhfohpllndhaaKeyIns
namespace Go.Proofs.Ytmjhfohpllndhaa
open Go.RowKit Go.ChangeShapes Go.WideShapes
set_option linter.unusedVariables false

theorem at_below {W w : World} {a : Addr} {v : Value} (hb : Below W.heap.size W w) (h : W.cell? a = some v) : w.cell? a = some v := (hb.cell (World.block_lt_of_cell? _ _ h)).trans h
theorem take_fold (k : K) (L : List K) (j : Nat) (h : j < L.length) : (L.take (j + 1)).foldl (stW k) (false, []) = stW k ((L.take j).foldl (stW k) (false, [])) (L.getD j (0, 0, 0)) := by
  rw [List.take_add_one, List.foldl_append]
  simp [List.getD, List.getElem?_eq_getElem h]
theorem with_ok (L : List K) (k : K) (h : ∀ x ∈ L, Kok x) (hk : Kok k) : ∀ x ∈ withL L k, Kok x := by
  intro x hx
  rw [with_ins] at hx
  rcases (ins_mem k x L).1 hx with rfl | hx
  · exact hk
  · exact h x hx
set_option maxHeartbeats 4000000 in
set_option maxRecDepth 100000 in
theorem with_any (p : Option Addr) (n c : Nat) (L : List K) (k : K) (hk : Kok k) (W : World) (hL : KL W p n c L) (hn : n ≤ 100000) :
    Calls Try.prog 23 #[.slice p n c, .agg #[.int .u8 k.1, .int .u8 k.2.1, .int .u8 k.2.2]] W (Lists W (withL L k)) := by
  have HOK := Lib.hid (with_ok L k hL.ok hk)
  have HL0 := Lib.hid hL
  obtain ⟨st, hst⟩ : ∃ st : Nat → Bool × List K, ∀ j, st j = (L.take j).foldl (stW k) (false, []) := ⟨_, fun _ => rfl⟩
  have hst0 : st 0 = (false, []) := by rw [hst]; rfl
  have HS := Lib.hid fun j (hj : j < n) => (show st (j + 1) = stW k (st j) (L.getD j (0, 0, 0)) by rw [hst, hst]; exact take_fold k L j (by rw [hL.len]; exact hj))
  have hstn : withL L k = if (st n).1 = true then (st n).2 else (st n).2 ++ [k] := by
    rw [hst, List.take_of_length_le (by rw [hL.len]; exact Nat.le_refl _)]; rfl
  have HSN := Lib.hid hstn
  have HS0 := Lib.hid hst0
  clear hst hst0 hstn hL hk
  go_enter Try.func23, Try.ntmps23
  go_wp2_with fail
  have HW1 := Lib.hid ((Below.refl W.heap.size W).alloc (Nat.le_refl _) (.cells #[.int .u8 k.1, .int .u8 k.2.1, .int .u8 k.2.2] 29))
  have HL := Lib.hid (HL0.out.later ((Below.refl _ _).alloc (Nat.le_refl _) (.cells #[.int .u8 k.1, .int .u8 k.2.1, .int .u8 k.2.2] 29)))
  have HX : Hid ((W.alloc (.cells #[.int .u8 k.1, .int .u8 k.2.1, .int .u8 k.2.2] 29)).heap[W.heap.size]? = some (.cells #[.int .u8 k.1, .int .u8 k.2.1, .int .u8 k.2.2] 29 (0, 0))) := Lib.hid (alloc_block _ _)
  generalize W.alloc (.cells #[.int .u8 k.1, .int .u8 k.2.1, .int .u8 k.2.2] 29) = W1 at *
  generalize hX : W.heap.size = X at *
  have HXX := Lib.hid hX
  clear hX HL0
  have X0 : Hid (W1.cell? ⟨X, 0, none⟩ = some (.int .u8 k.1)) := Lib.hid (block_cell (j := 0) HX.out rfl)
  have X1 : Hid (W1.cell? ⟨X, 1, none⟩ = some (.int .u8 k.2.1)) := Lib.hid (block_cell (j := 1) HX.out rfl)
  have X2 : Hid (W1.cell? ⟨X, 2, none⟩ = some (.int .u8 k.2.2)) := Lib.hid (block_cell (j := 2) HX.out rfl)
  go_loopw [5, 6, 7] (fun v d i wr => ∃ j : Nat, j ≤ n ∧ i = .int .i64 j ∧ d = .bool (st j).1 ∧ Hid (Fill W1 wr v (st j).2 (2 * j))) (fun _ _ i _ => n - (intOf i).toNat)
  case atStart => exact ⟨0, Nat.zero_le _, rfl, by rw [HS0.out], Lib.hid (by rw [HS0.out]; exact ⟨World.ownsRow_nil _ _ _ _, Below.refl _ _, Nat.le_refl _⟩)⟩
  case round =>
    obtain ⟨j, hj, rfl, rfl, HF⟩ := hrel
    by_cases hlt : j < n
    · have hlt' : (j : Int) < n := by omega
      have hnm : (n : Int) ≤ 100000 := by omega
      obtain ⟨b, off, rfl, hcell⟩ := HL.out.cell (by omega)
      obtain ⟨c0, c1, c2⟩ := hcell j hlt
      have hsucc := HS.out j hlt
      generalize L.getD j (0, 0, 0) = x at *
      have C0 := Lib.hid c0
      have C1 := Lib.hid c1
      have C2 := Lib.hid c2
      clear hcell c0 c1 c2
      have HLS := Lib.hid fun W => less_any x k W
      have qn := fun W => key_neq x.1 x.2.1 x.2.2 k.1 k.2.1 k.2.2 W
      have hd : decide (((x.1, x.2.1, x.2.2) : K) = (k.1, k.2.1, k.2.2)) = decide (x = k) := rfl
      rw [hd] at qn
      clear hd
      generalize st j = sj at *
      obtain ⟨d, out⟩ := sj
      dsimp only at HF ⊢
      have c0 := at_below HF.out.below C0.out
      have c1 := at_below HF.out.below C1.out
      have c2 := at_below HF.out.below C2.out
      have x0 := at_below HF.out.below X0.out
      have x1 := at_below HF.out.below X1.out
      have x2 := at_below HF.out.below X2.out
      have cc0 := fun p : After _ => cell_after p c0
      have cc1 := fun p : After _ => cell_after p c1
      have cc2 := fun p : After _ => cell_after p c2
      have xx0 := fun p : After _ => cell_after p x0
      have xx1 := fun p : After _ => cell_after p x1
      have xx2 := fun p : After _ => cell_after p x2
      cases d with
      | true =>
        by_cases hxk : x = k
        · have hst : st (j + 1) = (true, out) := by rw [hsucc]; simp [stW, hxk]
          have HST := Lib.hid hst
          clear hst hsucc
          have HXK := Lib.hid hxk
          rw [decide_eq_true hxk] at qn
          clear hxk
          go_wp2_with fail
          refine wp_region_after (by kernel_rfl) (by kernel_rfl) ?_
          repeat (go_big_quiet_step (fail))
          refine wpQuiet_nil ?_
          intro w1 hw'
          obtain ⟨⟨wq, h6⟩, hw''⟩ := hw'
          subst hw''
          have HF1 := Lib.hid (HF.out.later h6)
          clear c0 c1 c2 x0 x1 x2 cc0 cc1 cc2 xx0 xx1 xx2
          clear h6 HF
          have c0 := at_below HF1.out.below C0.out
          have c1 := at_below HF1.out.below C1.out
          have c2 := at_below HF1.out.below C2.out
          have x0 := at_below HF1.out.below X0.out
          have x1 := at_below HF1.out.below X1.out
          have x2 := at_below HF1.out.below X2.out
          have cc0 := fun p : After _ => cell_after p c0
          have cc1 := fun p : After _ => cell_after p c1
          have cc2 := fun p : After _ => cell_after p c2
          have xx0 := fun p : After _ => cell_after p x0
          have xx1 := fun p : After _ => cell_after p x1
          have xx2 := fun p : After _ => cell_after p x2
          go_wp2_with fail
          refine wp_region_after (by kernel_rfl) (by kernel_rfl) ?_
          repeat (go_big_quiet_step (fail))
          refine wpQuiet_nil ?_
          intro w3 hw'
          obtain ⟨⟨wq, h6⟩, hw''⟩ := hw'
          subst hw''
          have HF3 := Lib.hid (HF1.out.later h6)
          clear c0 c1 c2 x0 x1 x2 cc0 cc1 cc2 xx0 xx1 xx2
          clear h6 HF1
          skip
          go_wp2_with fail
          go_roundw
          case rel => exact ⟨j + 1, by omega, by go_num, by rw [HST.out], Lib.hid (by rw [HST.out]; exact HF3.out.mono (by omega))⟩
          case measure => simp [intOf]; omega
        · have hst : st (j + 1) = (true, (out) ++ [x]) := by rw [hsucc]; simp [stW, hxk]
          have HST := Lib.hid hst
          clear hst hsucc
          rw [decide_eq_false hxk] at qn
          clear hxk
          go_wp2_with fail
          refine wp_region_after (by kernel_rfl) (by kernel_rfl) ?_
          repeat (go_big_quiet_step (fail))
          refine wpQuiet_nil ?_
          intro w1 hw'
          obtain ⟨⟨wq, h6⟩, hw''⟩ := hw'
          subst hw''
          have HF1 := Lib.hid (HF.out.later h6)
          clear c0 c1 c2 x0 x1 x2 cc0 cc1 cc2 xx0 xx1 xx2
          clear h6 HF
          have c0 := at_below HF1.out.below C0.out
          have c1 := at_below HF1.out.below C1.out
          have c2 := at_below HF1.out.below C2.out
          have x0 := at_below HF1.out.below X0.out
          have x1 := at_below HF1.out.below X1.out
          have x2 := at_below HF1.out.below X2.out
          have cc0 := fun p : After _ => cell_after p c0
          have cc1 := fun p : After _ => cell_after p c1
          have cc2 := fun p : After _ => cell_after p c2
          have xx0 := fun p : After _ => cell_after p x0
          have xx1 := fun p : After _ => cell_after p x1
          have xx2 := fun p : After _ => cell_after p x2
          go_wp2_with fail
          refine wp_region_after (by kernel_rfl) (by kernel_rfl) ?_
          repeat (go_big_quiet_step (fail))
          refine wpQuiet_nil ?_
          intro w3 hw'
          obtain ⟨⟨wq, h6⟩, hw''⟩ := hw'
          subst hw''
          have HF3 := Lib.hid (HF1.out.later h6)
          clear c0 c1 c2 x0 x1 x2 cc0 cc1 cc2 xx0 xx1 xx2
          clear h6 HF1
          have c0 := at_below HF3.out.below C0.out
          have c1 := at_below HF3.out.below C1.out
          have c2 := at_below HF3.out.below C2.out
          have x0 := at_below HF3.out.below X0.out
          have x1 := at_below HF3.out.below X1.out
          have x2 := at_below HF3.out.below X2.out
          have cc0 := fun p : After _ => cell_after p c0
          have cc1 := fun p : After _ => cell_after p c1
          have cc2 := fun p : After _ => cell_after p c2
          have xx0 := fun p : After _ => cell_after p x0
          have xx1 := fun p : After _ => cell_after p x1
          have xx2 := fun p : After _ => cell_after p x2
          have hsz := HF3.out.below.size
          have hmost := HF3.out.most
          go_wp2_with (at_builtin; refine wpList_append_key rfl _ _ rfl W1.heap.size _ (out).length (out) rfl (HF3.out.own.alloc _) (by omega) x w3.heap.size rfl (by simp) (by simp) (by simp) (by simp; omega) ?_; intro v4 w4 h1 h2)
          have HF4 := Lib.hid (HF3.out.step _ h1 h2)
          clear h1 h2 hsz hmost
          clear c0 c1 c2 x0 x1 x2 cc0 cc1 cc2 xx0 xx1 xx2
          clear HF3
          go_wp2_with fail
          go_roundw
          case rel => exact ⟨j + 1, by omega, by go_num, by rw [HST.out], Lib.hid (by rw [HST.out]; exact HF4.out.mono (by omega))⟩
          case measure => simp [intOf]; omega
      | false =>
        cases hless : lessB x k with
        | true =>
          rw [hless] at HLS
          have hxk : ¬ x = k := fun e => by rw [e, less_irrefl] at hless; cases hless
          have hst : st (j + 1) = (false, (out) ++ [x]) := by rw [hsucc]; unfold stW; rw [hless]; simp [hxk]
          have HST := Lib.hid hst
          clear hst hsucc hless
          rw [decide_eq_false hxk] at qn
          clear hxk
          go_wp2_with fail
          refine wp_region_after (by kernel_rfl) (by kernel_rfl) ?_
          repeat (go_big_quiet_step (first | (go_at_call 37; exact calls_after_gr _ (HLS.out _))))
          refine wpQuiet_nil ?_
          intro w1 hw'
          obtain ⟨⟨wq, h6⟩, hw''⟩ := hw'
          subst hw''
          have HF1 := Lib.hid (HF.out.later h6)
          clear c0 c1 c2 x0 x1 x2 cc0 cc1 cc2 xx0 xx1 xx2
          clear h6 HF
          have c0 := at_below HF1.out.below C0.out
          have c1 := at_below HF1.out.below C1.out
          have c2 := at_below HF1.out.below C2.out
          have x0 := at_below HF1.out.below X0.out
          have x1 := at_below HF1.out.below X1.out
          have x2 := at_below HF1.out.below X2.out
          have cc0 := fun p : After _ => cell_after p c0
          have cc1 := fun p : After _ => cell_after p c1
          have cc2 := fun p : After _ => cell_after p c2
          have xx0 := fun p : After _ => cell_after p x0
          have xx1 := fun p : After _ => cell_after p x1
          have xx2 := fun p : After _ => cell_after p x2
          go_wp2_with fail
          refine wp_region_after (by kernel_rfl) (by kernel_rfl) ?_
          repeat (go_big_quiet_step (fail))
          refine wpQuiet_nil ?_
          intro w3 hw'
          obtain ⟨⟨wq, h6⟩, hw''⟩ := hw'
          subst hw''
          have HF3 := Lib.hid (HF1.out.later h6)
          clear c0 c1 c2 x0 x1 x2 cc0 cc1 cc2 xx0 xx1 xx2
          clear h6 HF1
          have c0 := at_below HF3.out.below C0.out
          have c1 := at_below HF3.out.below C1.out
          have c2 := at_below HF3.out.below C2.out
          have x0 := at_below HF3.out.below X0.out
          have x1 := at_below HF3.out.below X1.out
          have x2 := at_below HF3.out.below X2.out
          have cc0 := fun p : After _ => cell_after p c0
          have cc1 := fun p : After _ => cell_after p c1
          have cc2 := fun p : After _ => cell_after p c2
          have xx0 := fun p : After _ => cell_after p x0
          have xx1 := fun p : After _ => cell_after p x1
          have xx2 := fun p : After _ => cell_after p x2
          have hsz := HF3.out.below.size
          have hmost := HF3.out.most
          go_wp2_with (at_builtin; refine wpList_append_key rfl _ _ rfl W1.heap.size _ (out).length (out) rfl (HF3.out.own.alloc _) (by omega) x w3.heap.size rfl (by simp) (by simp) (by simp) (by simp; omega) ?_; intro v4 w4 h1 h2)
          have HF4 := Lib.hid (HF3.out.step _ h1 h2)
          clear h1 h2 hsz hmost
          clear c0 c1 c2 x0 x1 x2 cc0 cc1 cc2 xx0 xx1 xx2
          clear HF3
          go_wp2_with fail
          go_roundw
          case rel => exact ⟨j + 1, by omega, by go_num, by rw [HST.out], Lib.hid (by rw [HST.out]; exact HF4.out.mono (by omega))⟩
          case measure => simp [intOf]; omega
        | false =>
          rw [hless] at HLS
          by_cases hxk : x = k
          · have hst : st (j + 1) = (true, out ++ [k]) := by rw [hsucc]; unfold stW; rw [hless]; simp [hxk]
            have HST := Lib.hid hst
            clear hst hsucc hless
            have HXK := Lib.hid hxk
            rw [decide_eq_true hxk] at qn
            clear hxk
            go_wp2_with fail
            refine wp_region_after (by kernel_rfl) (by kernel_rfl) ?_
            repeat (go_big_quiet_step (first | (go_at_call 37; exact calls_after_gr _ (HLS.out _))))
            refine wpQuiet_nil ?_
            intro w1 hw'
            obtain ⟨⟨wq, h6⟩, hw''⟩ := hw'
            subst hw''
            have HF1 := Lib.hid (HF.out.later h6)
            clear c0 c1 c2 x0 x1 x2 cc0 cc1 cc2 xx0 xx1 xx2
            clear h6 HF
            have c0 := at_below HF1.out.below C0.out
            have c1 := at_below HF1.out.below C1.out
            have c2 := at_below HF1.out.below C2.out
            have x0 := at_below HF1.out.below X0.out
            have x1 := at_below HF1.out.below X1.out
            have x2 := at_below HF1.out.below X2.out
            have cc0 := fun p : After _ => cell_after p c0
            have cc1 := fun p : After _ => cell_after p c1
            have cc2 := fun p : After _ => cell_after p c2
            have xx0 := fun p : After _ => cell_after p x0
            have xx1 := fun p : After _ => cell_after p x1
            have xx2 := fun p : After _ => cell_after p x2
            have hsz := HF1.out.below.size
            have hmost := HF1.out.most
            go_wp2_with (at_builtin; refine wpList_append_key rfl _ _ rfl W1.heap.size _ (out).length (out) rfl (HF1.out.own.alloc _) (by omega) k w1.heap.size rfl (by simp) (by simp) (by simp) (by simp; omega) ?_; intro v2 w2 h1 h2)
            have HF2 := Lib.hid (HF1.out.step _ h1 h2)
            clear h1 h2 hsz hmost
            clear c0 c1 c2 x0 x1 x2 cc0 cc1 cc2 xx0 xx1 xx2
            clear HF1
            have c0 := at_below HF2.out.below C0.out
            have c1 := at_below HF2.out.below C1.out
            have c2 := at_below HF2.out.below C2.out
            have x0 := at_below HF2.out.below X0.out
            have x1 := at_below HF2.out.below X1.out
            have x2 := at_below HF2.out.below X2.out
            have cc0 := fun p : After _ => cell_after p c0
            have cc1 := fun p : After _ => cell_after p c1
            have cc2 := fun p : After _ => cell_after p c2
            have xx0 := fun p : After _ => cell_after p x0
            have xx1 := fun p : After _ => cell_after p x1
            have xx2 := fun p : After _ => cell_after p x2
            go_wp2_with fail
            refine wp_region_after (by kernel_rfl) (by kernel_rfl) ?_
            repeat (go_big_quiet_step (fail))
            refine wpQuiet_nil ?_
            intro w3 hw'
            obtain ⟨⟨wq, h6⟩, hw''⟩ := hw'
            subst hw''
            have HF3 := Lib.hid (HF2.out.later h6)
            clear c0 c1 c2 x0 x1 x2 cc0 cc1 cc2 xx0 xx1 xx2
            clear h6 HF2
            skip
            go_wp2_with fail
            go_roundw
            case rel => exact ⟨j + 1, by omega, by go_num, by rw [HST.out], Lib.hid (by rw [HST.out]; exact HF3.out.mono (by omega))⟩
            case measure => simp [intOf]; omega
          · have hst : st (j + 1) = (true, (out ++ [k]) ++ [x]) := by rw [hsucc]; unfold stW; rw [hless]; simp [hxk]
            have HST := Lib.hid hst
            clear hst hsucc hless
            rw [decide_eq_false hxk] at qn
            clear hxk
            go_wp2_with fail
            refine wp_region_after (by kernel_rfl) (by kernel_rfl) ?_
            repeat (go_big_quiet_step (first | (go_at_call 37; exact calls_after_gr _ (HLS.out _))))
            refine wpQuiet_nil ?_
            intro w1 hw'
            obtain ⟨⟨wq, h6⟩, hw''⟩ := hw'
            subst hw''
            have HF1 := Lib.hid (HF.out.later h6)
            clear c0 c1 c2 x0 x1 x2 cc0 cc1 cc2 xx0 xx1 xx2
            clear h6 HF
            have c0 := at_below HF1.out.below C0.out
            have c1 := at_below HF1.out.below C1.out
            have c2 := at_below HF1.out.below C2.out
            have x0 := at_below HF1.out.below X0.out
            have x1 := at_below HF1.out.below X1.out
            have x2 := at_below HF1.out.below X2.out
            have cc0 := fun p : After _ => cell_after p c0
            have cc1 := fun p : After _ => cell_after p c1
            have cc2 := fun p : After _ => cell_after p c2
            have xx0 := fun p : After _ => cell_after p x0
            have xx1 := fun p : After _ => cell_after p x1
            have xx2 := fun p : After _ => cell_after p x2
            have hsz := HF1.out.below.size
            have hmost := HF1.out.most
            go_wp2_with (at_builtin; refine wpList_append_key rfl _ _ rfl W1.heap.size _ (out).length (out) rfl (HF1.out.own.alloc _) (by omega) k w1.heap.size rfl (by simp) (by simp) (by simp) (by simp; omega) ?_; intro v2 w2 h1 h2)
            have HF2 := Lib.hid (HF1.out.step _ h1 h2)
            clear h1 h2 hsz hmost
            clear c0 c1 c2 x0 x1 x2 cc0 cc1 cc2 xx0 xx1 xx2
            clear HF1
            have c0 := at_below HF2.out.below C0.out
            have c1 := at_below HF2.out.below C1.out
            have c2 := at_below HF2.out.below C2.out
            have x0 := at_below HF2.out.below X0.out
            have x1 := at_below HF2.out.below X1.out
            have x2 := at_below HF2.out.below X2.out
            have cc0 := fun p : After _ => cell_after p c0
            have cc1 := fun p : After _ => cell_after p c1
            have cc2 := fun p : After _ => cell_after p c2
            have xx0 := fun p : After _ => cell_after p x0
            have xx1 := fun p : After _ => cell_after p x1
            have xx2 := fun p : After _ => cell_after p x2
            go_wp2_with fail
            refine wp_region_after (by kernel_rfl) (by kernel_rfl) ?_
            repeat (go_big_quiet_step (fail))
            refine wpQuiet_nil ?_
            intro w3 hw'
            obtain ⟨⟨wq, h6⟩, hw''⟩ := hw'
            subst hw''
            have HF3 := Lib.hid (HF2.out.later h6)
            clear c0 c1 c2 x0 x1 x2 cc0 cc1 cc2 xx0 xx1 xx2
            clear h6 HF2
            have c0 := at_below HF3.out.below C0.out
            have c1 := at_below HF3.out.below C1.out
            have c2 := at_below HF3.out.below C2.out
            have x0 := at_below HF3.out.below X0.out
            have x1 := at_below HF3.out.below X1.out
            have x2 := at_below HF3.out.below X2.out
            have cc0 := fun p : After _ => cell_after p c0
            have cc1 := fun p : After _ => cell_after p c1
            have cc2 := fun p : After _ => cell_after p c2
            have xx0 := fun p : After _ => cell_after p x0
            have xx1 := fun p : After _ => cell_after p x1
            have xx2 := fun p : After _ => cell_after p x2
            have hsz := HF3.out.below.size
            have hmost := HF3.out.most
            go_wp2_with (at_builtin; refine wpList_append_key rfl _ _ rfl W1.heap.size _ (out ++ [k]).length (out ++ [k]) rfl (HF3.out.own.alloc _) (by omega) x w3.heap.size rfl (by simp) (by simp) (by simp) (by simp; omega) ?_; intro v4 w4 h1 h2)
            have HF4 := Lib.hid (HF3.out.step _ h1 h2)
            clear h1 h2 hsz hmost
            clear c0 c1 c2 x0 x1 x2 cc0 cc1 cc2 xx0 xx1 xx2
            clear HF3
            go_wp2_with fail
            go_roundw
            case rel => exact ⟨j + 1, by omega, by go_num, by rw [HST.out], Lib.hid (by rw [HST.out]; exact HF4.out.mono (by omega))⟩
            case measure => simp [intOf]; omega
    · obtain rfl : j = n := by omega
      have x0 := at_below HF.out.below X0.out
      have x1 := at_below HF.out.below X1.out
      have x2 := at_below HF.out.below X2.out
      generalize st j = sj at *
      obtain ⟨d, out⟩ := sj
      dsimp only at HF ⊢
      cases d with
      | true =>
        have hw : withL L k = out := HSN.out
        rw [hw] at HOK
        have HWW := Lib.hid hw
        clear hw
        go_wp2_with fail
        go_ret
        rw [HWW.out]
        obtain ⟨p2, c2, he, hk2, hb2⟩ := HF.out.lists HOK.out
        exact ⟨p2, c2, he, hk2, by rw [HXX.out]; exact HW1.out.trans (hb2.mono (by have := HW1.out.size; rw [HXX.out] at this; exact this))⟩
      | false =>
        have hw : withL L k = out ++ [k] := HSN.out
        rw [hw] at HOK
        have HWW := Lib.hid hw
        clear hw
        have hsz := HF.out.below.size
        have hmost := HF.out.most
        go_wp2_with (at_builtin; refine wpList_append_key rfl _ _ rfl W1.heap.size _ out.length out rfl (HF.out.own.alloc _) (by omega) k wr.heap.size rfl (by simp) (by simp) (by simp) (by simp; omega) ?_; intro v2 w2 h1 h2)
        have HF2 := Lib.hid (HF.out.step _ h1 h2)
        clear h1 h2 hsz hmost
        go_wp2_with fail
        go_ret
        rw [HWW.out]
        obtain ⟨p2, c2, he, hk2, hb2⟩ := HF2.out.lists HOK.out
        exact ⟨p2, c2, he, hk2, by rw [HXX.out]; exact HW1.out.trans (hb2.mono (by have := HW1.out.size; rw [HXX.out] at this; exact this))⟩
end Go.Proofs.Ytmjhfohpllndhaa
