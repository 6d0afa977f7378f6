/-
  CalcTurns answers true of any row of numbers and any turn, and writes nothing that was there. No condition.
-/
import Derived.Test.YthoolmmnpnppkaaRows
import Derived.Test.YthoolmmnpnppkaaCalcTurnsHelp
import Derived.RegionTactic
import Derived.WalkKit
import Derived.ProofKit
import Derived.OpenShut
import Derived.ShutString
import Derived.ChangeOld
import Derived.Below
namespace Go.Proofs.Ythoolmmnpnppkaa.calcTurns
open Go.ChangeShapes Go.WideShapes Go.ChangeAt Go.RowKit
open Go.ChangeMaps (open_string shut_string)
set_option linter.unusedVariables false

theorem own : ownKnob Try.prog.godebug = none := by kernel_rfl
theorem laidOut : laidOutB Try.prog = true := by kernel_rfl

/-- WHAT THE WALK IS TOLD OF A SLICE OF INTEGERS THAT CAME IN: it is nil; or it leads to a row of 'cap' cells, the numbers 'zs' (the first 'len' are its elements, the rest its spare room), each fitting its kind. -/
def IsRow (k : IntKind) (w : World) (a : Option Addr) (len cap : Nat) (zs : List Int) : Prop :=
  (a = none ∧ len = 0 ∧ cap = 0 ∧ zs = []) ∨
  ∃ x, a = some x ∧ len ≤ cap ∧ cap ≤ maxLen ∧ zs.length = cap ∧ (∀ i, i < zs.length → w.cell? (x.add i) = some (.int k (zs.getD i 0))) ∧ ∀ n ∈ zs, (Lit.int k n).wf = true


theorem walk (a0 : Option Addr) (len0 cap0 : Nat) (z0 : List Int) (a1 : Int) (w : World) (w0 : IsRow .i64 w a0 len0 cap0 z0) (w1 : (Lit.int .u8 a1).wf = true) :
    Calls Try.prog 8 #[.slice a0 len0 cap0, .int .u8 a1] w fun e w' => e = .returned (.bool true) ∧ Below w.heap.size w w' := by
  obtain ⟨hq0, hq1⟩ := bounds_u8 w1
  clear w1
  obtain ⟨i0, hi, hz0, hz1, hz2⟩ := info_parts Try.info
  have HN : Hid (Row w none 0 []) := Lib.hid ⟨rfl, by simp, Or.inl rfl⟩
  rcases w0 with ⟨rfl, rfl, rfl, rfl⟩ | ⟨x, rfl, hl, hm, hz, hc, hwf⟩
  · have HR := HN
    go_enter Try.func8, Try.ntmps8
    go_wp2_with fail

    go_loop [5, 6] (fun v i => v = .slice none 0 0 ∧ i = .int .i64 (-1)) (fun _ _ => 0)
    case atStart => exact ⟨rfl, rfl⟩
    case round =>
      obtain ⟨rfl, rfl⟩ := hrel
      go_wp2_with fail
      refine (sum_of _ _ _ _ _ HR.out (by omega)).mono ?_
      rintro e w' ⟨rfl, rfl⟩
      go_wp2_with fail
      refine (sum_of _ _ _ _ _ HN.out (by omega)).mono ?_
      rintro e w' ⟨rfl, rfl⟩
      go_wp2_with fail
      refine (same_yes _ _ _).mono ?_
      rintro e w' ⟨rfl, rfl⟩
      go_wp2_with fail
      refine (works_any _).mono ?_
      rintro e wC ⟨rfl, hC⟩
      go_wp2_with fail
      go_ret
      exact ⟨rfl, hC⟩
  · unfold maxLen at hm
    by_cases h : len0 ≤ 200
    · have HR := Lib.hid (row_take len0 (by omega) hc hwf)
      clear hc hwf
      by_cases hpos : 0 < len0
      · obtain ⟨b, off, hx, hb, HC⟩ : ∃ b off, x = ⟨b, off, none⟩ ∧ b < w.heap.size ∧ Hid (∀ j, j < (z0.take len0).length → w.cell? ⟨b, off + j, none⟩ = some (.int .i64 ((z0.take len0).getD j 0))) := by
          rcases HR.out.2.2 with h0 | ⟨b, off, hp, hb, hc⟩
          · omega
          · exact ⟨b, off, by simpa using hp, hb, Lib.hid hc⟩
        subst hx
        have HL := Lib.hid HR.out.1
        have HW := Lib.hid HR.out.2.1
        obtain ⟨xs, hxs⟩ : ∃ xs, z0.take len0 = xs := ⟨_, rfl⟩
        rw [hxs] at HR HC HL HW
        clear hxs
        go_enter Try.func8, Try.ntmps8
        go_wp2_with fail

        go_loopw [5, 6] (fun v i wr => ∃ j : Nat, j ≤ len0 ∧ i = .int .i64 ((j : Int) - 1) ∧ Hid (wr.ownsRow w.heap.size 2 1 v (gath xs j).length ((gath xs j).map (Value.int .i64))) ∧ Hid (Below w.heap.size w wr)) (fun _ i _ => (intOf i + 1).toNat)
        case atStart => exact ⟨len0, Nat.le_refl _, by go_num, Lib.hid (by rw [gath_start xs len0 HL.out]; exact World.ownsRow_nil _ _ _ _), Lib.hid (Below.refl _ _)⟩
        case round =>
          obtain ⟨j, hj, rfl, HO, HB⟩ := hrel
          by_cases hlt : 0 < j
          · obtain ⟨t, rfl⟩ : ∃ t, j = t + 1 := ⟨j - 1, by omega⟩
            obtain ⟨y, hy, hcell⟩ : ∃ y, Hid (y = xs.getD t 0) ∧ wr.cell? ⟨b, off + t, none⟩ = some (.int .i64 y) :=
              ⟨_, Lib.hid rfl, by rw [HB.out.cell (p := ⟨b, off + t, none⟩) hb]; exact HC.out t (by rw [← HL.out]; omega)⟩
            have hgl : (gath xs (t + 1)).length ≤ 200 := by rw [gath_len, ← HL.out]; omega
            go_wp2_with (first | (at_builtin; refine wpList_append_own _ rfl _ _ 28 rfl w.heap.size 2 i0 (.int .i64 0) 1 8 Try.underlying28 hi hz0 hz1 hz2 rfl (by decide) _ _ _ rfl (HO.out.alloc _) ⟨wr.heap.size, 0, none⟩ 1 1 [.int .i64 y] rfl rfl ?c1 ?c2 ?c3 ?c4 ?c5 ?_))
            case c1 =>
              intro k u hk
              match k, hk with
              | 0, hk => simp at hk; subst hk; simp [Addr.add]
            case c2 => intro u hu; simp at hu; subst hu; rfl
            case c3 => unfold maxLen; omega
            case c4 => omega
            case c5 => have := HB.out.size; simp; omega
            intro v' w1 hown hgrow _
            have R : Hid (w1.ownsRow w.heap.size 2 1 v' (gath xs t).length ((gath xs t).map (Value.int .i64))) := by
              refine Lib.hid ?_
              rw [gath_step xs t (by rw [← HL.out]; omega), ← hy.out, List.length_append, List.map_append]
              exact hown
            have RB : Hid (Below w.heap.size w w1) := Lib.hid ((HB.out.alloc HB.out.size _).grown hgrow (by have := HB.out.size; simp; omega) (fun k hk => (HO.out.lt k hk).1))
            clear hown hgrow
            go_wp2_with fail
            go_roundw
            case rel => exact ⟨t, by omega, by go_num, R, RB⟩
            case measure => simp [intOf]
          · obtain rfl : j = 0 := by omega
            have HG : Hid ((gath xs 0).length = len0) := Lib.hid (by have h := gath_len xs 0; rw [← HL.out] at h; simpa using h)
            have HO2 : wr.ownsRow w.heap.size 2 1 u5 len0 ((gath xs 0).map (Value.int .i64)) := by have := HO.out; rw [HG.out] at this; exact this
            obtain ⟨g, cp, hu, hg0, hg1⟩ := HO2.form (by omega)
            obtain ⟨hcp, hcm⟩ : len0 ≤ cp ∧ cp ≤ maxLen := by
              rcases HO2.2 with ⟨_, h0⟩ | ⟨g', cap', cur, hv, _, _, h1, h2, _⟩
              · omega
              · rw [hu] at hv; simp only [Value.slice.injEq] at hv; obtain ⟨_, _, rfl⟩ := hv; exact ⟨h1, h2⟩
            subst hu
            unfold maxLen at hcm
            have HO3 := Lib.hid HO2
            clear HO2 HO HG
            have HT : Hid (total xs = total (gath xs 0)) := Lib.hid (by rw [gath_end, total_reverse])
            obtain ⟨q, HQ, hqn⟩ : ∃ q : Nat, Hid (a1 % (len0 : Int) = (q : Int)) ∧ q < len0 := by
              have h0 := Int.emod_nonneg a1 (show (len0 : Int) ≠ 0 by omega)
              have h1 := Int.emod_lt_of_pos a1 (show (0 : Int) < (len0 : Int) by omega)
              exact ⟨(a1 % (len0 : Int)).toNat, Lib.hid (by omega), by omega⟩
            go_wp2_with fail
            rw [HQ.out]
            have hqc : ¬ cp = q := by omega
            have hqi : (q : Int) ≤ len0 := by omega
            have hqm : q ≤ len0 := by omega
            have hqk : q ≤ cp := by omega
            obtain ⟨ys, HYS⟩ : ∃ ys, Hid (gath xs 0 = ys) := ⟨_, Lib.hid rfl⟩
            rw [HYS.out] at HO3 HT
            have HYL : Hid (ys.length = len0) := by have h := HO3.out.1; simp at h; exact Lib.hid h
            have hys := HYL.out
            have HYR : Hid (∀ x ∈ ys.drop q ++ ys.take q, -9223372036854775808 ≤ x ∧ x ≤ 9223372036854775807) := Lib.hid (fun x hx => by
              refine HW.out x ?_
              have hin : x ∈ ys := by
                rcases List.mem_append.1 hx with h | h
                · exact List.mem_of_mem_drop h
                · exact List.mem_of_mem_take h
              rw [← HYS.out, gath_end] at hin
              simpa using hin)
            have KS := Lib.hid (own_start wr 2)
            have KL1 : Hid (((ys.drop q).map (Value.int .i64)).length = (len0 - q) * 1) := Lib.hid (by simp; omega)
            have KC1 := Lib.hid (row_cells (W := (wr.alloc (.cells #[] 2)).drew) HO3.out (fun j => by rw [World.cell?_drew, World.cell?_alloc_lt _ _ _ hg1]) q (ys.drop q) (fun j hj => ⟨by simp at hj; omega, by rw [List.getElem?_drop]⟩))
            have KL2 : Hid (((ys.take q).map (Value.int .i64)).length = q * 1) := Lib.hid (by simp; omega)
            have KC2 : Hid (∀ W1 : World, ((wr.alloc (.cells #[] 2)).drew).grownBy W1 (some wr.heap.size) → ∀ j u, ((ys.take q).map (Value.int .i64))[j]? = some u → W1.cell? ((⟨g, 0, none⟩ : Addr).add j) = some u) := Lib.hid (fun W1 hW1 =>
              row_cells (W := W1) HO3.out (fun j => by
                rw [hW1.cell_far ⟨g, j, none⟩ (by simp; omega) (by simp; omega), World.cell?_drew, World.cell?_alloc_lt _ _ _ hg1]) 0 (ys.take q) (fun j hj => ⟨by simp at hj; omega, by simp at hj; rw [Nat.zero_add, List.getElem?_take_of_lt (by omega)]⟩))
            have KB : Hid (Below w.heap.size w (wr.alloc (.cells #[] 2)).drew) := Lib.hid ((HB.out.alloc HB.out.size _).drew)
            have KZ := HB.out.size
            clear hys
            go_region_law (first
              | (refine step_append_own rfl (.tmp 39) (.tmp 42) 28 rfl wr.heap.size 2 i0 (.int .i64 0) 1 8 Try.underlying28 hi hz0 hz1 hz2 rfl (by decide) (.slice (some ⟨wr.heap.size, 0, none⟩) 0 0) 0 [] (by simp [Act.eval]) KS.out ⟨g, q, none⟩ (len0 - q) (cp - q) _ (by simp [Act.eval]) KL1.out KC1.out (ints_one _) (by unfold maxLen; omega) (by omega) (by simp) ?_; intro v1 w1 hown1 hgrow1 _)
              | (refine step_append_own rfl (.tmp 43) (.tmp 46) 28 rfl wr.heap.size 2 i0 (.int .i64 0) 1 8 Try.underlying28 hi hz0 hz1 hz2 rfl (by decide) v1 (0 + (len0 - q)) _ (by simp [Act.eval]) hown1 ⟨g, 0, none⟩ q cp _ (by simp [Act.eval]) KL2.out (KC2.out w1 hgrow1) (ints_one _) (by unfold maxLen; omega) (by omega) (by have := hgrow1.size; simp at this; omega) ?_; intro v2 w2 hown2 hgrow2 _))
            have hn2 : 0 + (len0 - q) + q = len0 := by omega
            rw [hn2, List.nil_append, ← List.map_append] at hown2
            obtain ⟨g2, c2, hv2, hg20, hg21⟩ := hown2.form (by omega)
            have HB1 : Below w.heap.size w w1 := KB.out.grown hgrow1 (by simp; omega) (fun k hk => (KS.out.lt k hk).1 |> Nat.le_trans KZ)
            have HB2 : Hid (Below w.heap.size w w2) := Lib.hid (HB1.grown hgrow2 HB1.size (fun k hk => Nat.le_trans KZ (hown1.lt k hk).1))
            subst hv2
            have HR2 : Hid (Row w2 (some ⟨g2, 0, none⟩) len0 (ys.drop q ++ ys.take q)) := Lib.hid (row_of_owns hown2 (by rw [List.length_append, List.length_drop, List.length_take, HYL.out]; omega) hg21 HYR.out)
            have HRL : Hid (Row w2 (some ⟨b, off, none⟩) len0 xs) := Lib.hid (HR.out.later HB2.out)
            have HTE : Hid (total (ys.drop q ++ ys.take q) = total xs) := Lib.hid (by rw [total_cut]; exact HT.out.symm)
            clear hown1 hown2 hgrow1 hgrow2 HB1 KB KS KC1 KC2 KL1 KL2 hn2
            go_wp2_with fail
            refine (sum_of _ _ _ _ _ HRL.out (by omega)).mono ?_
            rintro e w' ⟨rfl, rfl⟩
            go_wp2_with fail
            refine (sum_of _ _ _ _ _ HR2.out (by omega)).mono ?_
            rintro e w' ⟨rfl, rfl⟩
            rw [HTE.out]
            go_wp2_with fail
            refine (same_yes _ _ _).mono ?_
            rintro e w' ⟨rfl, rfl⟩
            go_wp2_with fail
            refine (works_any _).mono ?_
            rintro e wC ⟨rfl, hC⟩
            go_wp2_with fail
            go_ret
            exact ⟨rfl, HB2.out.trans (hC.mono HB2.out.size)⟩
      · obtain rfl : len0 = 0 := by omega
        have HR0 : Row w (some x) 0 [] := by have := HR.out; rw [List.take_zero] at this; exact this
        have HE := Lib.hid HR0
        clear HR HR0
        have HR := HE
        go_enter Try.func8, Try.ntmps8
        go_wp2_with fail

        go_loop [5, 6] (fun v i => v = .slice none 0 0 ∧ i = .int .i64 (-1)) (fun _ _ => 0)
        case atStart => exact ⟨rfl, rfl⟩
        case round =>
          obtain ⟨rfl, rfl⟩ := hrel
          go_wp2_with fail
          refine (sum_of _ _ _ _ _ HR.out (by omega)).mono ?_
          rintro e w' ⟨rfl, rfl⟩
          go_wp2_with fail
          refine (sum_of _ _ _ _ _ HN.out (by omega)).mono ?_
          rintro e w' ⟨rfl, rfl⟩
          go_wp2_with fail
          refine (same_yes _ _ _).mono ?_
          rintro e w' ⟨rfl, rfl⟩
          go_wp2_with fail
          refine (works_any _).mono ?_
          rintro e wC ⟨rfl, hC⟩
          go_wp2_with fail
          go_ret
          exact ⟨rfl, hC⟩
    · have HR := Lib.hid (row_take 200 (by omega) hc hwf)
      clear hc hwf
      obtain ⟨b, off, hx, hb, HC⟩ : ∃ b off, x = ⟨b, off, none⟩ ∧ b < w.heap.size ∧ Hid (∀ j, j < (z0.take 200).length → w.cell? ⟨b, off + j, none⟩ = some (.int .i64 ((z0.take 200).getD j 0))) := by
        rcases HR.out.2.2 with h0 | ⟨b, off, hp, hb, hc⟩
        · omega
        · exact ⟨b, off, by simpa using hp, hb, Lib.hid hc⟩
      subst hx
      have HL := Lib.hid HR.out.1
      have HW := Lib.hid HR.out.2.1
      obtain ⟨xs, hxs⟩ : ∃ xs, z0.take 200 = xs := ⟨_, rfl⟩
      rw [hxs] at HR HC HL HW
      clear hxs
      go_enter Try.func8, Try.ntmps8
      go_wp2_with fail

      go_loopw [5, 6] (fun v i wr => ∃ j : Nat, j ≤ 200 ∧ i = .int .i64 ((j : Int) - 1) ∧ Hid (wr.ownsRow w.heap.size 2 1 v (gath xs j).length ((gath xs j).map (Value.int .i64))) ∧ Hid (Below w.heap.size w wr)) (fun _ i _ => (intOf i + 1).toNat)
      case atStart => exact ⟨200, Nat.le_refl _, by go_num, Lib.hid (by rw [gath_start xs 200 HL.out]; exact World.ownsRow_nil _ _ _ _), Lib.hid (Below.refl _ _)⟩
      case round =>
        obtain ⟨j, hj, rfl, HO, HB⟩ := hrel
        by_cases hlt : 0 < j
        · obtain ⟨t, rfl⟩ : ∃ t, j = t + 1 := ⟨j - 1, by omega⟩
          obtain ⟨y, hy, hcell⟩ : ∃ y, Hid (y = xs.getD t 0) ∧ wr.cell? ⟨b, off + t, none⟩ = some (.int .i64 y) :=
            ⟨_, Lib.hid rfl, by rw [HB.out.cell (p := ⟨b, off + t, none⟩) hb]; exact HC.out t (by rw [← HL.out]; omega)⟩
          have hgl : (gath xs (t + 1)).length ≤ 200 := by rw [gath_len, ← HL.out]; omega
          go_wp2_with (first | (at_builtin; refine wpList_append_own _ rfl _ _ 28 rfl w.heap.size 2 i0 (.int .i64 0) 1 8 Try.underlying28 hi hz0 hz1 hz2 rfl (by decide) _ _ _ rfl (HO.out.alloc _) ⟨wr.heap.size, 0, none⟩ 1 1 [.int .i64 y] rfl rfl ?c1 ?c2 ?c3 ?c4 ?c5 ?_))
          case c1 =>
            intro k u hk
            match k, hk with
            | 0, hk => simp at hk; subst hk; simp [Addr.add]
          case c2 => intro u hu; simp at hu; subst hu; rfl
          case c3 => unfold maxLen; omega
          case c4 => omega
          case c5 => have := HB.out.size; simp; omega
          intro v' w1 hown hgrow _
          have R : Hid (w1.ownsRow w.heap.size 2 1 v' (gath xs t).length ((gath xs t).map (Value.int .i64))) := by
            refine Lib.hid ?_
            rw [gath_step xs t (by rw [← HL.out]; omega), ← hy.out, List.length_append, List.map_append]
            exact hown
          have RB : Hid (Below w.heap.size w w1) := Lib.hid ((HB.out.alloc HB.out.size _).grown hgrow (by have := HB.out.size; simp; omega) (fun k hk => (HO.out.lt k hk).1))
          clear hown hgrow
          go_wp2_with fail
          go_roundw
          case rel => exact ⟨t, by omega, by go_num, R, RB⟩
          case measure => simp [intOf]
        · obtain rfl : j = 0 := by omega
          have HG : Hid ((gath xs 0).length = 200) := Lib.hid (by have h := gath_len xs 0; rw [← HL.out] at h; simpa using h)
          have HO2 : wr.ownsRow w.heap.size 2 1 u5 200 ((gath xs 0).map (Value.int .i64)) := by have := HO.out; rw [HG.out] at this; exact this
          obtain ⟨g, cp, hu, hg0, hg1⟩ := HO2.form (by omega)
          obtain ⟨hcp, hcm⟩ : 200 ≤ cp ∧ cp ≤ maxLen := by
            rcases HO2.2 with ⟨_, h0⟩ | ⟨g', cap', cur, hv, _, _, h1, h2, _⟩
            · omega
            · rw [hu] at hv; simp only [Value.slice.injEq] at hv; obtain ⟨_, _, rfl⟩ := hv; exact ⟨h1, h2⟩
          subst hu
          unfold maxLen at hcm
          have HO3 := Lib.hid HO2
          clear HO2 HO HG
          have HT : Hid (total xs = total (gath xs 0)) := Lib.hid (by rw [gath_end, total_reverse])
          obtain ⟨q, HQ, hqn⟩ : ∃ q : Nat, Hid (a1 % (200 : Int) = (q : Int)) ∧ q < 200 := by
            have h0 := Int.emod_nonneg a1 (show (200 : Int) ≠ 0 by omega)
            have h1 := Int.emod_lt_of_pos a1 (show (0 : Int) < (200 : Int) by omega)
            exact ⟨(a1 % (200 : Int)).toNat, Lib.hid (by omega), by omega⟩
          go_wp2_with fail
          rw [HQ.out]
          have hqc : ¬ cp = q := by omega
          have hqi : (q : Int) ≤ 200 := by omega
          have hqm : q ≤ 200 := by omega
          have hqk : q ≤ cp := by omega
          obtain ⟨ys, HYS⟩ : ∃ ys, Hid (gath xs 0 = ys) := ⟨_, Lib.hid rfl⟩
          rw [HYS.out] at HO3 HT
          have HYL : Hid (ys.length = 200) := by have h := HO3.out.1; simp at h; exact Lib.hid h
          have hys := HYL.out
          have HYR : Hid (∀ x ∈ ys.drop q ++ ys.take q, -9223372036854775808 ≤ x ∧ x ≤ 9223372036854775807) := Lib.hid (fun x hx => by
            refine HW.out x ?_
            have hin : x ∈ ys := by
              rcases List.mem_append.1 hx with h | h
              · exact List.mem_of_mem_drop h
              · exact List.mem_of_mem_take h
            rw [← HYS.out, gath_end] at hin
            simpa using hin)
          have KS := Lib.hid (own_start wr 2)
          have KL1 : Hid (((ys.drop q).map (Value.int .i64)).length = (200 - q) * 1) := Lib.hid (by simp; omega)
          have KC1 := Lib.hid (row_cells (W := (wr.alloc (.cells #[] 2)).drew) HO3.out (fun j => by rw [World.cell?_drew, World.cell?_alloc_lt _ _ _ hg1]) q (ys.drop q) (fun j hj => ⟨by simp at hj; omega, by rw [List.getElem?_drop]⟩))
          have KL2 : Hid (((ys.take q).map (Value.int .i64)).length = q * 1) := Lib.hid (by simp; omega)
          have KC2 : Hid (∀ W1 : World, ((wr.alloc (.cells #[] 2)).drew).grownBy W1 (some wr.heap.size) → ∀ j u, ((ys.take q).map (Value.int .i64))[j]? = some u → W1.cell? ((⟨g, 0, none⟩ : Addr).add j) = some u) := Lib.hid (fun W1 hW1 =>
            row_cells (W := W1) HO3.out (fun j => by
              rw [hW1.cell_far ⟨g, j, none⟩ (by simp; omega) (by simp; omega), World.cell?_drew, World.cell?_alloc_lt _ _ _ hg1]) 0 (ys.take q) (fun j hj => ⟨by simp at hj; omega, by simp at hj; rw [Nat.zero_add, List.getElem?_take_of_lt (by omega)]⟩))
          have KB : Hid (Below w.heap.size w (wr.alloc (.cells #[] 2)).drew) := Lib.hid ((HB.out.alloc HB.out.size _).drew)
          have KZ := HB.out.size
          clear hys
          go_region_law (first
            | (refine step_append_own rfl (.tmp 39) (.tmp 42) 28 rfl wr.heap.size 2 i0 (.int .i64 0) 1 8 Try.underlying28 hi hz0 hz1 hz2 rfl (by decide) (.slice (some ⟨wr.heap.size, 0, none⟩) 0 0) 0 [] (by simp [Act.eval]) KS.out ⟨g, q, none⟩ (200 - q) (cp - q) _ (by simp [Act.eval]) KL1.out KC1.out (ints_one _) (by unfold maxLen; omega) (by omega) (by simp) ?_; intro v1 w1 hown1 hgrow1 _)
            | (refine step_append_own rfl (.tmp 43) (.tmp 46) 28 rfl wr.heap.size 2 i0 (.int .i64 0) 1 8 Try.underlying28 hi hz0 hz1 hz2 rfl (by decide) v1 (0 + (200 - q)) _ (by simp [Act.eval]) hown1 ⟨g, 0, none⟩ q cp _ (by simp [Act.eval]) KL2.out (KC2.out w1 hgrow1) (ints_one _) (by unfold maxLen; omega) (by omega) (by have := hgrow1.size; simp at this; omega) ?_; intro v2 w2 hown2 hgrow2 _))
          have hn2 : 0 + (200 - q) + q = 200 := by omega
          rw [hn2, List.nil_append, ← List.map_append] at hown2
          obtain ⟨g2, c2, hv2, hg20, hg21⟩ := hown2.form (by omega)
          have HB1 : Below w.heap.size w w1 := KB.out.grown hgrow1 (by simp; omega) (fun k hk => (KS.out.lt k hk).1 |> Nat.le_trans KZ)
          have HB2 : Hid (Below w.heap.size w w2) := Lib.hid (HB1.grown hgrow2 HB1.size (fun k hk => Nat.le_trans KZ (hown1.lt k hk).1))
          subst hv2
          have HR2 : Hid (Row w2 (some ⟨g2, 0, none⟩) 200 (ys.drop q ++ ys.take q)) := Lib.hid (row_of_owns hown2 (by rw [List.length_append, List.length_drop, List.length_take, HYL.out]; omega) hg21 HYR.out)
          have HRL : Hid (Row w2 (some ⟨b, off, none⟩) 200 xs) := Lib.hid (HR.out.later HB2.out)
          have HTE : Hid (total (ys.drop q ++ ys.take q) = total xs) := Lib.hid (by rw [total_cut]; exact HT.out.symm)
          clear hown1 hown2 hgrow1 hgrow2 HB1 KB KS KC1 KC2 KL1 KL2 hn2
          go_wp2_with fail
          refine (sum_of _ _ _ _ _ HRL.out (by omega)).mono ?_
          rintro e w' ⟨rfl, rfl⟩
          go_wp2_with fail
          refine (sum_of _ _ _ _ _ HR2.out (by omega)).mono ?_
          rintro e w' ⟨rfl, rfl⟩
          rw [HTE.out]
          go_wp2_with fail
          refine (same_yes _ _ _).mono ?_
          rintro e w' ⟨rfl, rfl⟩
          go_wp2_with fail
          refine (works_any _).mono ?_
          rintro e wC ⟨rfl, hC⟩
          go_wp2_with fail
          go_ret
          exact ⟨rfl, HB2.out.trans (hC.mono HB2.out.size)⟩

set_option maxRecDepth 100000 in
theorem lifted (os : Os) (started : os.Started) (H : Type) (enc : TypeId × Value → H) :
    ReturnsInHanded {} Try.checked os 8 .any (Rows.calcTurnsSpec.pre6 enc Try.prog Try.f8 Rows.calcTurnsRow.domain false) (Rows.calcTurnsSpec.post enc Try.prog Try.f8 false true false false) := by
  refine returnsInHanded_of_change (C := Try.checked) own started (by kernel_rfl) Try.func8
    (ChangeSpec.witness6 (enc := enc) (C := Try.checked) false ⟨#[], #[.slice none 0 0, .int .u8 0], []⟩ 8 (by kernel_rfl) (by kernel_rfl) (by kernel_rfl) (by kernel_rfl)) ?_
  intro W base args ds gs before hval0 hW hcnd _
  have hval : ∀ (j : Nat) t v, Try.f8.params[j]? = some t → args[j]? = some v → Value.okWide Try.prog W .any base t v := hval0
  have hW' := hW
  obtain ⟨p, q, hA0, hV, rfl, hfz, hnd⟩ := hW
  have hA : DataW.TrodAll enc Try.prog W 0 (fun _ => true) true Try.f8.params.toList args.toList ds p := hA0
  rw [Try.params8] at hA hval
  obtain ⟨v0, vs0, d0, ds0, p0, q0, hargs, rfl, rfl, h0, r0⟩ := trodAll_cons hA
  obtain ⟨v1, vs1, d1, ds1, p1, q1, rfl, rfl, rfl, h1, r1⟩ := trodAll_cons r0
  obtain ⟨rfl, rfl, rfl⟩ := trodAll_nil r1
  obtain rfl : args = #[v0, v1] := by cases args; simp_all
  obtain ⟨rfl, rfl⟩ := trodVars_none hV
  obtain ⟨a0, len0, cap0, rfl⟩ := okWide_slice Try.underlying28 (hval 0 28 v0 rfl rfl)
  have k0 := h0
  have lt0 : ∀ x ∈ p0, x.block < W.heap.size := by obtain ⟨m, hm⟩ := k0; exact DataW.trod_lt m _ _ _ hm
  obtain ⟨z0, w0⟩ : ∃ zs, IsRow .i64 W a0 len0 cap0 zs := by
    obtain ⟨fuel, hf⟩ := h0
    rcases open_ints Try.underlying28 Try.underlying2 (by kernel_rfl) hf with ⟨hcs, _⟩ | ⟨x, l, c, zs, hcs, _, hl, hm, hz, _, hcell, hwz⟩
    · simp [Value.cells] at hcs
      obtain ⟨rfl, rfl, rfl⟩ := hcs
      exact ⟨[], .inl ⟨rfl, rfl, rfl, rfl⟩⟩
    · simp [Value.cells] at hcs
      obtain ⟨rfl, rfl, rfl⟩ := hcs
      exact ⟨zs, .inr ⟨_, rfl, hl, hm, by simpa using hz, hcell, hwz⟩⟩
  obtain ⟨a1, rfl, rfl, rfl, w1⟩ := open_int Try.underlying5 (hval 1 5 v1 rfl rfl) h1
  clear hA0 hval0
  refine (walk a0 len0 cap0 z0 a1 W w0 w1).mono fun e W' ⟨he, bel⟩ => ?_
  subst he
  exact ⟨_, rfl, _, _, _, [], _, [], hW', trodAll_mk1 (shut_bool Try.underlying4 _), (trodAll_cons_mk (Below.trod laidOut (by kernel_rfl) (of_decide_eq_true (by kernel_rfl)) k0 bel lt0) (trodAll_cons_mk (shut_int Try.underlying5 w1) trodAll_mk0)), rfl, bel.frame _, fun h => by cases h⟩

theorem over : Rows.calcTurnsRow.holds Try.pinned (OpenSpec.ofChange Rows.calcTurnsSpec) :=
  OpenClaim.holds_of_wide 8 Try.f8 rfl rfl rfl rfl rfl rfl rfl ⟨rfl, rfl, rfl, rfl, rfl⟩ rfl rfl rfl rfl rfl (by kernel_rfl) Try.func8 (by kernel_rfl)
    (of_decide_eq_true (by kernel_rfl)) (by unfold Func.isWrapper; first | (rw [if_pos (by decide +kernel)]; kernel_rfl) | (rw [if_neg (by decide +kernel)]; exact ⟨rfl, rfl⟩))
    (fun os started H enc _ => lifted os started H enc)

theorem proved : Rows.CalcTurnsSaid := over
#print axioms proved
end Go.Proofs.Ythoolmmnpnppkaa.calcTurns
