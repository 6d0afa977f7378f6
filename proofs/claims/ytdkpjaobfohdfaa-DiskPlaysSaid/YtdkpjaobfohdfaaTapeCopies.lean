/- Copy: the walk. -/
import Derived.Test.YtdkpjaobfohdfaaTapeCopy
import Derived.Test.YtdkpjaobfohdfaaTapeAdd
namespace Go.Proofs.Ytdkpjaobfohdfaa
open Go.RowKit Go.ChangeShapes Go.WideShapes Go.Maps
set_option linter.unusedVariables false
set_option maxRecDepth 10000
set_option linter.unusedSimpArgs false

/-- A new map, told how many there will be. -/
theorem made_map (n : Int) (w : World) : (Instr.makeMap 87 (some (.int .i64 n))).run Try.prog w = .ok (.map (some w.heap.size)) (w.alloc (.map #[] 0)) := by
  simp [Instr.makeMap, run_underlying Try.underlying87, asInt, asIntOf, Result.andThen]
theorem tape_copy0 (w : World) : Calls Try.prog 44 #[.pointer none] w fun e w' => e = .returned (.pointer (some ⟨w.heap.size, 0, none⟩)) ∧ Tp w' w.heap.size none (fun k => w.heap.size ≤ k) 0 64 ⟨0, []⟩ ∧ Below w.heap.size w w' := by
  have hn := tape_new 0 w
  go_enter Try.func44, Try.ntmps44
  go_wp2_with fail
  refine hn.mono ?_
  rintro e w' ⟨rfl, rfl⟩
  go_wp2_with fail
  go_ret
  exact ⟨rfl, new_tape w 0, (Below.refl _ _).alloc (Nat.le_refl _) _⟩
theorem So_none {z : Nat → Nat × Nat} (z' : Nat → Nat × Nat) {f s : Nat} {B : List Int} {x : Int} (h : So z f s B x = none) : So z' f s B x = none := by
  unfold So at *
  split at h
  · cases h
  · rename_i hn
    rw [if_neg hn]
section
variable {w : World} {T : Nat} {mb : Option Nat} {Q : Nat → Prop} {a : Int} {s : Nat} {t : TS}
set_option maxHeartbeats 2000000 in
set_option maxRecDepth 100000 in
theorem tape_copy (h : Tp w T mb Q a s t) (hbig : t.f * s + t.B.length ≤ 1000000) : Calls Try.prog 44 #[.pointer (some ⟨T, 0, none⟩)] w fun e w' => e = .returned (.pointer (some ⟨w.heap.size, 0, none⟩)) ∧ (∃ mb', Tp w' w.heap.size mb' (fun k => w.heap.size ≤ k) a s t) ∧ Below w.heap.size w w' := by
  have hs := h.s_in
  have HTP := Lib.hid h
  have hTlt := block_lt h.blk
  have c0 := h.cells.1
  have hn := tape_new a w
  have hb1 : Below w.heap.size w (w.alloc (.cells #[.int .i64 a, .int .i64 0, .int .i64 0, .map none] 89)) := (Below.refl _ _).alloc (Nat.le_refl _) _
  have HB1 := Lib.hid hb1
  have HN1 := Lib.hid (alloc_block w (.cells #[.int .i64 a, .int .i64 0, .int .i64 0, .map none] 89))
  have hs1 : (w.alloc (.cells #[.int .i64 a, .int .i64 0, .int .i64 0, .map none] 89)).heap.size = w.heap.size + 1 := by simp
  clear h hb1
  go_enter Try.func44, Try.ntmps44
  go_wp2_with fail
  refine hn.mono ?_
  rintro e w' ⟨rfl, rfl⟩
  go_wp2_with fail
  clear hn
  have HT1 := Lib.hid (HTP.out.later HB1.out)
  generalize hW1 : w.alloc (.cells #[.int .i64 a, .int .i64 0, .int .i64 0, .map none] 89) = W1 at *
  clear hW1
  have c1 : W1.drew.cell? ⟨T, 1, none⟩ = some (.int .i64 (t.f * s : Nat)) := HT1.out.cells.2.1
  have c2 : W1.drew.cell? ⟨T, 2, none⟩ = some (.int .i64 (t.f * s + t.B.length : Nat)) := HT1.out.cells.2.2.1
  have n1 : W1.drew.cell? ⟨w.heap.size, 1, none⟩ = some (.int .i64 0) := block_cell (j := 1) HN1.out rfl
  have n2 : W1.drew.cell? ⟨w.heap.size, 2, none⟩ = some (.int .i64 0) := block_cell (j := 2) HN1.out rfl
  have m1 : W1.cell? ⟨w.heap.size, 1, none⟩ = some (.int .i64 0) := n1
  have m2 : W1.cell? ⟨w.heap.size, 2, none⟩ = some (.int .i64 0) := n2
  have e1 : W1.frozen? ⟨w.heap.size, 1, none⟩ = false := block_free 1 HN1.out
  have e2 : W1.frozen? ⟨w.heap.size, 2, none⟩ = false := block_free 2 HN1.out
  have f1 : W1.drew.frozen? ⟨w.heap.size, 1, none⟩ = false := block_free 1 HN1.out
  have f2 : W1.drew.frozen? ⟨w.heap.size, 2, none⟩ = false := block_free 2 HN1.out
  have HF : Hid (T < w.heap.size) := Lib.hid hTlt
  generalize hF : t.f * s = F at *
  generalize hE : F + t.B.length = E at *
  have HFF := Lib.hid hF
  have HEE := Lib.hid hE
  clear hF hE
  go_region
  have HN2 : Hid (((W1.setCell ⟨w.heap.size, 1, none⟩ (.int .i64 (F : Nat))).setCell ⟨w.heap.size, 2, none⟩ (.int .i64 (E : Nat))).drew.heap[w.heap.size]? = some (.cells #[.int .i64 a, .int .i64 (F : Nat), .int .i64 (E : Nat), .map none] 89 (0, 0))) := Lib.hid (block_put 2 _ (block_put 1 _ HN1.out))
  have hc2 : Chg (fun k => k = w.heap.size) W1 ((W1.setCell ⟨w.heap.size, 1, none⟩ (.int .i64 (F : Nat))).setCell ⟨w.heap.size, 2, none⟩ (.int .i64 (E : Nat))).drew := (((Chg.refl (fun k => k = w.heap.size) W1).setCell ⟨w.heap.size, 1, none⟩ _ fun _ => rfl).setCell ⟨w.heap.size, 2, none⟩ _ fun _ => rfl).drewN 1
  have HB2 := Lib.hid (hc2.below HB1.out HB1.out.size fun k hk => by omega)
  have hs2 : ((W1.setCell ⟨w.heap.size, 1, none⟩ (.int .i64 (F : Nat))).setCell ⟨w.heap.size, 2, none⟩ (.int .i64 (E : Nat))).drew.heap.size = w.heap.size + 1 := by simpa using hs1
  clear c1 c2 n1 n2 m1 m2 e1 e2 f1 f2 hc2 HN1 HB1 HT1 hs1
  generalize ((W1.setCell ⟨w.heap.size, 1, none⟩ (.int .i64 (F : Nat))).setCell ⟨w.heap.size, 2, none⟩ (.int .i64 (E : Nat))).drew = W2 at *
  have HT2 := Lib.hid (HTP.out.later HB2.out)
  obtain ⟨X, hX⟩ : ∃ X, w.heap.size = X := ⟨_, rfl⟩
  have HX := Lib.hid hX
  rw [hX] at HN2 HB2 HF hs2 ⊢
  have c3 : W2.cell? ⟨T, 3, none⟩ = some (.map mb) := HT2.out.cells.2.2.2
  have hlen : ∀ ty, (Builtin.len_ #[87] ty #[.map mb]).run Try.prog W2 = .ok (.int .i64 (nS s t.B.length : Nat)) W2 := by
    intro ty
    cases mb with
    | none =>
      rw [(HTP.out.no rfl).2, nS_eq (s := s) (n := ([] : List Int).length) (m := 0) (by omega) (by simp) (fun i hi => by omega)]
      exact Maps.len_nil Try.underlying87 ty
    | some b =>
      obtain ⟨_, z, D, hown, hT, _⟩ := HT2.out.yes b rfl
      exact len_at hown hT ty
  have hmm := made_map
  have hb3 : Below W2.heap.size W2 (W2.alloc (.map #[] 0)) := (Below.refl _ _).alloc (Nat.le_refl _) _
  have hN3 := block_later HN2.out hb3
  have x3 := block_cell (j := 3) hN3 (v := .map none) rfl
  have y3 := block_free 3 hN3
  have HN3 : Hid (((W2.alloc (.map #[] 0)).setCell ⟨X, 3, none⟩ (.map (some (X + 1)))).heap[X]? = some (.cells #[.int .i64 a, .int .i64 (F : Nat), .int .i64 (E : Nat), .map (some (X + 1))] 89 (0, 0))) := Lib.hid (block_put 3 _ hN3)
  have hc3 : Chg (fun k => k = X) (W2.alloc (.map #[] 0)) ((W2.alloc (.map #[] 0)).setCell ⟨X, 3, none⟩ (.map (some (X + 1)))) := (Chg.refl _ _).setCell _ _ fun _ => rfl
  have HB3 : Hid (Below X w ((W2.alloc (.map #[] 0)).setCell ⟨X, 3, none⟩ (.map (some (X + 1))))) := Lib.hid (by
    have hb4 := HB2.out.trans (hb3.mono (by omega))
    exact hc3.below hb4 (hX ▸ hb4.size) fun k hk => by omega)
  have hs3 : ((W2.alloc (.map #[] 0)).setCell ⟨X, 3, none⟩ (.map (some (X + 1)))).heap.size = X + 2 := by simp [World.setCell, hs2]
  have hM3 : MapB ((W2.alloc (.map #[] 0)).setCell ⟨X, 3, none⟩ (.map (some (X + 1)))) (X + 1) 0 (.map []) := by
    have hm := World.ownsMap_made (H := Sv) W2 Try.prog 2 heldElem
    rw [hs2] at hm
    exact hm.setCell (a := ⟨X, 3, none⟩) (by show X + 1 ≠ X; omega) _
  have HM3 := Lib.hid hM3
  clear hb3 hN3 hc3 hM3
  generalize hN : nS s t.B.length = N at *
  have HN := Lib.hid hN
  clear hN
  generalize hW3 : (W2.alloc (.map #[] 0)).setCell ⟨X, 3, none⟩ (.map (some (X + 1))) = W3 at *
  have HT3 := Lib.hid (HTP.out.later (hX ▸ HB3.out))
  have c3' : W3.cell? ⟨T, 3, none⟩ = some (.map mb) := HT3.out.cells.2.2.2
  clear hX hTlt c0
  cases mb with
  | none =>
    obtain ⟨t1, t2⟩ := HTP.out.no rfl
    have hrg := run_range_nilMap (P := Try.prog) W3 87 _ _ Try.underlying87
    have hnx : ∀ ty, (Instr.next (.pointer (some ⟨W3.heap.size, 0, none⟩)) false ty).run Try.prog (W3.alloc (.mapIter none 0 #[] 0)) = _ := fun ty => run_next_nilMap _ ty 0 0 #[]
    rw [hs3] at hrg hnx
    go_wp2_with fail
    simp only [hW3] at *
    go_wp2_with fail
    refine wp_loop_rounds 1 ?_
    rw [rounds_succ]
    go_wp2_with fail
    go_ret
    have hb4 : Below W3.heap.size W3 (W3.alloc (.mapIter none 0 #[] 0)) := (Below.refl _ _).alloc (Nat.le_refl _) _
    have hN4 := block_later HN3.out hb4
    have hn0 : nS s 0 = 0 := nS_eq (by omega) (by omega) (fun i hi => by omega)
    refine ⟨by rw [HX.out]; rfl, ⟨some (X + 1), HTP.out.seg, ?_, fun e => (by cases e), fun b e => ?_, Nat.le_refl _⟩, ?_⟩
    · rw [HX.out, HFF.out, HEE.out]
      exact hN4
    · cases e
      rw [t1, t2, HX.out]
      refine ⟨Nat.le_succ X, fun _ => (0, 0), .map [], ?_, ?_, Seg.zero _ _ _ _ _⟩
      · rw [List.length_nil, hn0]
        exact HM3.out.turn (Chg.of_below (S := fun _ => False) hb4) fun h => h
      · rw [List.length_nil, hn0]
        exact Tm.empty.congr (fun y => by unfold So; rw [if_neg (by simp)]) rfl
    · rw [HX.out]
      exact HB3.out.trans (hb4.mono (by omega))
  | some b =>
    obtain ⟨_, z0, D0, hown9, hT0, hS9⟩ := HTP.out.yes b rfl
    have hc9 : Chg (fun _ => False) w W3 := Chg.of_below (HX.out ▸ HB3.out)
    have HO := Lib.hid (hown9.turn hc9 fun h => h)
    have HTM := Lib.hid hT0
    have HSG := Lib.hid (hS9.keep hc9 fun _ _ h => h)
    have HLT := Lib.hid fun i hi => hS9.lt (i := i) hi
    have hblt : b < w.heap.size := hown9.lt
    clear hown9 hS9 hT0 hc9
    obtain ⟨w0, hrun0, hrg0, hg0, hs0⟩ := HO.out.range mapLaw Try.underlying87
    rw [hs3] at hrun0 hrg0 hs0
    go_wp2_with fail
    simp only [hW3] at *
    go_wp2_with fail
    clear hrun0 hlen hmm x3 y3
    have hcp : Cp w w0 Q b (X + 2) (X + 1) X z0 D0 a s t (Maps.has D0) (Maps.size D0) := by
      have hb0 : Below W3.heap.size W3 w0 := ⟨hg0.os, hg0.tape, hg0.output, hg0.size, fun k hk => hg0.block k hk (by simp)⟩
      refine ⟨hrg0, HSG.out.keep (Chg.of_below (S := fun _ => False) hb0) (fun _ _ h => h), fun i hi => ?_, ?_, ?_, ?_, ?_, ?_⟩
      · exact HLT.out i hi
      · rw [HFF.out, HEE.out]
        exact block_later HN3.out hb0
      · rw [HX.out]
        exact HB3.out.trans (hb0.mono (by omega))
      · have := HX.out
        omega
      · rw [HTM.out.size]
        exact Nat.le_refl _
      · refine ⟨fun _ => (0, 0), .map [], (HM3.out.turn (Chg.of_below (S := fun _ => False) hb0) fun h => h).mono (Nat.zero_le _), fun x zd => ?_, fun kl => ?_, fun i hi hl => ?_, fun i j hi hj hne hl => ?_⟩
        · cases hh : Maps.has D0 (kL x) with
          | true => rw [if_pos rfl]; rfl
          | false =>
            have h1 := HTM.out.has x
            rw [hh] at h1
            have h2 : So z0 t.f s t.B x = none := by
              cases e : So z0 t.f s t.B x with
              | none => rfl
              | some v => rw [e] at h1; cases h1
            rw [if_neg (by simp), So_none (fun _ => (0, 0)) h2]
            rfl
        · show false = _
          cases Maps.has D0 kl <;> rfl
        · rw [HTM.out.has, So_at, if_pos hi] at hl
          cases hl
        · rw [HTM.out.has, So_at, if_pos hi] at hl
          cases hl
    have HCP := Lib.hid hcp
    clear hcp hrg0 hg0 hs0
    go_loopw [4] (fun _ wr => ∃ (left : Lit → Bool) (cnt : Nat), Hid (Cp w wr Q b (X + 2) (X + 1) X z0 D0 a s t left cnt)) (fun _ wr => wr.rangeLeft b (X + 2))
    case atStart => exact ⟨_, _, HCP⟩
    case round =>
      obtain ⟨left, cnt, HC⟩ := hrel
      go_wp2_with (first | (at_next; refine wpList_next_ranges (α := Int) (β := Sv) _ rfl _ rfl 2 mapLaw heldElem (Value.int .i64) (fun c => .slice c.1 c.2.1 c.2.2) (fun key kl hk => by obtain ⟨x, rfl, _⟩ := Maps.keyOf_int_inv Try.underlying2 hk; exact ⟨x, rfl⟩) (fun v y hv => by obtain ⟨c, rfl, _⟩ := held_shape hv; exact ⟨c, rfl⟩) b (X + 2) _ D0 _ _ rfl HC.out.rg ?_ ?_) | fail)
      · intro hc0 hl0
        go_wp2_with fail
        go_ret
        refine ⟨by rw [HX.out]; rfl, ⟨some (X + 1), ?_⟩, HC.out.below⟩
        have hd := HC.out.done HTM.out HTP.out.seg hl0
        rw [HX.out] at hd ⊢
        exact hd
      · intro x cp cn cc kl yd yps w1 cnt1 hkey hlk hv hat hrg1 hlt hg1 hs1 hen
        obtain ⟨x', ex, rfl, hwx⟩ := Maps.keyOf_int_inv Try.underlying2 hkey
        cases ex
        obtain ⟨rfl, rfl⟩ : yd = .held (cp, cn, cc) ∧ yps = [] := by
          first
            | (cases hv; exact ⟨rfl, rfl⟩)
            | (obtain ⟨h1, h2⟩ := hv; exact ⟨h1.symm, h2.symm⟩)
            | (simp [heldElem] at hv; obtain ⟨h1, h2⟩ := hv; exact ⟨h1.symm, h2.symm⟩)
        obtain ⟨i, hi, rfl, hce⟩ := cp_came HTM.out hat
        cases hce
        obtain ⟨k1, k2, k3⟩ := HC.out.keep (left1 := left) (cnt1 := cnt) hg1
        have hrow := (k1.row i hi).2
        have hpos : 0 < (sg s t.B i).length := by rw [sg_len]; omega
        have HCL := Lib.hid (clone_bytes _ _ _ _ w1.drew (SlG.later hrow.bl (Below.refl _ _).drew) hpos (by rw [sg_len]; omega))
        obtain ⟨z, D, hm, hatD, hhas, hrows, hap⟩ := HC.out.out
        have l5 : X + 2 ≠ X + 1 := by omega
        have HM1 := Lib.hid (World.ownsMap.kept hm hg1 (fun e => by have := Option.some.inj e; omega))
        have HST := Lib.hid fun (w3 w4 : World) (g c3 : Nat) (hr3 : RowB w3 (.slice (some ⟨g, 0, none⟩) (sg s t.B i).length c3) (sg s t.B i).length (sg s t.B i)) (hg3 : w1.heap.size ≤ g) (hb3 : Below w1.heap.size w1 w3) (hm3 : MapB w3 (X + 1) (nS s t.B.length - cnt) D) (hm4 : MapB w4 (X + 1) (nS s t.B.length - cnt + 1) (D.put (kL ((t.f + i : Nat) : Int)) (.held (some ⟨g, 0, none⟩, (sg s t.B i).length, c3)))) (hc4 : Chg (fun k => k = X + 1) w3 w4) =>
          HC.out.step hg1 hrg1 hlt HTM.out hi hlk rfl hr3 hg3 hb3 rfl hatD hhas hrows hap hm3 hm4 hc4
        have HWX := Lib.hid hwx
        have hNle := nS_le (s := s) (n := t.B.length) (by omega)
        have HNN : Hid (nS s t.B.length - cnt ≤ 1000000) := Lib.hid (by have := HEE.out; omega)
        have HK2 := Lib.hid k2
        have c3w : w1.drew.cell? ⟨X, 3, none⟩ = some (.map (some (X + 1))) := block_cell (j := 3) k2 rfl
        have HLT1 := Lib.hid hlt
        clear hatD hhas hrows hap hm hrow hlt hrg1 hat hkey hlk hwx k1 k2 hv
        go_wp2_with fail
        go_region_law (first
          | (go_simp; go_at_call 39; refine HCL.out.mono ?_; rintro e w3 ⟨g, c3, rfl, hr3, hg3, hb3⟩; have hb3' := below_undrew (q := 1) hb3; have e3 := block_cell (j := 3) (block_later HK2.out hb3') (v := .map (some (X + 1))) rfl; have hm3 := MapB.turn HM1.out (Chg.of_below (S := fun _ => False) hb3') (fun h => h); obtain ⟨w4, hrun4, hm4, hc4⟩ := upd_at hm3 HNN.out HWX.out (some ⟨g, 0, none⟩) (sg s t.B i).length c3; rw [Int.natCast_add] at hrun4; have hF := Lib.hid (HST.out w3 w4 g c3 hr3 hg3 hb3' hm3 hm4 hc4); clear hr3 hg3 hb3 hb3' hm3 hm4 hc4))
        all_goals
          go_wp2_with fail
          go_roundw
          case rel => exact ⟨_, _, hF⟩
          case measure => rw [hF.out.rg.left_eq, HC.out.rg.left_eq]; exact HLT1.out
end
end Go.Proofs.Ytdkpjaobfohdfaa
