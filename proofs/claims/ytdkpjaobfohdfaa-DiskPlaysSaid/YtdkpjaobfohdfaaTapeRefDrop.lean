/- The document's tape, by value: Drop. -/
import Derived.Test.YtdkpjaobfohdfaaTapeRefCut
namespace Go.Proofs.Ytdkpjaobfohdfaa
open Go.RowKit Go.ChangeShapes Go.WideShapes
set_option linter.unusedVariables false
set_option maxRecDepth 10000
set_option linter.unusedSimpArgs false

set_option maxHeartbeats 1000000 in
theorem refdrop_any (p : Option Addr) (c s : Nat) (t : TS) (keep : Int) (w : World) (h : Rt w p c t.B) (hs : 64 ≤ s ∧ s ≤ 4096) (hbig : t.f * s + t.B.length ≤ 1000000) : Calls Try.prog 60 #[rv p t.B.length c (t.f * s) s, .int .i64 keep] w (RefGives w p s t (dropT s t keep)) := by
  have HPW := Lib.hid h.lt
  obtain ⟨h0, h1, hb1⟩ := ref_two w (.slice p t.B.length c) (.int .i64 (t.f * s : Nat)) (.int .i64 (s : Nat))
  have HR1 := Lib.hid (h.later hb1)
  have HA := Lib.hid h0
  have HZ := Lib.hid h1
  have HB1 := Lib.hid hb1
  obtain ⟨_, g2, g3, g4⟩ := gone_spec (by omega : 0 < s) t keep
  have hcl := cl_eq keep (t.f * s) (t.f * s + t.B.length)
  obtain ⟨g5, g6⟩ := g4 _ rfl
  have HDT : Hid (dropT s t keep = ⟨t.f + gone s t keep, t.B.drop (gone s t keep * s)⟩) := Lib.hid rfl
  have hcap := h.bl.cap
  have hmax : c ≤ 9223372036854775807 := by have := h.bl.max; unfold maxLen at this; omega
  clear h0 h1 hb1 h g4
  generalize cl keep (t.f * s) (t.f * s + t.B.length) = cc at *
  generalize gone s t keep = d at *
  generalize hn : t.B.length = n at *
  have HN := Lib.hid hn
  generalize hF : t.f * s = F at *
  have HF := Lib.hid hF
  obtain ⟨X, hX⟩ : ∃ X, w.heap.size = X := ⟨_, rfl⟩
  rw [hX] at HA HZ
  have HX := Lib.hid hX
  have HE := Lib.hid fun w2 => refend_any p n c F s w2 (by omega)
  have x0 := block_cell (j := 0) HA.out (v := .slice p n c) rfl
  have x1 := block_cell (j := 1) HA.out (v := .int .i64 (F : Nat)) rfl
  have x2 := block_cell (j := 2) HA.out (v := .int .i64 (s : Nat)) rfl
  have hFO := Lib.hid fun w2 hb2 => ref_found (w2 := w2) hX HA.out HZ.out HR1.out HB1.out hb2
  obtain ⟨E, hEE⟩ : ∃ E, F + n = E := ⟨_, rfl⟩
  rw [hEE] at HE hcl
  have HG3 := Lib.hid g3
  have HD : Hid (d * s ≤ cc - F ∧ cc - F < d * s + s ∧ d * s ≤ n) := Lib.hid ⟨g5, g6, g2⟩
  have hd0 : cc = F → d = 0 := fun e => by
    have h1 : d ≤ d * s := Nat.le_mul_of_pos_right _ (by omega)
    omega
  clear hn hF g3 g5 g6 g2
  have hE := HE.out ((w.alloc (.cells #[.slice p n c, .int .i64 (F : Nat), .int .i64 (s : Nat)] 33)).alloc (.cells #[.slice none 0 0, .int .i64 0, .int .i64 0] 33))
  unfold rv
  by_cases h1 : (E : Int) < keep
  · have hk1 : (F : Int) < (E : Int) → (E : Int) = (cc : Int) := by omega
    have hk2 : ¬ (F : Int) < (E : Int) → d = 0 := fun h => hd0 (by omega)
    go_enter Try.func60, Try.ntmps60
    go_wp2_with fail
    refine hE.mono ?_
    rintro e w1 ⟨rfl, hb1⟩
    have h9 := (hFO.out w1 hb1).1
    have y0 := block_cell (j := 0) h9 (v := .slice p n c) rfl
    have y1 := block_cell (j := 1) h9 (v := .int .i64 (F : Nat)) rfl
    have y2 := block_cell (j := 2) h9 (v := .int .i64 (s : Nat)) rfl
    clear x0 x1 x2 hE
    go_wp2_with fail
    refine (HE.out w1).mono ?_
    rintro e w2 ⟨rfl, hb2'⟩
    have hb2 := hb1.trans (hb2'.mono hb1.size)
    clear y0 y1 y2 hb1 hb2' h9
    obtain ⟨k1, k2, k3, k4⟩ := hFO.out w2 hb2
    have HK1 := Lib.hid k1
    have HK2 := Lib.hid k2
    have HK3 := Lib.hid k3
    have HK4 := Lib.hid k4
    have y0 := block_cell (j := 0) k1 (v := .slice p n c) rfl
    have y1 := block_cell (j := 1) k1 (v := .int .i64 (F : Nat)) rfl
    have y2 := block_cell (j := 2) k1 (v := .int .i64 (s : Nat)) rfl
    have HK := Lib.hid (And.intro hk1 (And.intro hk2 hcl))
    clear k1 k2 k3 k4 hb2 hk1 hk2 hcl hd0 hFO
    go_wp2_with fail
    go_loopw [5] (fun i wr => ∃ j J : Nat, j ≤ d ∧ Hid (j * s = J) ∧ i = .int .i64 (J : Nat) ∧ J ≤ n ∧ wr = w2) (fun i _ => n + s - (intOf i).toNat)
    case atStart => exact ⟨0, 0, Nat.zero_le _, Lib.hid (Nat.zero_mul _), rfl, Nat.zero_le _, rfl⟩
    case round =>
      obtain ⟨j, J, hjd, HJ, rfl, hJn, rfl⟩ := hrel
      obtain ⟨a1, a2, a3⟩ := HD.out
      obtain ⟨b1, b2, b3⟩ := HK.out
      by_cases hlt : j < d
      · have hgt : (F : Int) < (E : Int) := by
          rcases Int.lt_or_le (F : Int) (E : Int) with h | h
          · exact h
          · have := b2 (by omega)
            omega
        have hms := mul_succ_le (s := s) hlt
        rw [HJ.out] at hms
        have hge : (s : Int) ≤ (E : Int) - (F : Int) - (J : Int) := by have := b1 hgt; omega
        have hw1 : wrap64 ((E : Int) - (F : Int)) = (E : Int) - (F : Int) := IntWalk.wrap64_in _ (by have := b1 hgt; omega)
        have hw2 : wrap64 ((E : Int) - (F : Int) - (J : Int)) = (E : Int) - (F : Int) - (J : Int) := IntWalk.wrap64_in _ (by have := b1 hgt; omega)
        have hd1 : decide ((F : Int) < (E : Int)) = true := decide_eq_true hgt
        have hd2 : decide ((s : Int) ≤ (E : Int) - (F : Int) - (J : Int)) = true := decide_eq_true hge
        obtain ⟨J2, hJ2⟩ : ∃ J2, J + s = J2 := ⟨_, rfl⟩
        have e2 : (J : Int) + (s : Int) = (J2 : Int) := by omega
        have HJ2 : Hid ((j + 1) * s = J2) := Lib.hid (by rw [Nat.add_mul, Nat.one_mul, HJ.out, hJ2])
        have hJ2n : J2 ≤ n := by omega
        clear a1 a2 a3 b1 b2 b3 hms
        go_wp2_with fail
        go_roundw
        case rel => exact ⟨j + 1, J2, by omega, HJ2, by go_num, by omega, trivial⟩
        case measure => simp [intOf]; omega
      · obtain rfl : j = d := by omega
        rw [HJ.out] at a1 a2 a3
        have z0 := block_cell (j := 0) HK2.out (v := .slice none 0 0) rfl
        have z1 := block_cell (j := 1) HK2.out (v := .int .i64 0) rfl
        have z2 := block_cell (j := 2) HK2.out (v := .int .i64 0) rfl
        have f0 := block_free 0 HK2.out
        have f1 := block_free 1 HK2.out
        have f2 := block_free 2 HK2.out
        have z0d : wr.drew.cell? ⟨X + 1, 0, none⟩ = some (.slice none 0 0) := z0
        have z1d : wr.drew.cell? ⟨X + 1, 1, none⟩ = some (.int .i64 0) := z1
        have z2d : wr.drew.cell? ⟨X + 1, 2, none⟩ = some (.int .i64 0) := z2
        have f0d : wr.drew.frozen? ⟨X + 1, 0, none⟩ = false := f0
        have f1d : wr.drew.frozen? ⟨X + 1, 1, none⟩ = false := f1
        have f2d : wr.drew.frozen? ⟨X + 1, 2, none⟩ = false := f2
        obtain ⟨F2, hF2⟩ : ∃ F2, F + J = F2 := ⟨_, rfl⟩
        have e3 : (F : Int) + (J : Int) = (F2 : Int) := by omega
        have hw3 : IntKind.i64.wrap (F2 : Int) = (F2 : Int) := IntWalk.i64_in _ (by omega)
        have hw4 : IntKind.i64.wrap (J : Int) = (J : Int) := IntWalk.i64_in _ (by omega)
        have HF2 : Hid ((t.f + j) * s = F2) := Lib.hid (by rw [HG3.out, HJ.out, hF2])
        have HCUT := Lib.hid fun (q : Option Addr) (h1 : c = J → q = p) (h2 : c ≠ J → q = p.map (·.add J)) => BL.cut HK3.out.bl J (by rw [HN.out]; omega) q h1 h2
        have hJc : J ≤ c := by omega
        by_cases hgt : (F : Int) < (E : Int)
        · have hlt2 : ¬ (s : Int) ≤ (E : Int) - (F : Int) - (J : Int) := by have := b1 hgt; omega
          have hw1 : wrap64 ((E : Int) - (F : Int)) = (E : Int) - (F : Int) := IntWalk.wrap64_in _ (by have := b1 hgt; omega)
          have hw2 : wrap64 ((E : Int) - (F : Int) - (J : Int)) = (E : Int) - (F : Int) - (J : Int) := IntWalk.wrap64_in _ (by have := b1 hgt; omega)
          have hd1 : decide ((F : Int) < (E : Int)) = true := decide_eq_true hgt
          have hd2 : decide ((s : Int) ≤ (E : Int) - (F : Int) - (J : Int)) = false := decide_eq_false hlt2
          clear b1 b2 b3 a1 a2 a3
          by_cases hcJ : c = J
          · go_wp2_with fail
            go_still_tail 11, (by kernel_rfl)
            change wpList _ _ _ _ _ wr.drew
            go_wp2_with fail
            obtain ⟨e1, e2, e3⟩ := ref_end (W2 := wr) HK4.out (by omega) HK2.out (.slice p (n - J) 0) (.int .i64 (F2 : Nat)) (.int .i64 (s : Nat))
            have HE1 := Lib.hid e1
            refine bodyPost_ret (v := rv p (n - J) 0 F2 s) ?_ rfl ?_
            · exact results_cell_row rfl _ _ (X + 1) 33 _ (0, 0) _ rfl HE1.out Try.underlying33 rfl (by kernel_rfl)
            · rw [HDT.out, HJ.out]
              refine ref_same (W2 := wr) (fun h0 => HPW.out (by rw [← HN.out]; exact h0)) ⟨?_, fun a ha => ?_⟩ (fun a ha => ?_) (fun h => ?_) (by omega) (e3.drewN 1) (below_drewN e2 1) HF2.out.symm (by rw [List.length_drop, HN.out])
              · show BL wr p (t.B.drop J).length 0 (t.B.drop J)
                rw [List.length_drop, show 0 = c - J by omega]
                exact HCUT.out _ (fun _ => rfl) (fun h => absurd hcJ h)
              · exact HK3.out.form a ha
              · exact ⟨a, ha, rfl⟩
              · rw [List.length_drop] at h
                omega
          · go_wp2_with fail
            go_still_tail 11, (by kernel_rfl)
            change wpList _ _ _ _ _ wr.drew
            go_wp2_with fail
            obtain ⟨e1, e2, e3⟩ := ref_end (W2 := wr) HK4.out (by omega) HK2.out (.slice (p.map fun x => x.add J) (n - J) (c - J)) (.int .i64 (F2 : Nat)) (.int .i64 (s : Nat))
            have HE1 := Lib.hid e1
            refine bodyPost_ret (v := rv (p.map fun x => x.add J) (n - J) (c - J) F2 s) ?_ rfl ?_
            · exact results_cell_row rfl _ _ (X + 1) 33 _ (0, 0) _ rfl HE1.out Try.underlying33 rfl (by kernel_rfl)
            · rw [HDT.out, HJ.out]
              refine ref_same (W2 := wr) (fun h0 => HPW.out (by rw [← HN.out]; exact h0)) ⟨?_, fun a ha => ?_⟩ (fun a ha => ?_) (fun h => ?_) (by omega) (e3.drewN 1) (below_drewN e2 1) HF2.out.symm (by rw [List.length_drop, HN.out])
              · show BL wr (p.map fun x => x.add J) (t.B.drop J).length (c - J) (t.B.drop J)
                rw [List.length_drop, show (c - J) = c - J by omega]
                exact HCUT.out _ (fun h => absurd h hcJ) (fun _ => rfl)
              · obtain ⟨⟨b2, o2, sp2⟩, h2, rfl⟩ := Option.map_eq_some_iff.1 ha
                have hf : sp2 = none := HK3.out.form _ h2
                subst hf
                rw [Go.WideShapes.add_plain]
              · obtain ⟨⟨b2, o2, sp2⟩, h2, rfl⟩ := Option.map_eq_some_iff.1 ha
                have hf : sp2 = none := HK3.out.form _ h2
                subst hf
                exact ⟨_, h2, by rw [Go.WideShapes.add_plain]⟩
              · rw [List.length_drop] at h
                omega
        · have hd1 : decide ((F : Int) < (E : Int)) = false := decide_eq_false hgt
          clear b1 b2 b3 a1 a2 a3
          by_cases hcJ : c = J
          · go_wp2_with fail
            go_still_tail 11, (by kernel_rfl)
            change wpList _ _ _ _ _ wr.drew
            go_wp2_with fail
            obtain ⟨e1, e2, e3⟩ := ref_end (W2 := wr) HK4.out (by omega) HK2.out (.slice p (n - J) 0) (.int .i64 (F2 : Nat)) (.int .i64 (s : Nat))
            have HE1 := Lib.hid e1
            refine bodyPost_ret (v := rv p (n - J) 0 F2 s) ?_ rfl ?_
            · exact results_cell_row rfl _ _ (X + 1) 33 _ (0, 0) _ rfl HE1.out Try.underlying33 rfl (by kernel_rfl)
            · rw [HDT.out, HJ.out]
              refine ref_same (W2 := wr) (fun h0 => HPW.out (by rw [← HN.out]; exact h0)) ⟨?_, fun a ha => ?_⟩ (fun a ha => ?_) (fun h => ?_) (by omega) (e3.drewN 1) (below_drewN e2 1) HF2.out.symm (by rw [List.length_drop, HN.out])
              · show BL wr p (t.B.drop J).length 0 (t.B.drop J)
                rw [List.length_drop, show 0 = c - J by omega]
                exact HCUT.out _ (fun _ => rfl) (fun h => absurd hcJ h)
              · exact HK3.out.form a ha
              · exact ⟨a, ha, rfl⟩
              · rw [List.length_drop] at h
                omega
          · go_wp2_with fail
            go_still_tail 11, (by kernel_rfl)
            change wpList _ _ _ _ _ wr.drew
            go_wp2_with fail
            obtain ⟨e1, e2, e3⟩ := ref_end (W2 := wr) HK4.out (by omega) HK2.out (.slice (p.map fun x => x.add J) (n - J) (c - J)) (.int .i64 (F2 : Nat)) (.int .i64 (s : Nat))
            have HE1 := Lib.hid e1
            refine bodyPost_ret (v := rv (p.map fun x => x.add J) (n - J) (c - J) F2 s) ?_ rfl ?_
            · exact results_cell_row rfl _ _ (X + 1) 33 _ (0, 0) _ rfl HE1.out Try.underlying33 rfl (by kernel_rfl)
            · rw [HDT.out, HJ.out]
              refine ref_same (W2 := wr) (fun h0 => HPW.out (by rw [← HN.out]; exact h0)) ⟨?_, fun a ha => ?_⟩ (fun a ha => ?_) (fun h => ?_) (by omega) (e3.drewN 1) (below_drewN e2 1) HF2.out.symm (by rw [List.length_drop, HN.out])
              · show BL wr (p.map fun x => x.add J) (t.B.drop J).length (c - J) (t.B.drop J)
                rw [List.length_drop, show (c - J) = c - J by omega]
                exact HCUT.out _ (fun h => absurd h hcJ) (fun _ => rfl)
              · obtain ⟨⟨b2, o2, sp2⟩, h2, rfl⟩ := Option.map_eq_some_iff.1 ha
                have hf : sp2 = none := HK3.out.form _ h2
                subst hf
                rw [Go.WideShapes.add_plain]
              · obtain ⟨⟨b2, o2, sp2⟩, h2, rfl⟩ := Option.map_eq_some_iff.1 ha
                have hf : sp2 = none := HK3.out.form _ h2
                subst hf
                exact ⟨_, h2, by rw [Go.WideShapes.add_plain]⟩
              · rw [List.length_drop] at h
                omega
  · have hk1 : (F : Int) < keep → keep = (cc : Int) := by omega
    have hk2 : ¬ (F : Int) < keep → d = 0 := fun h => hd0 (by omega)
    go_enter Try.func60, Try.ntmps60
    go_wp2_with fail
    refine hE.mono ?_
    rintro e w2 ⟨rfl, hb2⟩
    clear x0 x1 x2 hE
    obtain ⟨k1, k2, k3, k4⟩ := hFO.out w2 hb2
    have HK1 := Lib.hid k1
    have HK2 := Lib.hid k2
    have HK3 := Lib.hid k3
    have HK4 := Lib.hid k4
    have y0 := block_cell (j := 0) k1 (v := .slice p n c) rfl
    have y1 := block_cell (j := 1) k1 (v := .int .i64 (F : Nat)) rfl
    have y2 := block_cell (j := 2) k1 (v := .int .i64 (s : Nat)) rfl
    have HK := Lib.hid (And.intro hk1 (And.intro hk2 hcl))
    clear k1 k2 k3 k4 hb2 hk1 hk2 hcl hd0 hFO
    go_wp2_with fail
    go_loopw [5] (fun i wr => ∃ j J : Nat, j ≤ d ∧ Hid (j * s = J) ∧ i = .int .i64 (J : Nat) ∧ J ≤ n ∧ wr = w2) (fun i _ => n + s - (intOf i).toNat)
    case atStart => exact ⟨0, 0, Nat.zero_le _, Lib.hid (Nat.zero_mul _), rfl, Nat.zero_le _, rfl⟩
    case round =>
      obtain ⟨j, J, hjd, HJ, rfl, hJn, rfl⟩ := hrel
      obtain ⟨a1, a2, a3⟩ := HD.out
      obtain ⟨b1, b2, b3⟩ := HK.out
      by_cases hlt : j < d
      · have hgt : (F : Int) < keep := by
          rcases Int.lt_or_le (F : Int) keep with h | h
          · exact h
          · have := b2 (by omega)
            omega
        have hms := mul_succ_le (s := s) hlt
        rw [HJ.out] at hms
        have hge : (s : Int) ≤ keep - (F : Int) - (J : Int) := by have := b1 hgt; omega
        have hw1 : wrap64 (keep - (F : Int)) = keep - (F : Int) := IntWalk.wrap64_in _ (by have := b1 hgt; omega)
        have hw2 : wrap64 (keep - (F : Int) - (J : Int)) = keep - (F : Int) - (J : Int) := IntWalk.wrap64_in _ (by have := b1 hgt; omega)
        have hd1 : decide ((F : Int) < keep) = true := decide_eq_true hgt
        have hd2 : decide ((s : Int) ≤ keep - (F : Int) - (J : Int)) = true := decide_eq_true hge
        obtain ⟨J2, hJ2⟩ : ∃ J2, J + s = J2 := ⟨_, rfl⟩
        have e2 : (J : Int) + (s : Int) = (J2 : Int) := by omega
        have HJ2 : Hid ((j + 1) * s = J2) := Lib.hid (by rw [Nat.add_mul, Nat.one_mul, HJ.out, hJ2])
        have hJ2n : J2 ≤ n := by omega
        clear a1 a2 a3 b1 b2 b3 hms
        go_wp2_with fail
        go_roundw
        case rel => exact ⟨j + 1, J2, by omega, HJ2, by go_num, by omega, trivial⟩
        case measure => simp [intOf]; omega
      · obtain rfl : j = d := by omega
        rw [HJ.out] at a1 a2 a3
        have z0 := block_cell (j := 0) HK2.out (v := .slice none 0 0) rfl
        have z1 := block_cell (j := 1) HK2.out (v := .int .i64 0) rfl
        have z2 := block_cell (j := 2) HK2.out (v := .int .i64 0) rfl
        have f0 := block_free 0 HK2.out
        have f1 := block_free 1 HK2.out
        have f2 := block_free 2 HK2.out
        have z0d : wr.drew.cell? ⟨X + 1, 0, none⟩ = some (.slice none 0 0) := z0
        have z1d : wr.drew.cell? ⟨X + 1, 1, none⟩ = some (.int .i64 0) := z1
        have z2d : wr.drew.cell? ⟨X + 1, 2, none⟩ = some (.int .i64 0) := z2
        have f0d : wr.drew.frozen? ⟨X + 1, 0, none⟩ = false := f0
        have f1d : wr.drew.frozen? ⟨X + 1, 1, none⟩ = false := f1
        have f2d : wr.drew.frozen? ⟨X + 1, 2, none⟩ = false := f2
        obtain ⟨F2, hF2⟩ : ∃ F2, F + J = F2 := ⟨_, rfl⟩
        have e3 : (F : Int) + (J : Int) = (F2 : Int) := by omega
        have hw3 : IntKind.i64.wrap (F2 : Int) = (F2 : Int) := IntWalk.i64_in _ (by omega)
        have hw4 : IntKind.i64.wrap (J : Int) = (J : Int) := IntWalk.i64_in _ (by omega)
        have HF2 : Hid ((t.f + j) * s = F2) := Lib.hid (by rw [HG3.out, HJ.out, hF2])
        have HCUT := Lib.hid fun (q : Option Addr) (h1 : c = J → q = p) (h2 : c ≠ J → q = p.map (·.add J)) => BL.cut HK3.out.bl J (by rw [HN.out]; omega) q h1 h2
        have hJc : J ≤ c := by omega
        by_cases hgt : (F : Int) < keep
        · have hlt2 : ¬ (s : Int) ≤ keep - (F : Int) - (J : Int) := by have := b1 hgt; omega
          have hw1 : wrap64 (keep - (F : Int)) = keep - (F : Int) := IntWalk.wrap64_in _ (by have := b1 hgt; omega)
          have hw2 : wrap64 (keep - (F : Int) - (J : Int)) = keep - (F : Int) - (J : Int) := IntWalk.wrap64_in _ (by have := b1 hgt; omega)
          have hd1 : decide ((F : Int) < keep) = true := decide_eq_true hgt
          have hd2 : decide ((s : Int) ≤ keep - (F : Int) - (J : Int)) = false := decide_eq_false hlt2
          clear b1 b2 b3 a1 a2 a3
          by_cases hcJ : c = J
          · go_wp2_with fail
            go_still_tail 11, (by kernel_rfl)
            change wpList _ _ _ _ _ wr.drew
            go_wp2_with fail
            obtain ⟨e1, e2, e3⟩ := ref_end (W2 := wr) HK4.out (by omega) HK2.out (.slice p (n - J) 0) (.int .i64 (F2 : Nat)) (.int .i64 (s : Nat))
            have HE1 := Lib.hid e1
            refine bodyPost_ret (v := rv p (n - J) 0 F2 s) ?_ rfl ?_
            · exact results_cell_row rfl _ _ (X + 1) 33 _ (0, 0) _ rfl HE1.out Try.underlying33 rfl (by kernel_rfl)
            · rw [HDT.out, HJ.out]
              refine ref_same (W2 := wr) (fun h0 => HPW.out (by rw [← HN.out]; exact h0)) ⟨?_, fun a ha => ?_⟩ (fun a ha => ?_) (fun h => ?_) (by omega) (e3.drewN 1) (below_drewN e2 1) HF2.out.symm (by rw [List.length_drop, HN.out])
              · show BL wr p (t.B.drop J).length 0 (t.B.drop J)
                rw [List.length_drop, show 0 = c - J by omega]
                exact HCUT.out _ (fun _ => rfl) (fun h => absurd hcJ h)
              · exact HK3.out.form a ha
              · exact ⟨a, ha, rfl⟩
              · rw [List.length_drop] at h
                omega
          · go_wp2_with fail
            go_still_tail 11, (by kernel_rfl)
            change wpList _ _ _ _ _ wr.drew
            go_wp2_with fail
            obtain ⟨e1, e2, e3⟩ := ref_end (W2 := wr) HK4.out (by omega) HK2.out (.slice (p.map fun x => x.add J) (n - J) (c - J)) (.int .i64 (F2 : Nat)) (.int .i64 (s : Nat))
            have HE1 := Lib.hid e1
            refine bodyPost_ret (v := rv (p.map fun x => x.add J) (n - J) (c - J) F2 s) ?_ rfl ?_
            · exact results_cell_row rfl _ _ (X + 1) 33 _ (0, 0) _ rfl HE1.out Try.underlying33 rfl (by kernel_rfl)
            · rw [HDT.out, HJ.out]
              refine ref_same (W2 := wr) (fun h0 => HPW.out (by rw [← HN.out]; exact h0)) ⟨?_, fun a ha => ?_⟩ (fun a ha => ?_) (fun h => ?_) (by omega) (e3.drewN 1) (below_drewN e2 1) HF2.out.symm (by rw [List.length_drop, HN.out])
              · show BL wr (p.map fun x => x.add J) (t.B.drop J).length (c - J) (t.B.drop J)
                rw [List.length_drop, show (c - J) = c - J by omega]
                exact HCUT.out _ (fun h => absurd h hcJ) (fun _ => rfl)
              · obtain ⟨⟨b2, o2, sp2⟩, h2, rfl⟩ := Option.map_eq_some_iff.1 ha
                have hf : sp2 = none := HK3.out.form _ h2
                subst hf
                rw [Go.WideShapes.add_plain]
              · obtain ⟨⟨b2, o2, sp2⟩, h2, rfl⟩ := Option.map_eq_some_iff.1 ha
                have hf : sp2 = none := HK3.out.form _ h2
                subst hf
                exact ⟨_, h2, by rw [Go.WideShapes.add_plain]⟩
              · rw [List.length_drop] at h
                omega
        · have hd1 : decide ((F : Int) < keep) = false := decide_eq_false hgt
          clear b1 b2 b3 a1 a2 a3
          by_cases hcJ : c = J
          · go_wp2_with fail
            go_still_tail 11, (by kernel_rfl)
            change wpList _ _ _ _ _ wr.drew
            go_wp2_with fail
            obtain ⟨e1, e2, e3⟩ := ref_end (W2 := wr) HK4.out (by omega) HK2.out (.slice p (n - J) 0) (.int .i64 (F2 : Nat)) (.int .i64 (s : Nat))
            have HE1 := Lib.hid e1
            refine bodyPost_ret (v := rv p (n - J) 0 F2 s) ?_ rfl ?_
            · exact results_cell_row rfl _ _ (X + 1) 33 _ (0, 0) _ rfl HE1.out Try.underlying33 rfl (by kernel_rfl)
            · rw [HDT.out, HJ.out]
              refine ref_same (W2 := wr) (fun h0 => HPW.out (by rw [← HN.out]; exact h0)) ⟨?_, fun a ha => ?_⟩ (fun a ha => ?_) (fun h => ?_) (by omega) (e3.drewN 1) (below_drewN e2 1) HF2.out.symm (by rw [List.length_drop, HN.out])
              · show BL wr p (t.B.drop J).length 0 (t.B.drop J)
                rw [List.length_drop, show 0 = c - J by omega]
                exact HCUT.out _ (fun _ => rfl) (fun h => absurd hcJ h)
              · exact HK3.out.form a ha
              · exact ⟨a, ha, rfl⟩
              · rw [List.length_drop] at h
                omega
          · go_wp2_with fail
            go_still_tail 11, (by kernel_rfl)
            change wpList _ _ _ _ _ wr.drew
            go_wp2_with fail
            obtain ⟨e1, e2, e3⟩ := ref_end (W2 := wr) HK4.out (by omega) HK2.out (.slice (p.map fun x => x.add J) (n - J) (c - J)) (.int .i64 (F2 : Nat)) (.int .i64 (s : Nat))
            have HE1 := Lib.hid e1
            refine bodyPost_ret (v := rv (p.map fun x => x.add J) (n - J) (c - J) F2 s) ?_ rfl ?_
            · exact results_cell_row rfl _ _ (X + 1) 33 _ (0, 0) _ rfl HE1.out Try.underlying33 rfl (by kernel_rfl)
            · rw [HDT.out, HJ.out]
              refine ref_same (W2 := wr) (fun h0 => HPW.out (by rw [← HN.out]; exact h0)) ⟨?_, fun a ha => ?_⟩ (fun a ha => ?_) (fun h => ?_) (by omega) (e3.drewN 1) (below_drewN e2 1) HF2.out.symm (by rw [List.length_drop, HN.out])
              · show BL wr (p.map fun x => x.add J) (t.B.drop J).length (c - J) (t.B.drop J)
                rw [List.length_drop, show (c - J) = c - J by omega]
                exact HCUT.out _ (fun h => absurd h hcJ) (fun _ => rfl)
              · obtain ⟨⟨b2, o2, sp2⟩, h2, rfl⟩ := Option.map_eq_some_iff.1 ha
                have hf : sp2 = none := HK3.out.form _ h2
                subst hf
                rw [Go.WideShapes.add_plain]
              · obtain ⟨⟨b2, o2, sp2⟩, h2, rfl⟩ := Option.map_eq_some_iff.1 ha
                have hf : sp2 = none := HK3.out.form _ h2
                subst hf
                exact ⟨_, h2, by rw [Go.WideShapes.add_plain]⟩
              · rw [List.length_drop] at h
                omega
end Go.Proofs.Ytdkpjaobfohdfaa
