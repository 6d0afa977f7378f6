/- The document's tape, by value: Cut. -/
import Derived.Test.YtdkpjaobfohdfaaTapeRefs
namespace Go.Proofs.Ytdkpjaobfohdfaa
open Go.RowKit Go.ChangeShapes Go.WideShapes
set_option linter.unusedVariables false
set_option maxRecDepth 10000
set_option linter.unusedSimpArgs false

/-- What the calls find behind End. -/
theorem ref_found {w W1 w2 : World} {p : Option Addr} {n c X F s : Nat} {B : List Int} (hX : w.heap.size = X) (h0 : W1.heap[X]? = some (.cells #[.slice p n c, .int .i64 (F : Nat), .int .i64 (s : Nat)] 33 (0, 0)))
    (h1 : W1.heap[X + 1]? = some (.cells #[.slice none 0 0, .int .i64 0, .int .i64 0] 33 (0, 0))) (hr : Rt W1 p c B) (hb1 : Below w.heap.size w W1) (hb2 : Below W1.heap.size W1 w2) :
    w2.heap[X]? = some (.cells #[.slice p n c, .int .i64 (F : Nat), .int .i64 (s : Nat)] 33 (0, 0)) ∧ w2.heap[X + 1]? = some (.cells #[.slice none 0 0, .int .i64 0, .int .i64 0] 33 (0, 0)) ∧ Rt w2 p c B ∧ Below w.heap.size w w2 :=
  ⟨block_later h0 hb2, block_later h1 hb2, hr.later hb2, hb1.trans (hb2.mono hb1.size)⟩
/-- The end of a call that hands back a part of the same bytes. -/
theorem ref_same {w W2 W3 : World} {p q : Option Addr} {c' s R F' n' : Nat} {t t' : TS} (hpw : 0 < t.B.length → ∀ a, p = some a → a.block < w.heap.size) (hr : Rt W2 q c' t'.B) (hq : ∀ a', q = some a' → ∃ a, p = some a ∧ a.block = a'.block) (hle : 0 < t'.B.length → 0 < t.B.length)
    (hR : w.heap.size ≤ R) (hc : Chg (fun k => k = R) W2 W3) (hb : Below w.heap.size w W3) (hF : F' = t'.f * s) (hn : n' = t'.B.length) : RefGives w p s t t' (.returned (rv q n' c' F' s)) W3 := by
  subst hF hn
  refine ⟨q, c', rfl, hr.keep hc fun h0 a ha e => ?_, fun h0 a ha => ?_, hb⟩
  · obtain ⟨a2, h2, h3⟩ := hq a ha
    have := hpw (hle h0) a2 h2
    omega
  · obtain ⟨a2, h2, h3⟩ := hq a ha
    exact .inl ⟨a2, h2, h3, hle h0⟩
theorem Rt.lt {w : World} {p : Option Addr} {c : Nat} {B : List Int} (h : Rt w p c B) : 0 < B.length → ∀ a, p = some a → a.block < w.heap.size := by
  intro h0 a ha
  obtain ⟨b, off, rfl, hlt, _⟩ := h.bl.at h0
  cases ha
  exact hlt
set_option maxHeartbeats 1000000 in
theorem refcut_any (p : Option Addr) (c s : Nat) (t : TS) (x : Int) (w : World) (h : Rt w p c t.B) (hbig : t.f * s + t.B.length ≤ 1000000) : Calls Try.prog 61 #[rv p t.B.length c (t.f * s) s, .int .i64 x] w (RefGives w p s t (cutT s t x)) := by
  have HPW := Lib.hid h.lt
  obtain ⟨h0, h1, hb1⟩ := ref_two w (.slice p t.B.length c) (.int .i64 (t.f * s : Nat)) (.int .i64 (s : Nat))
  have HR1 := Lib.hid (h.later hb1)
  have HA := Lib.hid h0
  have HZ := Lib.hid h1
  have HB1 := Lib.hid hb1
  obtain ⟨l1, l2⟩ := left_spec s t x
  have HCT : Hid (cutT s t x = ⟨t.f, t.B.take (left' s t x)⟩) := Lib.hid rfl
  have hcl := cl_eq x (t.f * s) (t.f * s + t.B.length)
  rw [l1] at hcl
  have hcap := h.bl.cap
  have hmax : c ≤ 9223372036854775807 := by have := h.bl.max; unfold maxLen at this; omega
  clear h0 h1 hb1 h l1
  generalize left' s t x = l at *
  generalize hn : t.B.length = n at *
  have HN := Lib.hid hn
  generalize hF : t.f * s = F at *
  have HF := Lib.hid hF
  obtain ⟨X, hX⟩ : ∃ X, w.heap.size = X := ⟨_, rfl⟩
  rw [hX] at HA HZ
  have HX := Lib.hid hX
  have hE := refend_any p n c F s ((w.alloc (.cells #[.slice p n c, .int .i64 (F : Nat), .int .i64 (s : Nat)] 33)).alloc (.cells #[.slice none 0 0, .int .i64 0, .int .i64 0] 33)) (by omega)
  have x0 := block_cell (j := 0) HA.out (v := .slice p n c) rfl
  have x1 := block_cell (j := 1) HA.out (v := .int .i64 (F : Nat)) rfl
  have x2 := block_cell (j := 2) HA.out (v := .int .i64 (s : Nat)) rfl
  have hFO := Lib.hid fun w2 hb2 => ref_found (w2 := w2) hX HA.out HZ.out HR1.out HB1.out hb2
  obtain ⟨E, hEE⟩ : ∃ E, F + n = E := ⟨_, rfl⟩
  rw [hEE] at hE hcl
  clear hn hF
  unfold rv
  by_cases h1 : (E : Int) ≤ x
  · have hl : l = n := by omega
    go_enter Try.func61, Try.ntmps61
    go_wp2_with fail
    refine hE.mono ?_
    rintro e w2 ⟨rfl, hb2⟩
    obtain ⟨k1, k2, k3, k4⟩ := hFO.out w2 hb2
    have HK2 := Lib.hid k2
    have HK3 := Lib.hid k3
    have HK4 := Lib.hid k4
    have y0 := block_cell (j := 0) k1 (v := .slice p n c) rfl
    have y1 := block_cell (j := 1) k1 (v := .int .i64 (F : Nat)) rfl
    have y2 := block_cell (j := 2) k1 (v := .int .i64 (s : Nat)) rfl
    have z0 := block_cell (j := 0) k2 (v := .slice none 0 0) rfl
    have z1 := block_cell (j := 1) k2 (v := .int .i64 0) rfl
    have z2 := block_cell (j := 2) k2 (v := .int .i64 0) rfl
    have f0 := block_free 0 k2
    have f1 := block_free 1 k2
    have f2 := block_free 2 k2
    clear k1 k2 k3 k4 x0 x1 x2 hE
    go_wp2_with fail
    obtain ⟨e1, e2, e3⟩ := ref_end HK4.out (by omega) HK2.out (.slice p n c) (.int .i64 (F : Nat)) (.int .i64 (s : Nat))
    have HE1 := Lib.hid e1
    refine bodyPost_ret (v := rv p n c F s) ?_ rfl ?_
    · exact results_cell_row rfl _ _ (X + 1) 33 _ (0, 0) _ rfl HE1.out Try.underlying33 rfl (by kernel_rfl)
    · have et : cutT s t x = t := by rw [HCT.out, hl, List.take_of_length_le (by rw [HN.out]; exact Nat.le_refl _)]
      rw [et]
      exact ref_same (fun h0 => HPW.out (by rw [← HN.out]; exact h0)) HK3.out (fun a ha => ⟨a, ha, rfl⟩) (fun h => h) (by omega) e3 e2 HF.out.symm HN.out.symm
  · by_cases h2 : x < (F : Int)
    · have hl : l = 0 := by omega
      subst hl
      have hw0 : IntKind.i64.wrap 0 = 0 := IntWalk.i64_in _ (by omega)
      go_enter Try.func61, Try.ntmps61
      go_wp2_with fail
      refine hE.mono ?_
      rintro e w2 ⟨rfl, hb2⟩
      obtain ⟨k1, k2, k3, k4⟩ := hFO.out w2 hb2
      have HK2 := Lib.hid k2
      have HK3 := Lib.hid k3
      have HK4 := Lib.hid k4
      have y0 := block_cell (j := 0) k1 (v := .slice p n c) rfl
      have y1 := block_cell (j := 1) k1 (v := .int .i64 (F : Nat)) rfl
      have y2 := block_cell (j := 2) k1 (v := .int .i64 (s : Nat)) rfl
      have z0 := block_cell (j := 0) k2 (v := .slice none 0 0) rfl
      have z1 := block_cell (j := 1) k2 (v := .int .i64 0) rfl
      have z2 := block_cell (j := 2) k2 (v := .int .i64 0) rfl
      have f0 := block_free 0 k2
      have f1 := block_free 1 k2
      have f2 := block_free 2 k2
      have z0d : w2.drew.cell? ⟨X + 1, 0, none⟩ = some (.slice none 0 0) := z0
      have z1d : w2.drew.cell? ⟨X + 1, 1, none⟩ = some (.int .i64 0) := z1
      have z2d : w2.drew.cell? ⟨X + 1, 2, none⟩ = some (.int .i64 0) := z2
      have f0d : w2.drew.frozen? ⟨X + 1, 0, none⟩ = false := f0
      have f1d : w2.drew.frozen? ⟨X + 1, 1, none⟩ = false := f1
      have f2d : w2.drew.frozen? ⟨X + 1, 2, none⟩ = false := f2
      clear k1 k2 k3 k4 x0 x1 x2 hE hb2
      go_wp2_with fail
      go_still_tail 12, (by kernel_rfl)
      change wpList _ _ _ _ _ w2.drew
      go_wp2_with fail
      have hb3 : Below w.heap.size w w2.drew := below_drewN HK4.out 1
      obtain ⟨e1, e2, e3⟩ := ref_end hb3 (by omega) HK2.out (.slice p 0 c) (.int .i64 (F : Nat)) (.int .i64 (s : Nat))
      have HE1 := Lib.hid e1
      refine bodyPost_ret (v := rv p 0 c F s) ?_ rfl ?_
      · exact results_cell_row rfl _ _ (X + 1) 33 _ (0, 0) _ rfl HE1.out Try.underlying33 rfl (by kernel_rfl)
      · rw [HCT.out]
        have hll : 0 = (t.B.take 0).length := by rw [List.length_take, HN.out]; omega
        refine ref_same (W2 := w2.drew) (fun h0 => HPW.out (by rw [← HN.out]; exact h0)) ?_ (fun a ha => ⟨a, ha, rfl⟩) (fun h => ?_) (by omega) e3 e2 HF.out.symm hll
        · refine ⟨?_, HK3.out.form⟩
          have hbl := SlG.take HK3.out.bl 0 (by rw [HN.out]; exact l2)
          show BL w2.drew p (t.B.take 0).length c (t.B.take 0)
          rw [← hll]
          exact SlG.later hbl (Below.refl _ _).drew
        · rw [HN.out]
          have h' : 0 < (t.B.take 0).length := h
          omega
    · obtain ⟨z, hz⟩ : ∃ z : Nat, x = z := ⟨x.toNat, by omega⟩
      subst hz
      have hzl : (z : Int) - (F : Int) = (l : Int) := by omega
      have hlc : l ≤ c := by omega
      have hlc2 : (l : Int) ≤ (c : Int) := by omega
      have hw0 : IntKind.i64.wrap (l : Int) = (l : Int) := IntWalk.i64_in _ (by omega)
      go_enter Try.func61, Try.ntmps61
      go_wp2_with fail
      refine hE.mono ?_
      rintro e w2 ⟨rfl, hb2⟩
      obtain ⟨k1, k2, k3, k4⟩ := hFO.out w2 hb2
      have HK2 := Lib.hid k2
      have HK3 := Lib.hid k3
      have HK4 := Lib.hid k4
      have y0 := block_cell (j := 0) k1 (v := .slice p n c) rfl
      have y1 := block_cell (j := 1) k1 (v := .int .i64 (F : Nat)) rfl
      have y2 := block_cell (j := 2) k1 (v := .int .i64 (s : Nat)) rfl
      have z0 := block_cell (j := 0) k2 (v := .slice none 0 0) rfl
      have z1 := block_cell (j := 1) k2 (v := .int .i64 0) rfl
      have z2 := block_cell (j := 2) k2 (v := .int .i64 0) rfl
      have f0 := block_free 0 k2
      have f1 := block_free 1 k2
      have f2 := block_free 2 k2
      have z0d : w2.drew.cell? ⟨X + 1, 0, none⟩ = some (.slice none 0 0) := z0
      have z1d : w2.drew.cell? ⟨X + 1, 1, none⟩ = some (.int .i64 0) := z1
      have z2d : w2.drew.cell? ⟨X + 1, 2, none⟩ = some (.int .i64 0) := z2
      have f0d : w2.drew.frozen? ⟨X + 1, 0, none⟩ = false := f0
      have f1d : w2.drew.frozen? ⟨X + 1, 1, none⟩ = false := f1
      have f2d : w2.drew.frozen? ⟨X + 1, 2, none⟩ = false := f2
      clear k1 k2 k3 k4 x0 x1 x2 hE hb2
      go_wp2_with fail
      go_still_tail 12, (by kernel_rfl)
      change wpList _ _ _ _ _ w2.drew
      go_wp2_with fail
      have hb3 : Below w.heap.size w w2.drew := below_drewN HK4.out 1
      obtain ⟨e1, e2, e3⟩ := ref_end hb3 (by omega) HK2.out (.slice p l c) (.int .i64 (F : Nat)) (.int .i64 (s : Nat))
      have HE1 := Lib.hid e1
      refine bodyPost_ret (v := rv p l c F s) ?_ rfl ?_
      · exact results_cell_row rfl _ _ (X + 1) 33 _ (0, 0) _ rfl HE1.out Try.underlying33 rfl (by kernel_rfl)
      · rw [HCT.out]
        have hll : l = (t.B.take l).length := by rw [List.length_take, HN.out]; omega
        refine ref_same (W2 := w2.drew) (fun h0 => HPW.out (by rw [← HN.out]; exact h0)) ?_ (fun a ha => ⟨a, ha, rfl⟩) (fun h => ?_) (by omega) e3 e2 HF.out.symm hll
        · refine ⟨?_, HK3.out.form⟩
          have hbl := SlG.take HK3.out.bl l (by rw [HN.out]; exact l2)
          show BL w2.drew p (t.B.take l).length c (t.B.take l)
          rw [← hll]
          exact SlG.later hbl (Below.refl _ _).drew
        · rw [HN.out]
          have h' : 0 < (t.B.take l).length := h
          omega
end Go.Proofs.Ytdkpjaobfohdfaa
