/- Copy. -/
import Derived.Test.YtnciihekbbmiaaaDiskMake
import Derived.Deep.RegionHeld3
namespace Go.Proofs.Ytnciihekbbmiaaa
open Go.RowKit Go.ChangeShapes Go.WideShapes
set_option linter.unusedVariables false
set_option maxRecDepth 10000
set_option linter.unusedSimpArgs false

/-- A row of the same writes, of another colour. -/
theorem Pe.clone {w w6 w7 : World} {col : Nat → Nat} {c2 : Nat} {PL : List Pw} {L : List Dw} {v : Value} (hok : ∀ y ∈ PL, y.ok w col) (hm : PL.map (·.x) = L) (h6 : Below w.heap.size w w6) (h7 : Below w6.heap.size w6 w7) (hv : w7.ownsRow 0 87 1 v L.length (flatG ew PL)) (hn : ∀ k, v.ownBlock = some k → w6.heap.size ≤ k) :
    ∀ col', Ext w col col' → Pe w7 (paint col' w6.heap.size c2) c2 v L := fun col' he => by
  have hl : PL.length = L.length := by rw [← hm, List.length_map]
  refine ⟨⟨PL, hm, by rw [hl]; exact hv, fun y hy => ?_⟩, fun k hk => paint_new (hn k hk)⟩
  have h1 := ((hok y hy).recol he).keep (Chg.of_below (S := fun _ => False) h6) fun _ _ h => h
  exact (h1.recol (Ext.paint w6 col' c2)).keep (Chg.of_below (S := fun _ => False) h7) fun _ _ h => h
set_option maxHeartbeats 2000000 in
theorem disk_copy {w : World} {col : Nat → Nat} {c B : Nat} {d : DS} (h : Dk w col c B d) (hbig : d.tot ≤ 1000000) (hL : d.L.length ≤ 1000000) (c2 : Nat) (hc2 : 1 ≤ c2) :
    Calls Try.prog 16 #[.pointer (some ⟨B, 0, none⟩)] w fun e w' => ∃ B', e = .returned (.pointer (some ⟨B', 0, none⟩)) ∧ (∃ col', Ext w col col' ∧ Dk w' col' c2 B' d) ∧ w.heap.size ≤ B' ∧ Below w.heap.size w w' := by
  obtain ⟨⟨Bv, T, Bv0, T0, pv⟩, h⟩ := h
  have hsT := d.sT_len (by have := h.seen.z_in; omega)
  have htT : d.t.len d.z ≤ 1000000 := by unfold DS.tot at hbig; omega
  obtain ⟨p, cp, PL, hp, hPL, hsl, hok, _⟩ := h.pe.sl
  simp only at hp
  subst hp
  have HB1 : Hid (∀ w', Below w.heap.size w w' → Calls Try.prog 35 #[.agg #[.pointer (some ⟨Bv, 0, none⟩), .pointer (some ⟨T, 0, none⟩)]] w' fun e w'' => ∃ Bv' T', e = .returned (.agg #[.pointer (some ⟨Bv', 0, none⟩), .pointer (some ⟨T', 0, none⟩)]) ∧ Fresh w' w'' Bv' T' d.s d.sV d.a d.z d.sT ∧ Below w'.heap.size w' w'') := Lib.hid fun w' hb => both_any (h.seen.later hb) (by omega)
  have HB2 : Hid (∀ w', Below w.heap.size w w' → Calls Try.prog 35 #[.agg #[.pointer (some ⟨Bv0, 0, none⟩), .pointer (some ⟨T0, 0, none⟩)]] w' fun e w'' => ∃ Bv' T', e = .returned (.agg #[.pointer (some ⟨Bv', 0, none⟩), .pointer (some ⟨T', 0, none⟩)]) ∧ Fresh w' w'' Bv' T' d.s d.V d.a d.z d.t ∧ Below w'.heap.size w' w'') := Lib.hid fun w' hb => both_any (h.sure.later hb) htT
  have HCL : Hid (∀ w', Below w.heap.size w w' → Calls Try.prog 44 #[.slice p d.L.length cp] w' fun e w'' => ∃ p' c', e = .returned (.slice p' d.L.length c') ∧ w''.ownsRow 0 87 1 (.slice p' d.L.length c') d.L.length (flatG ew PL) ∧ (∀ k, (Value.slice p' d.L.length c').ownBlock = some k → w'.heap.size ≤ k) ∧ Below w'.heap.size w' w'') := Lib.hid fun w' hb => clone_writes p _ cp PL w' (SlG.later hsl hb) hL
  have HC : Hid (∀ w', Below w.heap.size w w' → w'.cell? ⟨B, 0, none⟩ = some (.int .i64 (d.M : Nat)) ∧ w'.cell? ⟨B, 1, none⟩ = some (.pointer (some ⟨Bv, 0, none⟩)) ∧ w'.cell? ⟨B, 2, none⟩ = some (.pointer (some ⟨T, 0, none⟩)) ∧
    w'.cell? ⟨B, 3, none⟩ = some (.pointer (some ⟨Bv0, 0, none⟩)) ∧ w'.cell? ⟨B, 4, none⟩ = some (.pointer (some ⟨T0, 0, none⟩)) ∧ w'.cell? ⟨B, 5, none⟩ = some (.slice p d.L.length cp)) := Lib.hid fun w' hb => (h.later hb).cells
  have HOK := Lib.hid hok
  have HPL := Lib.hid hPL
  have HM := Lib.hid h.most
  clear hok hPL hsl h
  have HW : Hid (∀ (w5 w6 w7 : World) (b1 t1 b2 t2 : Nat) (v : Value), Below w.heap.size w w5 → Fresh w w5 b1 t1 d.s d.sV d.a d.z d.sT → Below w5.heap.size w5 w6 → Fresh w5 w6 b2 t2 d.s d.V d.a d.z d.t → Below w6.heap.size w6 w7 → w7.ownsRow 0 87 1 v d.L.length (flatG ew PL) → (∀ k, v.ownBlock = some k → w6.heap.size ≤ k) →
      (∃ col', Ext w col col' ∧ Dk (w7.alloc (.cells (dcells d.M ⟨b1, t1, b2, t2, v⟩) 73)) col' c2 w7.heap.size d) ∧ w.heap.size ≤ w7.heap.size ∧ Below w.heap.size w (w7.alloc (.cells (dcells d.M ⟨b1, t1, b2, t2, v⟩) 73))) := Lib.hid fun w5 w6 w7 b1 t1 b2 t2 v h5 f5 h6 f6 h7 hv hn => by
    have h56 := h5.trans (h6.mono h5.size)
    have h57 := h56.trans (h7.mono h56.size)
    have h8 : Below w7.heap.size w7 (w7.alloc (.cells (dcells d.M ⟨b1, t1, b2, t2, v⟩) 73)) := (Below.refl _ _).alloc (Nat.le_refl _) _
    obtain ⟨col', g1, g2⟩ := Dka.made (col := col) (A := ⟨b1, t1, b2, t2, v⟩) (d := d) hc2 HM.out h5 f5 h6 f6 h7 (Pe.clone HOK.out HPL.out h56 h7 hv hn) h8 (Nat.le_refl _) (alloc_block _ _)
    exact ⟨⟨col', g1, _, g2⟩, h57.size, h57.trans (h8.mono h57.size)⟩
  clear HM HOK HPL
  generalize d.L.length = n0 at *
  generalize d.M = M at *
  have hcw := HC.out w (Below.refl _ _)
  obtain ⟨a0, a1, a2, a3, a4, a5⟩ := hcw
  go_enter Try.func16, Try.ntmps16
  go_wp2_with fail
  go_region_held3 (fun w' => w'.cell? ⟨B, 0, none⟩ = some (.int .i64 (M : Nat)) ∧ w'.cell? ⟨B, 1, none⟩ = some (.pointer (some ⟨Bv, 0, none⟩)) ∧ w'.cell? ⟨B, 2, none⟩ = some (.pointer (some ⟨T, 0, none⟩)) ∧
    w'.cell? ⟨B, 3, none⟩ = some (.pointer (some ⟨Bv0, 0, none⟩)) ∧ w'.cell? ⟨B, 4, none⟩ = some (.pointer (some ⟨T0, 0, none⟩)) ∧ w'.cell? ⟨B, 5, none⟩ = some (.slice p n0 cp)) (first | exact ⟨a0, a1, a2, a3, a4, a5⟩ | exact hs5 | exact hs6 | exact hs7 | exact HC.out _ (g57.alloc g57.size _) | exact HC.out _ (below_drewN (g57.alloc g57.size _) _))
   (first
    | (go_at_call 35; (with_reducible refine (HB1.out _ ?_).mono ?_); (first | exact below_drewN (Below.refl _ _) _ | exact (Below.refl _ _).drew | exact Below.refl _ _); rintro e w5 ⟨b1, t1, rfl, f5, g5⟩; have g5' : Below w.heap.size w w5 := (by first | exact g5 | exact below_undrew g5); have hs5 := HC.out _ g5')
    | (go_at_call 35; (with_reducible refine (HB2.out _ ?_).mono ?_); (first | exact g5' | exact below_drewN g5' _ | exact g5'.drew); rintro e w6 ⟨b2, t2, rfl, f6, g6⟩; have g6' : Below w5.heap.size w5 w6 := (by first | exact g6 | exact below_undrew g6); have g56 := g5'.trans (g6'.mono g5'.size); have hs6 := HC.out _ g56)
    | (go_at_call 44; (with_reducible refine (HCL.out _ ?_).mono ?_); (first | exact g56 | exact below_drewN g56 _ | exact g56.drew); rintro e w7 ⟨p7, c7, rfl, f7, n7, g7⟩; have g7' : Below w6.heap.size w6 w7 := (by first | exact g7 | exact below_undrew g7); have g57 := g56.trans (g7'.mono g56.size); have hs7 := HC.out _ g57))
  all_goals
    have g6'' : Below w5.heap.size w5 w6 := (by first | exact g6 | exact below_undrew g6)
    have g7'' : Below w6.heap.size w6 w7 := (by first | exact g7 | exact below_undrew g7)
    have HX := Lib.hid (HW.out w5 w6 w7 b1 t1 b2 t2 (.slice p7 n0 c7) g5' f5 g6'' f6 g7'' f7 n7)
    clear f5 f6 f7 n7 g5 g6 g7 g5' g56 g57 hs5 hs6 hs7 g6' g7' g6'' g7''
    go_wp2_with fail
    go_ret
    exact ⟨_, rfl, HX.out.1, HX.out.2.1, HX.out.2.2⟩
theorem disk_copy0 (w : World) : Calls Try.prog 16 #[.pointer none] w fun e w' => ∃ B, e = .returned (.pointer (some ⟨B, 0, none⟩)) ∧ Born w w' B (DS.new 0 0 0 0) ∧ w.heap.size ≤ B ∧ Below w.heap.size w w' := by
  have hn := disk_new 0 0 0 0 w
  go_enter Try.func16, Try.ntmps16
  go_wp2_with fail
  refine hn.mono ?_
  rintro e w1 ⟨B, rfl, h1, h2, h3⟩
  have H1 := Lib.hid h1
  have H2 := Lib.hid h2
  have H3 := Lib.hid h3
  clear h1 h2 h3 hn
  go_wp2_with fail
  go_ret
  exact ⟨_, rfl, H1.out, H2.out, H3.out⟩
end Go.Proofs.Ytnciihekbbmiaaa
