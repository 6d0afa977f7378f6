/- FieldHolds. (Written by tools/src/mkfieldholds.py.) -/
import Derived.Test.YtgjfgabagfhnoaaFieldPlayed
import Derived.StillTailTactics
namespace Go.Proofs.Ytgjfgabagfhnoaa
open Go.RowKit Go.ChangeShapes Go.WideShapes
set_option linter.unusedVariables false
set_option linter.unusedSimpArgs false
set_option maxRecDepth 10000

theorem played_gives (k0 k1 k2 lo init hi : Int) (p : Option Addr) (n m : Nat) (A : List Int) (q : Option Addr) (n2 m2 : Nat) (W : World) (hlo : I64 lo) (hin : I64 init) (hhi : I64 hi) (hA : NL .i64 W p n m A) (hI : ∀ x ∈ A, I64 x) :
    Calls Try.prog 23 #[.agg #[.int .u8 k0, .int .u8 k1, .int .u8 k2, .int .i64 lo, .int .i64 init, .int .i64 hi, .slice p n m, .slice q n2 m2]] W fun e w' => ∃ r c, e = .returned (.tuple #[.agg (fcs (playS (newF lo init hi).1 (A.take 40)).1), .slice r (playS (newF lo init hi).1 (A.take 40)).2.length c, .bool ((newF lo init hi).2 == 0)]) ∧ NL .i64 w' r (playS (newF lo init hi).1 (A.take 40)).2.length c (playS (newF lo init hi).1 (A.take 40)).2 ∧ Below W.heap.size W w' := by
  refine (played_any k0 k1 k2 lo init hi p n m A q n2 m2 W hlo hin hhi hA hI).mono ?_
  rintro e w' ⟨v, rfl, ho, hb⟩
  obtain ⟨r, c, rfl, hs, _⟩ := SlG.of_own (d := 0) (ni_len .i64) (by decide) ho
  exact ⟨r, c, rfl, hs, hb⟩
theorem hold_settle {lo hi w d : Int} {R : List Int} {f g : Fv} (h : Opn lo hi w (d :: R) g) (h1 : f.inf ≤ g.inf) (h2 : g.sup ≤ f.sup) (hl : I64 lo) (hh : I64 hi) : moveE g d 0 1 1 0 = 0 ∧ Opn lo hi (w + d) R (moveF g d 0 1 1 0) ∧ f.inf ≤ (moveF g d 0 1 1 0).inf ∧ (moveF g d 0 1 1 0).sup ≤ f.sup := by
  obtain ⟨a, b⟩ := h.settle hl hh
  have e1 := h.einf
  have e2 := h.esup
  have e3 : (moveF g d 0 1 1 0).inf = w + d + negs R := b.einf
  have e4 : (moveF g d 0 1 1 0).sup = w + d + poss R := b.esup
  unfold negs at e1
  unfold poss at e2
  refine ⟨a, b, ?_, ?_⟩
  · rw [e3]; split at e1 <;> omega
  · rw [e4]; split at e2 <;> omega
theorem hold_undo {lo hi w d : Int} {R : List Int} {f g : Fv} (h : Opn lo hi w (d :: R) g) (h1 : f.inf ≤ g.inf) (h2 : g.sup ≤ f.sup) (hl : I64 lo) (hh : I64 hi) : moveE g d (-1) 0 0 (-1) = 0 ∧ Opn lo hi w R (moveF g d (-1) 0 0 (-1)) ∧ f.inf ≤ (moveF g d (-1) 0 0 (-1)).inf ∧ (moveF g d (-1) 0 0 (-1)).sup ≤ f.sup := by
  obtain ⟨a, b⟩ := h.undo hl hh
  have e1 := h.einf
  have e2 := h.esup
  have e3 : (moveF g d (-1) 0 0 (-1)).inf = w + negs R := b.einf
  have e4 : (moveF g d (-1) 0 0 (-1)).sup = w + poss R := b.esup
  unfold negs at e1
  unfold poss at e2
  refine ⟨a, b, ?_, ?_⟩
  · rw [e3]; split at e1 <;> omega
  · rw [e4]; split at e2 <;> omega
theorem drop_at {L : List Int} {j : Nat} (h : j < L.length) : L.drop j = L.getD j 0 :: L.drop (j + 1) := by
  rw [List.drop_eq_getElem_cons h, List.getD, List.getElem?_eq_getElem h]
  rfl
/-- A run's box X, a field's box Y. -/
structure SR4 (X Y : Nat) (rc gc : Array Value) (w : World) : Prop where
  x : w.heap[X]? = some (.cells rc 49 (0, 0))
  g : w.heap[Y]? = some (.cells gc 23 (0, 0))
theorem SR4.chg {S : Nat → Prop} {X Y : Nat} {rc gc : Array Value} {w w' : World} (h : SR4 X Y rc gc w) (hc : Chg S w w') (h1 : ¬ S X) (h2 : ¬ S Y) : SR4 X Y rc gc w' :=
  ⟨(hc.block X (block_lt h.x) h1).trans h.x, (hc.block Y (block_lt h.g) h2).trans h.g⟩
theorem SR4.later {X Y : Nat} {rc gc : Array Value} {w w' : World} (h : SR4 X Y rc gc w) (hb : Below w.heap.size w w') : SR4 X Y rc gc w' :=
  h.chg (Chg.of_below (S := fun _ => False) hb) (fun h => h) (fun h => h)
/-- What ends: since world W only block G may have changed: it holds the field g. -/
structure Hg (W w : World) (G : Nat) (lo hi wv : Int) (R : List Int) (f g : Fv) : Prop where
  y : w.heap[G]? = some (.cells (fcs g) 23 (0, 0))
  chg : Chg (fun k => k = G) W w
  opn : Opn lo hi wv R g
  a : f.inf ≤ g.inf
  b : g.sup ≤ f.sup
theorem nl_cell {W w : World} {p : Option Addr} {n c : Nat} {L : List Int} {k : IntKind} {S : Nat → Prop} (h : NL k W p n c L) (hc : Chg S W w) (hs : ∀ b, b < W.heap.size → S b → False) {j : Nat} (hj : j < n) : ∃ b off, p = some ⟨b, off, none⟩ ∧ b < W.heap.size ∧ w.cell? ⟨b, off + j, none⟩ = some (.int k (L.getD j 0)) := by
  obtain ⟨b, off, hp, hlt, hx⟩ := num_cell h hj
  exact ⟨b, off, hp, hlt, cell_chg hc hx (fun h => hs b hlt h)⟩
set_option maxHeartbeats 8000000 in
theorem law_fholds (k0 k1 k2 lo init hi : Int) (p : Option Addr) (n m : Nat) (A : List Int) (q : Option Addr) (n2 m2 : Nat) (M : List Int) (w : World) (hlo : I64 lo) (hin : I64 init) (hhi : I64 hi) (hA : NL .i64 w p n m A) (hI : ∀ x ∈ A, I64 x) (hM : NL .u8 w q n2 m2 M) (hJ : ∀ x ∈ M, 0 ≤ x ∧ x ≤ 255) :
    Calls Try.prog 7 #[.agg #[.int .u8 k0, .int .u8 k1, .int .u8 k2, .int .i64 lo, .int .i64 init, .int .i64 hi, .slice p n m, .slice q n2 m2]] w fun e w' => e = .returned (.bool true) ∧ Below w.heap.size w w' := by
  have HPL := Lib.hid fun w' (hb : Below w.heap.size w w') => played_gives k0 k1 k2 lo init hi p n m A q n2 m2 w' hlo hin hhi (hA.later hb) hI
  obtain ⟨X, hX⟩ : ∃ X, w.heap.size = X := ⟨_, rfl⟩
  have HX0 := Lib.hid (alloc_block w (.cells #[.int .u8 k0, .int .u8 k1, .int .u8 k2, .int .i64 lo, .int .i64 init, .int .i64 hi, .slice p n m, .slice q n2 m2] 49))
  have HB0 : Hid (Below w.heap.size w (w.alloc (.cells #[.int .u8 k0, .int .u8 k1, .int .u8 k2, .int .i64 lo, .int .i64 init, .int .i64 hi, .slice p n m, .slice q n2 m2] 49))) := Lib.hid ((Below.refl _ _).alloc (Nat.le_refl _) _)
  have HM := Lib.hid hM
  have HJ := Lib.hid fun j (hj : j < n2) => hJ (M.getD j 0) (by rw [List.getD, List.getElem?_eq_getElem (by rw [hM.len]; exact hj)]; exact List.getElem_mem _)
  have hm2 := hM.max
  have hc2 := hM.cap
  unfold maxLen at hm2
  have HHX := Lib.hid hX
  rw [hX] at HX0
  clear hA hM hJ
  by_cases hok : lo ≤ init ∧ init ≤ hi
  · have hO := playS_opn hok.1 hok.2 (A.take 40)
    rw [show newF lo init hi = (⟨lo, hi, init, init, init, init⟩, 0) from if_pos hok] at HPL
    have hL := playS_i64 (A.take 40) (⟨lo, hi, init, init, init, init⟩, []) (fun x hx => hI x (List.mem_of_mem_take hx)) (fun x hx => by cases hx)
    have hLn := playS_len (A.take 40) (⟨lo, hi, init, init, init, init⟩, [])
    replace hL : ∀ x ∈ (playS ⟨lo, hi, init, init, init, init⟩ (A.take 40)).2, I64 x := hL
    replace hLn : (playS ⟨lo, hi, init, init, init, init⟩ (A.take 40)).2.length ≤ 40 := by
      have h2 : (A.take 40).length ≤ 40 := by rw [List.length_take]; omega
      simp only [List.length_nil, Nat.zero_add] at hLn
      exact Nat.le_trans hLn h2
    dsimp only at HPL
    generalize playS ⟨lo, hi, init, init, init, init⟩ (A.take 40) = s at *
    obtain ⟨f, L⟩ := s
    replace hO : Opn lo hi init L f := hO
    have hgf := (goodF_iff f).1 hO.good
    have hinf : f.inf ≤ f.inf := Int.le_refl _
    obtain ⟨f1, f2, f3, f4, f5, f6⟩ := f
    have HOP := Lib.hid hO
    have HLI := Lib.hid fun j (hj : j < L.length) => hL (L.getD j 0) (by rw [List.getD, List.getElem?_eq_getElem hj]; exact List.getElem_mem _)
    have HDR := Lib.hid fun j (hj : j < L.length) => drop_at hj
    have HGF := Lib.hid hgf
    have HKL := Lib.hid (And.intro hlo (And.intro hin hhi))
    replace HPL : Hid (∀ w', Below w.heap.size w w' → Calls Try.prog 23 #[.agg #[.int .u8 k0, .int .u8 k1, .int .u8 k2, .int .i64 lo, .int .i64 init, .int .i64 hi, .slice p n m, .slice q n2 m2]] w' fun e w'' => ∃ r c, e = .returned (.tuple #[.agg #[.int .i64 f1, .int .i64 f2, .int .i64 f3, .int .i64 f4, .int .i64 f5, .int .i64 f6], .slice r L.length c, .bool true]) ∧ NL .i64 w'' r L.length c L ∧ Below w'.heap.size w' w'') := HPL
    have HD0 : Hid (L.drop 0 = L) := Lib.hid rfl
    have HDE : Hid (L.drop L.length = []) := Lib.hid (List.drop_length)
    have hLn' := hLn
    generalize hNL : L.length = nl at *
    have HNL := Lib.hid hNL
    have HOK := Lib.hid hok
    clear hO hL hLn hinf hgf hlo hin hhi hNL hI hok
    go_enter Try.func7, Try.ntmps7
    go_upto_region 1 with (fail)
    clear hX
    generalize w.alloc (.cells #[.int .u8 k0, .int .u8 k1, .int .u8 k2, .int .i64 lo, .int .i64 init, .int .i64 hi, .slice p n m, .slice q n2 m2] 49) = V0 at *
    obtain ⟨x0, x1, x2, x3, x4, x5, x6, x7⟩ := rcells HX0.out
    go_wp2_with fail
    clear x0 x1 x2 x3 x4 x5 x6 x7
    refine (HPL.out _ HB0.out).mono ?_
    rintro e1 w1 ⟨r, c, rfl, hs1, hb1⟩
    have hbn : Below w1.heap.size w1 (w1.alloc (.cells #[.int .i64 f1, .int .i64 f2, .int .i64 f3, .int .i64 f4, .int .i64 f5, .int .i64 f6] 23)) := (Below.refl _ _).alloc (Nat.le_refl _) _
    have HX1 := Lib.hid (block_later (block_later HX0.out hb1) hbn)
    have HF1 := Lib.hid (alloc_block w1 (.cells #[.int .i64 f1, .int .i64 f2, .int .i64 f3, .int .i64 f4, .int .i64 f5, .int .i64 f6] 23))
    have HS1 := Lib.hid (hs1.later hbn)
    have HM1 := Lib.hid (HM.out.later (HB0.out.trans ((hb1.trans (hbn.mono hb1.size)).mono HB0.out.size)))
    have HB1 := Lib.hid (HB0.out.trans ((hb1.trans (hbn.mono hb1.size)).mono HB0.out.size))
    have HXF : Hid (X < w1.heap.size) := Lib.hid (block_lt (block_later HX0.out hb1))
    have hc1 := hs1.cap
    have hmx := hs1.max
    unfold maxLen at hmx
    clear hbn hb1 hs1 HB0 HX0 HPL HM
    go_upto_region 4 with (fail)
    generalize w1.alloc (.cells #[.int .i64 f1, .int .i64 f2, .int .i64 f3, .int .i64 f4, .int .i64 f5, .int .i64 f6] 23) = W1 at *
    generalize w1.heap.size = Y at *
    have hbd : SR4 X Y #[.int .u8 k0, .int .u8 k1, .int .u8 k2, .int .i64 lo, .int .i64 init, .int .i64 hi, .slice p n m, .slice q n2 m2] #[.int .i64 f1, .int .i64 f2, .int .i64 f3, .int .i64 f4, .int .i64 f5, .int .i64 f6] W1.drew := ⟨HX1.out, HF1.out⟩
    refine wp_region_held_drew (S := fun w' => Hid (SR4 X Y #[.int .u8 k0, .int .u8 k1, .int .u8 k2, .int .i64 lo, .int .i64 init, .int .i64 hi, .slice p n m, .slice q n2 m2] #[.int .i64 f1, .int .i64 f2, .int .i64 f3, .int .i64 f4, .int .i64 f5, .int .i64 f6] w')) (by kernel_rfl) (Lib.hid hbd) (fun hHeld => ?_)
    clear hbd
    have HXD : Hid (X < W1.drew.heap.size ∧ Y < W1.drew.heap.size ∧ w.heap.size ≤ W1.drew.heap.size) := Lib.hid ⟨block_lt HX1.out, block_lt HF1.out, HB1.out.size⟩
    have HSD := Lib.hid (HS1.out.later (w' := W1.drew) ((Below.refl _ _).drew))
    have HMD := Lib.hid (HM1.out.later (w' := W1.drew) ((Below.refl _ _).drew))
    have HBD := Lib.hid (below_drewN HB1.out 1)
    have HBD2 : Hid (Below w.heap.size w W1.drew) := Lib.hid HBD.out
    have HBE2 : Hid (Below w.heap.size w W1.drew) := Lib.hid HBD.out
    clear HBD HS1 HM1 HB1 HX1 HF1
    generalize W1.drew = W2 at *
    refine wpAnyH_take (i := 0) (oi := ⟨some 19, _, _, _, _, _⟩) (v := .agg #[.int .i64 f1, .int .i64 f2, .int .i64 f3, .int .i64 f4, .int .i64 f5, .int .i64 f6]) rfl (by kernel_rfl) (by kernel_rfl) (by kernel_rfl) (fun _ _ _ h => h) (Or.inl ⟨by rfl, fun w' hw' => ?_⟩) (by assumption) ?_
    · obtain ⟨c0, c1, c2, c3, c4, c5⟩ := fcells hw'.out.g
      clear hHeld
      go_simp
    simp only [Act.put, List.setIfInBounds_toArray, List.set_cons_zero, List.set_cons_succ]
    refine wpAnyH_take (i := 1) (oi := ⟨some 20, _, _, _, _, _⟩) (v := .pointer (some ⟨X, 0, none⟩)) rfl (by kernel_rfl) (by kernel_rfl) (by kernel_rfl) (fun _ _ _ h => h) (Or.inl ⟨by rfl, fun w' hw' => ?_⟩) (by assumption) ?_
    · clear hHeld
      go_simp
    simp only [Act.put, List.setIfInBounds_toArray, List.set_cons_zero, List.set_cons_succ]
    refine wpAnyH_take (i := 2) (oi := ⟨some 21, _, _, _, _, _⟩) (v := .pointer (some ⟨X, 4, none⟩)) rfl (by kernel_rfl) (by kernel_rfl) (by kernel_rfl) (fun _ _ _ h => h) (Or.inl ⟨by rfl, fun w' hw' => ?_⟩) (by assumption) ?_
    · clear hHeld
      go_simp
    simp only [Act.put, List.setIfInBounds_toArray, List.set_cons_zero, List.set_cons_succ]
    refine wpAnyH_take (i := 3) (oi := ⟨some 22, _, _, _, _, _⟩) (v := .int .i64 init) rfl (by kernel_rfl) (by kernel_rfl) (by kernel_rfl) (fun _ _ _ h => h) (Or.inl ⟨by rfl, fun w' hw' => ?_⟩) (by assumption) ?_
    · obtain ⟨c0, c1, c2, c3, c4, c5, c6, c7⟩ := rcells hw'.out.x
      clear hHeld
      go_simp
    simp only [Act.put, List.setIfInBounds_toArray, List.set_cons_zero, List.set_cons_succ]
    refine wpAnyH_ready (rs := [4]) (by kernel_rfl) (by simp) (AllReadyH.cons rfl (fun K hK => ?_) (AllReadyH.nil))
    go_simp
    have hba : Below W2.heap.size W2 (W2.alloc (.cells #[.int .i64 0, .int .i64 0, .int .i64 0, .int .i64 0, .int .i64 0, .int .i64 0] 23)) := (Below.refl _ _).alloc (Nat.le_refl _) _
    have hSN : Hid (SR4 X Y #[.int .u8 k0, .int .u8 k1, .int .u8 k2, .int .i64 lo, .int .i64 init, .int .i64 hi, .slice p n m, .slice q n2 m2] #[.int .i64 f1, .int .i64 f2, .int .i64 f3, .int .i64 f4, .int .i64 f5, .int .i64 f6] (W2.alloc (.cells #[.int .i64 0, .int .i64 0, .int .i64 0, .int .i64 0, .int .i64 0, .int .i64 0] 23))) := Lib.hid (hHeld.out.later hba)
    have HG3 := Lib.hid (alloc_block W2 (.cells #[.int .i64 0, .int .i64 0, .int .i64 0, .int .i64 0, .int .i64 0, .int .i64 0] 23))
    have HBE := Lib.hid (HBD2.out.trans (hba.mono HBD2.out.size))
    have HCA := Lib.hid (Chg.of_below (S := fun k => k = W2.heap.size) hba)
    clear hba HBD2
    refine hK.out _ _ hSN (fun hHeld2 => ?_)
    try simp only [Act.put, List.setIfInBounds_toArray, List.set_cons_zero, List.set_cons_succ]
    clear hSN hK K hHeld
    have hHeld := hHeld2
    clear hHeld2
    generalize W2.alloc (.cells #[.int .i64 0, .int .i64 0, .int .i64 0, .int .i64 0, .int .i64 0, .int .i64 0] 23) = W3 at *
    generalize hGG : W2.heap.size = G at *
    have HGG := Lib.hid hGG
    clear hGG
    refine wpAnyH_ready (rs := [5]) (by kernel_rfl) (by simp) (AllReadyH.cons rfl (fun K hK => ?_) (AllReadyH.nil))
    obtain ⟨r0, r1, r2, r3, r4, r5⟩ := fcells HG3.out
    obtain ⟨h0, h1, h2, h3, h4, h5⟩ := ffree HG3.out
    have HG4 := Lib.hid (fstored (a' := .int .i64 f1) (b' := .int .i64 f2) (c' := .int .i64 f3) (d' := .int .i64 f4) (e' := .int .i64 f5) (f' := .int .i64 f6) HG3.out)
    have hch := fput_chg W3 G (.int .i64 f1) (.int .i64 f2) (.int .i64 f3) (.int .i64 f4) (.int .i64 f5) (.int .i64 f6)
    have hSN : Hid (SR4 X Y #[.int .u8 k0, .int .u8 k1, .int .u8 k2, .int .i64 lo, .int .i64 init, .int .i64 hi, .slice p n m, .slice q n2 m2] #[.int .i64 f1, .int .i64 f2, .int .i64 f3, .int .i64 f4, .int .i64 f5, .int .i64 f6] ((((((W3.setCell ⟨G, 0, none⟩ (.int .i64 f1)).setCell ⟨G, 1, none⟩ (.int .i64 f2)).setCell ⟨G, 2, none⟩ (.int .i64 f3)).setCell ⟨G, 3, none⟩ (.int .i64 f4)).setCell ⟨G, 4, none⟩ (.int .i64 f5)).setCell ⟨G, 5, none⟩ (.int .i64 f6))) := Lib.hid (hHeld.out.chg hch (Nat.ne_of_lt HXD.out.1) (Nat.ne_of_lt HXD.out.2.1))
    have HC24 := Lib.hid (HCA.out.trans hch (fun _ _ h => h))
    clear hch HCA
    go_simp
    go_wp2_with fail
    refine hK.out _ _ hSN (fun hHeld2 => ?_)
    try simp only [Act.put, List.setIfInBounds_toArray, List.set_cons_zero, List.set_cons_succ]
    clear hK K hHeld
    have hHeld := hHeld2
    clear hHeld2 r0 r1 r2 r3 r4 r5 h0 h1 h2 h3 h4 h5 HG3
    refine wpAnyH_take (i := 6) (oi := ⟨some 7, _, _, _, _, _⟩) (v := .int .i64 init) rfl (by kernel_rfl) (by kernel_rfl) (by kernel_rfl) (fun _ _ _ h => h) (Or.inl ⟨by rfl, fun w' hw' => ?_⟩) (by assumption) ?_
    · clear hHeld
      go_simp
    simp only [Act.put, List.setIfInBounds_toArray, List.set_cons_zero, List.set_cons_succ]
    refine wpAnyH_done (by kernel_rfl) ?_ _
    have HS4 := hSN
    clear hHeld hSN
    generalize ((((((W3.setCell ⟨G, 0, none⟩ (.int .i64 f1)).setCell ⟨G, 1, none⟩ (.int .i64 f2)).setCell ⟨G, 2, none⟩ (.int .i64 f3)).setCell ⟨G, 3, none⟩ (.int .i64 f4)).setCell ⟨G, 4, none⟩ (.int .i64 f5)).setCell ⟨G, 5, none⟩ (.int .i64 f6)) = W4 at *
    go_wp2_with fail
    go_loopw [7, 8] (fun v i wr => ∃ j : Nat, j ≤ nl ∧ i = .int .i64 (j : Int) ∧ ∃ (wv : Int) (g : Fv), v = .int .i64 wv ∧ Hid (Hg W4 wr G lo hi wv (L.drop j) ⟨f1, f2, f3, f4, f5, f6⟩ g)) (fun _ i _ => nl - (Go.RowKit.intOf i).toNat)
    case atStart => exact ⟨0, Nat.zero_le _, rfl, init, ⟨f1, f2, f3, f4, f5, f6⟩, rfl, Lib.hid ⟨HG4.out, Chg.refl _ _, by rw [HD0.out]; exact HOP.out, Int.le_refl _, Int.le_refl _⟩⟩
    case round =>
      obtain ⟨j, hjn, rfl, wv, g, rfl, HF⟩ := hrel
      have HS5 := Lib.hid (HS4.out.chg HF.out.chg (Nat.ne_of_lt HXD.out.1) (Nat.ne_of_lt HXD.out.2.1))
      by_cases h1 : j < nl
      · have t1 : (j : Int) < nl := by omega
        obtain ⟨b, off, rfl, hblt, hcx⟩ := nl_cell HSD.out (HC24.out.trans HF.out.chg (fun _ _ h => h)) (fun b hb e => by have := HGG.out; omega) h1
        have HBG : Hid (¬ b = G) := Lib.hid (by have := HGG.out; omega)
        have hxi := HLI.out j h1
        have ho := HF.out.opn
        rw [HDR.out j h1] at ho
        have hst := hold_settle (f := ⟨f1, f2, f3, f4, f5, f6⟩) ho HF.out.a HF.out.b HKL.out.1 HKL.out.2.2
        have hun := hold_undo (f := ⟨f1, f2, f3, f4, f5, f6⟩) ho HF.out.a HF.out.b HKL.out.1 HKL.out.2.2
        have hgk := ho.ok HKL.out.1 HKL.out.2.2
        have hwr : I64 (wv + L.getD j 0) := by
          have h := (hst.2.1.ok HKL.out.1 HKL.out.2.2).2.2.1
          rw [hst.2.1.eba] at h
          exact h
        have ew : IntKind.i64.wrap (wv + L.getD j 0) = wv + L.getD j 0 := i64w _ hwr
        generalize L.getD j 0 = x at *
        obtain ⟨g1, g2, g3, g4, g5, g6⟩ := g
        have HSET := Lib.hid fun w => settle_any ⟨g1, g2, g3, g4, g5, g6⟩ x w hgk hxi
        have HUND := Lib.hid fun w => undo_any ⟨g1, g2, g3, g4, g5, g6⟩ x w hgk hxi
        rw [hst.1] at HSET
        rw [hun.1] at HUND
        have HST := Lib.hid hst.2
        have HUN := Lib.hid hun.2
        have HCX := Lib.hid hcx
        have HH := Lib.hid (And.intro hgk (And.intro hxi (And.intro ho hwr)))
        obtain ⟨x0, x1, x2, x3, x4, x5, x6, x7⟩ := rcells HS5.out.x
        obtain ⟨q0, q1, q2, q3, q4, q5⟩ := fcells HF.out.y
        clear hst hun hgk ho hxi hwr
        by_cases h2 : j < n2
        · have t2 : (j : Int) < n2 := by omega
          obtain ⟨b2, off2, rfl, hblt2, hcy⟩ := nl_cell HMD.out (HC24.out.trans HF.out.chg (fun _ _ h => h)) (fun b hb e => by have := HGG.out; omega) h2
          have hy0 := (HJ.out j h2).1
          generalize M.getD j 0 = y at *
          by_cases h3 : y % 2 = 1
          · have t3 : (y % 2 == 1) = true := by simpa using h3
            have H3 := Lib.hid h3
            clear h3
            generalize moveF ⟨g1, g2, g3, g4, g5, g6⟩ x 0 1 1 0 = N at *
            obtain ⟨y1, y2, y3, y4, y5, y6⟩ := N
            go_wp2_with fail
            have HGD : Hid (wr.drew.heap[G]? = some (.cells #[.int .i64 g1, .int .i64 g2, .int .i64 g3, .int .i64 g4, .int .i64 g5, .int .i64 g6] 23 (0, 0))) := Lib.hid HF.out.y
            have HCD : Hid (Chg (fun k => k = G) wr wr.drew) := Lib.hid ((Chg.refl _ _).drewN 1)
            have hbd : wr.drew.cell? ⟨b, off + j, none⟩ = some (.int .i64 x) := hcx
            refine wp_region_held_drew (S := fun w' => Hid (w'.cell? ⟨b, off + j, none⟩ = some (.int .i64 x))) (by kernel_rfl) (Lib.hid hbd) (fun hHeld => ?_)
            clear hbd q0 q1 q2 q3 q4 q5 x0 x1 x2 x3 x4 x5 x6 x7 hcx hcy
            generalize wr.drew = W5 at *
            refine wpAnyH_take (i := 1) (oi := ⟨some 45, _, _, _, _, _⟩) (v := .slice (some ⟨b, off, none⟩) nl c) rfl (by kernel_rfl) (by kernel_rfl) (by kernel_rfl) (fun _ _ _ h => h) (Or.inl ⟨by rfl, fun w' hw' => ?_⟩) (by assumption) ?_
            · clear hHeld
              go_simp
            simp only [Act.put, List.setIfInBounds_toArray, List.set_cons_zero, List.set_cons_succ]
            refine wpAnyH_take (i := 2) (oi := ⟨some 46, _, _, _, _, _⟩) (v := .int .i64 (j : Int)) rfl (by kernel_rfl) (by kernel_rfl) (by kernel_rfl) (fun _ _ _ h => h) (Or.inl ⟨by rfl, fun w' hw' => ?_⟩) (by assumption) ?_
            · clear hHeld
              go_simp
            simp only [Act.put, List.setIfInBounds_toArray, List.set_cons_zero, List.set_cons_succ]
            refine wpAnyH_take (i := 3) (oi := ⟨some 47, _, _, _, _, _⟩) (v := .pointer (some ⟨b, off + j, none⟩)) rfl (by kernel_rfl) (by kernel_rfl) (by kernel_rfl) (fun _ _ _ h => h) (Or.inl ⟨by rfl, fun w' hw' => ?_⟩) (by assumption) ?_
            · clear hHeld
              go_simp
            simp only [Act.put, List.setIfInBounds_toArray, List.set_cons_zero, List.set_cons_succ]
            refine wpAnyH_take (i := 4) (oi := ⟨some 48, _, _, _, _, _⟩) (v := .int .i64 x) rfl (by kernel_rfl) (by kernel_rfl) (by kernel_rfl) (fun _ _ _ h => h) (Or.inl ⟨by rfl, fun w' hw' => ?_⟩) (by assumption) ?_
            · have c0 := hw'.out
              clear hHeld
              go_simp
            simp only [Act.put, List.setIfInBounds_toArray, List.set_cons_zero, List.set_cons_succ]
            obtain ⟨q0, q1, q2, q3, q4, q5⟩ := fcells HGD.out
            refine wpAnyH_ready (rs := [0]) (by kernel_rfl) (by simp) (AllReadyH.cons rfl (fun K hK => ?_) (AllReadyH.nil))
            go_simp
            have hSN := hHeld
            refine hK.out _ _ hSN (fun hHeld2 => ?_)
            try simp only [Act.put, List.setIfInBounds_toArray, List.set_cons_zero, List.set_cons_succ]
            clear hSN hK K hHeld
            have hHeld := hHeld2
            clear hHeld2
            clear q0 q1 q2 q3 q4 q5
            refine wpAnyH_ready (rs := [5]) (by kernel_rfl) (by simp) (AllReadyH.cons rfl (fun K hK => ?_) (AllReadyH.nil))
            go_simp
            go_wp2_with fail
            refine (HSET.out _).mono ?_
            rintro e4 w4 ⟨rfl, hb4⟩
            have hSN : Hid (w4.cell? ⟨b, off + j, none⟩ = some (.int .i64 x)) := Lib.hid (cell_chg (Chg.of_below (S := fun _ => False) hb4) hHeld.out (fun h => h))
            have HG5 := Lib.hid (block_later HGD.out hb4)
            have HC5 := Lib.hid (HCD.out.trans (Chg.of_below (S := fun k => k = G) hb4) (fun _ _ h => h))
            clear hb4 HGD HCD
            go_wp2_with fail
            refine hK.out _ _ hSN (fun hHeld2 => ?_)
            try simp only [Act.put, List.setIfInBounds_toArray, List.set_cons_zero, List.set_cons_succ]
            clear hSN hK K hHeld
            have hHeld := hHeld2
            clear hHeld2
            refine wpAnyH_take (i := 6) (oi := ⟨some 43, _, _, _, _, _⟩) (v := .tuple #[.agg #[.int .i64 y1, .int .i64 y2, .int .i64 y3, .int .i64 y4, .int .i64 y5, .int .i64 y6], .int .i64 0]) rfl (by kernel_rfl) (by kernel_rfl) (by kernel_rfl) (fun _ _ _ h => h) (Or.inl ⟨by rfl, fun w' hw' => ?_⟩) (by assumption) ?_
            · clear hHeld
              go_simp
            simp only [Act.put, List.setIfInBounds_toArray, List.set_cons_zero, List.set_cons_succ]
            refine wpAnyH_take (i := 7) (oi := ⟨some 50, _, _, _, _, _⟩) (v := .agg #[.int .i64 y1, .int .i64 y2, .int .i64 y3, .int .i64 y4, .int .i64 y5, .int .i64 y6]) rfl (by kernel_rfl) (by kernel_rfl) (by kernel_rfl) (fun _ _ _ h => h) (Or.inl ⟨by rfl, fun w' hw' => ?_⟩) (by assumption) ?_
            · clear hHeld
              go_simp
            simp only [Act.put, List.setIfInBounds_toArray, List.set_cons_zero, List.set_cons_succ]
            refine wpAnyH_take (i := 8) (oi := ⟨some 51, _, _, _, _, _⟩) (v := .int .i64 0) rfl (by kernel_rfl) (by kernel_rfl) (by kernel_rfl) (fun _ _ _ h => h) (Or.inl ⟨by rfl, fun w' hw' => ?_⟩) (by assumption) ?_
            · clear hHeld
              go_simp
            simp only [Act.put, List.setIfInBounds_toArray, List.set_cons_zero, List.set_cons_succ]
            refine wpAnyH_ready (rs := [9]) (by kernel_rfl) (by simp) (AllReadyH.cons rfl (fun K hK => ?_) (AllReadyH.nil))
            obtain ⟨r0, r1, r2, r3, r4, r5⟩ := fcells HG5.out
            obtain ⟨d0, d1, d2, d3, d4, d5⟩ := ffree HG5.out
            have HG6 := Lib.hid (fstored (a' := .int .i64 y1) (b' := .int .i64 y2) (c' := .int .i64 y3) (d' := .int .i64 y4) (e' := .int .i64 y5) (f' := .int .i64 y6) HG5.out)
            have hch := fput_chg w4 G (.int .i64 y1) (.int .i64 y2) (.int .i64 y3) (.int .i64 y4) (.int .i64 y5) (.int .i64 y6)
            have hSN : Hid (((((((w4.setCell ⟨G, 0, none⟩ (.int .i64 y1)).setCell ⟨G, 1, none⟩ (.int .i64 y2)).setCell ⟨G, 2, none⟩ (.int .i64 y3)).setCell ⟨G, 3, none⟩ (.int .i64 y4)).setCell ⟨G, 4, none⟩ (.int .i64 y5)).setCell ⟨G, 5, none⟩ (.int .i64 y6)).cell? ⟨b, off + j, none⟩ = some (.int .i64 x)) := Lib.hid (cell_chg hch hHeld.out HBG.out)
            have HC6 := Lib.hid (HC5.out.trans hch (fun _ _ h => h))
            clear hch HC5
            go_simp
            go_wp2_with fail
            refine hK.out _ _ hSN (fun hHeld2 => ?_)
            try simp only [Act.put, List.setIfInBounds_toArray, List.set_cons_zero, List.set_cons_succ]
            clear hSN hK K hHeld
            have hHeld := hHeld2
            clear hHeld2 r0 r1 r2 r3 r4 r5 d0 d1 d2 d3 d4 d5 HG5
            refine wpAnyH_take (i := 10) (oi := ⟨some 9, _, _, _, _, _⟩) (v := .int .i64 0) rfl (by kernel_rfl) (by kernel_rfl) (by kernel_rfl) (fun _ _ _ h => h) (Or.inl ⟨by rfl, fun w' hw' => ?_⟩) (by assumption) ?_
            · clear hHeld
              go_simp
            simp only [Act.put, List.setIfInBounds_toArray, List.set_cons_zero, List.set_cons_succ]
            refine wpAnyH_done (by kernel_rfl) ?_ _
            have hcx := hHeld.out
            clear hHeld
            generalize ((((((w4.setCell ⟨G, 0, none⟩ (.int .i64 y1)).setCell ⟨G, 1, none⟩ (.int .i64 y2)).setCell ⟨G, 2, none⟩ (.int .i64 y3)).setCell ⟨G, 3, none⟩ (.int .i64 y4)).setCell ⟨G, 4, none⟩ (.int .i64 y5)).setCell ⟨G, 5, none⟩ (.int .i64 y6)) = w5 at *
            go_wp2_with fail
            go_roundw
            case rel => exact ⟨j + 1, by omega, by go_num, (wv + x), ⟨y1, y2, y3, y4, y5, y6⟩, rfl, Lib.hid ⟨HG6.out, HF.out.chg.trans HC6.out (fun _ _ h => h), HST.out.1, HST.out.2.1, HST.out.2.2⟩⟩
            case measure =>
              simp [Go.RowKit.intOf]
              omega
          · have t3 : (y % 2 == 1) = false := by simpa using h3
            have H3 := Lib.hid h3
            clear h3
            generalize moveF ⟨g1, g2, g3, g4, g5, g6⟩ x (-1) 0 0 (-1) = N at *
            obtain ⟨y1, y2, y3, y4, y5, y6⟩ := N
            go_wp2_with fail
            have HGD : Hid (wr.drew.heap[G]? = some (.cells #[.int .i64 g1, .int .i64 g2, .int .i64 g3, .int .i64 g4, .int .i64 g5, .int .i64 g6] 23 (0, 0))) := Lib.hid HF.out.y
            have HCD : Hid (Chg (fun k => k = G) wr wr.drew) := Lib.hid ((Chg.refl _ _).drewN 1)
            have hbd : wr.drew.cell? ⟨b, off + j, none⟩ = some (.int .i64 x) := hcx
            refine wp_region_held_drew (S := fun w' => Hid (w'.cell? ⟨b, off + j, none⟩ = some (.int .i64 x))) (by kernel_rfl) (Lib.hid hbd) (fun hHeld => ?_)
            clear hbd q0 q1 q2 q3 q4 q5 x0 x1 x2 x3 x4 x5 x6 x7 hcx hcy
            generalize wr.drew = W5 at *
            refine wpAnyH_take (i := 1) (oi := ⟨some 60, _, _, _, _, _⟩) (v := .slice (some ⟨b, off, none⟩) nl c) rfl (by kernel_rfl) (by kernel_rfl) (by kernel_rfl) (fun _ _ _ h => h) (Or.inl ⟨by rfl, fun w' hw' => ?_⟩) (by assumption) ?_
            · clear hHeld
              go_simp
            simp only [Act.put, List.setIfInBounds_toArray, List.set_cons_zero, List.set_cons_succ]
            refine wpAnyH_take (i := 2) (oi := ⟨some 61, _, _, _, _, _⟩) (v := .int .i64 (j : Int)) rfl (by kernel_rfl) (by kernel_rfl) (by kernel_rfl) (fun _ _ _ h => h) (Or.inl ⟨by rfl, fun w' hw' => ?_⟩) (by assumption) ?_
            · clear hHeld
              go_simp
            simp only [Act.put, List.setIfInBounds_toArray, List.set_cons_zero, List.set_cons_succ]
            refine wpAnyH_take (i := 3) (oi := ⟨some 62, _, _, _, _, _⟩) (v := .pointer (some ⟨b, off + j, none⟩)) rfl (by kernel_rfl) (by kernel_rfl) (by kernel_rfl) (fun _ _ _ h => h) (Or.inl ⟨by rfl, fun w' hw' => ?_⟩) (by assumption) ?_
            · clear hHeld
              go_simp
            simp only [Act.put, List.setIfInBounds_toArray, List.set_cons_zero, List.set_cons_succ]
            refine wpAnyH_take (i := 4) (oi := ⟨some 63, _, _, _, _, _⟩) (v := .int .i64 x) rfl (by kernel_rfl) (by kernel_rfl) (by kernel_rfl) (fun _ _ _ h => h) (Or.inl ⟨by rfl, fun w' hw' => ?_⟩) (by assumption) ?_
            · have c0 := hw'.out
              clear hHeld
              go_simp
            simp only [Act.put, List.setIfInBounds_toArray, List.set_cons_zero, List.set_cons_succ]
            obtain ⟨q0, q1, q2, q3, q4, q5⟩ := fcells HGD.out
            refine wpAnyH_ready (rs := [0]) (by kernel_rfl) (by simp) (AllReadyH.cons rfl (fun K hK => ?_) (AllReadyH.nil))
            go_simp
            have hSN := hHeld
            refine hK.out _ _ hSN (fun hHeld2 => ?_)
            try simp only [Act.put, List.setIfInBounds_toArray, List.set_cons_zero, List.set_cons_succ]
            clear hSN hK K hHeld
            have hHeld := hHeld2
            clear hHeld2
            clear q0 q1 q2 q3 q4 q5
            refine wpAnyH_ready (rs := [5]) (by kernel_rfl) (by simp) (AllReadyH.cons rfl (fun K hK => ?_) (AllReadyH.nil))
            go_simp
            go_wp2_with fail
            refine (HUND.out _).mono ?_
            rintro e4 w4 ⟨rfl, hb4⟩
            have hSN : Hid (w4.cell? ⟨b, off + j, none⟩ = some (.int .i64 x)) := Lib.hid (cell_chg (Chg.of_below (S := fun _ => False) hb4) hHeld.out (fun h => h))
            have HG5 := Lib.hid (block_later HGD.out hb4)
            have HC5 := Lib.hid (HCD.out.trans (Chg.of_below (S := fun k => k = G) hb4) (fun _ _ h => h))
            clear hb4 HGD HCD
            go_wp2_with fail
            refine hK.out _ _ hSN (fun hHeld2 => ?_)
            try simp only [Act.put, List.setIfInBounds_toArray, List.set_cons_zero, List.set_cons_succ]
            clear hSN hK K hHeld
            have hHeld := hHeld2
            clear hHeld2
            refine wpAnyH_take (i := 6) (oi := ⟨some 58, _, _, _, _, _⟩) (v := .tuple #[.agg #[.int .i64 y1, .int .i64 y2, .int .i64 y3, .int .i64 y4, .int .i64 y5, .int .i64 y6], .int .i64 0]) rfl (by kernel_rfl) (by kernel_rfl) (by kernel_rfl) (fun _ _ _ h => h) (Or.inl ⟨by rfl, fun w' hw' => ?_⟩) (by assumption) ?_
            · clear hHeld
              go_simp
            simp only [Act.put, List.setIfInBounds_toArray, List.set_cons_zero, List.set_cons_succ]
            refine wpAnyH_take (i := 7) (oi := ⟨some 65, _, _, _, _, _⟩) (v := .agg #[.int .i64 y1, .int .i64 y2, .int .i64 y3, .int .i64 y4, .int .i64 y5, .int .i64 y6]) rfl (by kernel_rfl) (by kernel_rfl) (by kernel_rfl) (fun _ _ _ h => h) (Or.inl ⟨by rfl, fun w' hw' => ?_⟩) (by assumption) ?_
            · clear hHeld
              go_simp
            simp only [Act.put, List.setIfInBounds_toArray, List.set_cons_zero, List.set_cons_succ]
            refine wpAnyH_take (i := 8) (oi := ⟨some 66, _, _, _, _, _⟩) (v := .int .i64 0) rfl (by kernel_rfl) (by kernel_rfl) (by kernel_rfl) (fun _ _ _ h => h) (Or.inl ⟨by rfl, fun w' hw' => ?_⟩) (by assumption) ?_
            · clear hHeld
              go_simp
            simp only [Act.put, List.setIfInBounds_toArray, List.set_cons_zero, List.set_cons_succ]
            refine wpAnyH_ready (rs := [9]) (by kernel_rfl) (by simp) (AllReadyH.cons rfl (fun K hK => ?_) (AllReadyH.nil))
            obtain ⟨r0, r1, r2, r3, r4, r5⟩ := fcells HG5.out
            obtain ⟨d0, d1, d2, d3, d4, d5⟩ := ffree HG5.out
            have HG6 := Lib.hid (fstored (a' := .int .i64 y1) (b' := .int .i64 y2) (c' := .int .i64 y3) (d' := .int .i64 y4) (e' := .int .i64 y5) (f' := .int .i64 y6) HG5.out)
            have hch := fput_chg w4 G (.int .i64 y1) (.int .i64 y2) (.int .i64 y3) (.int .i64 y4) (.int .i64 y5) (.int .i64 y6)
            have hSN : Hid (((((((w4.setCell ⟨G, 0, none⟩ (.int .i64 y1)).setCell ⟨G, 1, none⟩ (.int .i64 y2)).setCell ⟨G, 2, none⟩ (.int .i64 y3)).setCell ⟨G, 3, none⟩ (.int .i64 y4)).setCell ⟨G, 4, none⟩ (.int .i64 y5)).setCell ⟨G, 5, none⟩ (.int .i64 y6)).cell? ⟨b, off + j, none⟩ = some (.int .i64 x)) := Lib.hid (cell_chg hch hHeld.out HBG.out)
            have HC6 := Lib.hid (HC5.out.trans hch (fun _ _ h => h))
            clear hch HC5
            go_simp
            go_wp2_with fail
            refine hK.out _ _ hSN (fun hHeld2 => ?_)
            try simp only [Act.put, List.setIfInBounds_toArray, List.set_cons_zero, List.set_cons_succ]
            clear hSN hK K hHeld
            have hHeld := hHeld2
            clear hHeld2 r0 r1 r2 r3 r4 r5 d0 d1 d2 d3 d4 d5 HG5
            refine wpAnyH_take (i := 10) (oi := ⟨some 9, _, _, _, _, _⟩) (v := .int .i64 0) rfl (by kernel_rfl) (by kernel_rfl) (by kernel_rfl) (fun _ _ _ h => h) (Or.inl ⟨by rfl, fun w' hw' => ?_⟩) (by assumption) ?_
            · clear hHeld
              go_simp
            simp only [Act.put, List.setIfInBounds_toArray, List.set_cons_zero, List.set_cons_succ]
            refine wpAnyH_done (by kernel_rfl) ?_ _
            have hcx := hHeld.out
            clear hHeld
            generalize ((((((w4.setCell ⟨G, 0, none⟩ (.int .i64 y1)).setCell ⟨G, 1, none⟩ (.int .i64 y2)).setCell ⟨G, 2, none⟩ (.int .i64 y3)).setCell ⟨G, 3, none⟩ (.int .i64 y4)).setCell ⟨G, 4, none⟩ (.int .i64 y5)).setCell ⟨G, 5, none⟩ (.int .i64 y6)) = w5 at *
            go_wp2_with fail
            go_roundw
            case rel => exact ⟨j + 1, by omega, by go_num, wv, ⟨y1, y2, y3, y4, y5, y6⟩, rfl, Lib.hid ⟨HG6.out, HF.out.chg.trans HC6.out (fun _ _ h => h), HUN.out.1, HUN.out.2.1, HUN.out.2.2⟩⟩
            case measure =>
              simp [Go.RowKit.intOf]
              omega
        · have t2 : ¬ (j : Int) < n2 := by omega
          generalize moveF ⟨g1, g2, g3, g4, g5, g6⟩ x (-1) 0 0 (-1) = N at *
          obtain ⟨y1, y2, y3, y4, y5, y6⟩ := N
          go_wp2_with fail
          have HGD : Hid (wr.drew.heap[G]? = some (.cells #[.int .i64 g1, .int .i64 g2, .int .i64 g3, .int .i64 g4, .int .i64 g5, .int .i64 g6] 23 (0, 0))) := Lib.hid HF.out.y
          have HCD : Hid (Chg (fun k => k = G) wr wr.drew) := Lib.hid ((Chg.refl _ _).drewN 1)
          have hbd : wr.drew.cell? ⟨b, off + j, none⟩ = some (.int .i64 x) := hcx
          refine wp_region_held_drew (S := fun w' => Hid (w'.cell? ⟨b, off + j, none⟩ = some (.int .i64 x))) (by kernel_rfl) (Lib.hid hbd) (fun hHeld => ?_)
          clear hbd q0 q1 q2 q3 q4 q5 x0 x1 x2 x3 x4 x5 x6 x7 hcx
          generalize wr.drew = W5 at *
          refine wpAnyH_take (i := 1) (oi := ⟨some 60, _, _, _, _, _⟩) (v := .slice (some ⟨b, off, none⟩) nl c) rfl (by kernel_rfl) (by kernel_rfl) (by kernel_rfl) (fun _ _ _ h => h) (Or.inl ⟨by rfl, fun w' hw' => ?_⟩) (by assumption) ?_
          · clear hHeld
            go_simp
          simp only [Act.put, List.setIfInBounds_toArray, List.set_cons_zero, List.set_cons_succ]
          refine wpAnyH_take (i := 2) (oi := ⟨some 61, _, _, _, _, _⟩) (v := .int .i64 (j : Int)) rfl (by kernel_rfl) (by kernel_rfl) (by kernel_rfl) (fun _ _ _ h => h) (Or.inl ⟨by rfl, fun w' hw' => ?_⟩) (by assumption) ?_
          · clear hHeld
            go_simp
          simp only [Act.put, List.setIfInBounds_toArray, List.set_cons_zero, List.set_cons_succ]
          refine wpAnyH_take (i := 3) (oi := ⟨some 62, _, _, _, _, _⟩) (v := .pointer (some ⟨b, off + j, none⟩)) rfl (by kernel_rfl) (by kernel_rfl) (by kernel_rfl) (fun _ _ _ h => h) (Or.inl ⟨by rfl, fun w' hw' => ?_⟩) (by assumption) ?_
          · clear hHeld
            go_simp
          simp only [Act.put, List.setIfInBounds_toArray, List.set_cons_zero, List.set_cons_succ]
          refine wpAnyH_take (i := 4) (oi := ⟨some 63, _, _, _, _, _⟩) (v := .int .i64 x) rfl (by kernel_rfl) (by kernel_rfl) (by kernel_rfl) (fun _ _ _ h => h) (Or.inl ⟨by rfl, fun w' hw' => ?_⟩) (by assumption) ?_
          · have c0 := hw'.out
            clear hHeld
            go_simp
          simp only [Act.put, List.setIfInBounds_toArray, List.set_cons_zero, List.set_cons_succ]
          obtain ⟨q0, q1, q2, q3, q4, q5⟩ := fcells HGD.out
          refine wpAnyH_ready (rs := [0]) (by kernel_rfl) (by simp) (AllReadyH.cons rfl (fun K hK => ?_) (AllReadyH.nil))
          go_simp
          have hSN := hHeld
          refine hK.out _ _ hSN (fun hHeld2 => ?_)
          try simp only [Act.put, List.setIfInBounds_toArray, List.set_cons_zero, List.set_cons_succ]
          clear hSN hK K hHeld
          have hHeld := hHeld2
          clear hHeld2
          clear q0 q1 q2 q3 q4 q5
          refine wpAnyH_ready (rs := [5]) (by kernel_rfl) (by simp) (AllReadyH.cons rfl (fun K hK => ?_) (AllReadyH.nil))
          go_simp
          go_wp2_with fail
          refine (HUND.out _).mono ?_
          rintro e4 w4 ⟨rfl, hb4⟩
          have hSN : Hid (w4.cell? ⟨b, off + j, none⟩ = some (.int .i64 x)) := Lib.hid (cell_chg (Chg.of_below (S := fun _ => False) hb4) hHeld.out (fun h => h))
          have HG5 := Lib.hid (block_later HGD.out hb4)
          have HC5 := Lib.hid (HCD.out.trans (Chg.of_below (S := fun k => k = G) hb4) (fun _ _ h => h))
          clear hb4 HGD HCD
          go_wp2_with fail
          refine hK.out _ _ hSN (fun hHeld2 => ?_)
          try simp only [Act.put, List.setIfInBounds_toArray, List.set_cons_zero, List.set_cons_succ]
          clear hSN hK K hHeld
          have hHeld := hHeld2
          clear hHeld2
          refine wpAnyH_take (i := 6) (oi := ⟨some 58, _, _, _, _, _⟩) (v := .tuple #[.agg #[.int .i64 y1, .int .i64 y2, .int .i64 y3, .int .i64 y4, .int .i64 y5, .int .i64 y6], .int .i64 0]) rfl (by kernel_rfl) (by kernel_rfl) (by kernel_rfl) (fun _ _ _ h => h) (Or.inl ⟨by rfl, fun w' hw' => ?_⟩) (by assumption) ?_
          · clear hHeld
            go_simp
          simp only [Act.put, List.setIfInBounds_toArray, List.set_cons_zero, List.set_cons_succ]
          refine wpAnyH_take (i := 7) (oi := ⟨some 65, _, _, _, _, _⟩) (v := .agg #[.int .i64 y1, .int .i64 y2, .int .i64 y3, .int .i64 y4, .int .i64 y5, .int .i64 y6]) rfl (by kernel_rfl) (by kernel_rfl) (by kernel_rfl) (fun _ _ _ h => h) (Or.inl ⟨by rfl, fun w' hw' => ?_⟩) (by assumption) ?_
          · clear hHeld
            go_simp
          simp only [Act.put, List.setIfInBounds_toArray, List.set_cons_zero, List.set_cons_succ]
          refine wpAnyH_take (i := 8) (oi := ⟨some 66, _, _, _, _, _⟩) (v := .int .i64 0) rfl (by kernel_rfl) (by kernel_rfl) (by kernel_rfl) (fun _ _ _ h => h) (Or.inl ⟨by rfl, fun w' hw' => ?_⟩) (by assumption) ?_
          · clear hHeld
            go_simp
          simp only [Act.put, List.setIfInBounds_toArray, List.set_cons_zero, List.set_cons_succ]
          refine wpAnyH_ready (rs := [9]) (by kernel_rfl) (by simp) (AllReadyH.cons rfl (fun K hK => ?_) (AllReadyH.nil))
          obtain ⟨r0, r1, r2, r3, r4, r5⟩ := fcells HG5.out
          obtain ⟨d0, d1, d2, d3, d4, d5⟩ := ffree HG5.out
          have HG6 := Lib.hid (fstored (a' := .int .i64 y1) (b' := .int .i64 y2) (c' := .int .i64 y3) (d' := .int .i64 y4) (e' := .int .i64 y5) (f' := .int .i64 y6) HG5.out)
          have hch := fput_chg w4 G (.int .i64 y1) (.int .i64 y2) (.int .i64 y3) (.int .i64 y4) (.int .i64 y5) (.int .i64 y6)
          have hSN : Hid (((((((w4.setCell ⟨G, 0, none⟩ (.int .i64 y1)).setCell ⟨G, 1, none⟩ (.int .i64 y2)).setCell ⟨G, 2, none⟩ (.int .i64 y3)).setCell ⟨G, 3, none⟩ (.int .i64 y4)).setCell ⟨G, 4, none⟩ (.int .i64 y5)).setCell ⟨G, 5, none⟩ (.int .i64 y6)).cell? ⟨b, off + j, none⟩ = some (.int .i64 x)) := Lib.hid (cell_chg hch hHeld.out HBG.out)
          have HC6 := Lib.hid (HC5.out.trans hch (fun _ _ h => h))
          clear hch HC5
          go_simp
          go_wp2_with fail
          refine hK.out _ _ hSN (fun hHeld2 => ?_)
          try simp only [Act.put, List.setIfInBounds_toArray, List.set_cons_zero, List.set_cons_succ]
          clear hSN hK K hHeld
          have hHeld := hHeld2
          clear hHeld2 r0 r1 r2 r3 r4 r5 d0 d1 d2 d3 d4 d5 HG5
          refine wpAnyH_take (i := 10) (oi := ⟨some 9, _, _, _, _, _⟩) (v := .int .i64 0) rfl (by kernel_rfl) (by kernel_rfl) (by kernel_rfl) (fun _ _ _ h => h) (Or.inl ⟨by rfl, fun w' hw' => ?_⟩) (by assumption) ?_
          · clear hHeld
            go_simp
          simp only [Act.put, List.setIfInBounds_toArray, List.set_cons_zero, List.set_cons_succ]
          refine wpAnyH_done (by kernel_rfl) ?_ _
          have hcx := hHeld.out
          clear hHeld
          generalize ((((((w4.setCell ⟨G, 0, none⟩ (.int .i64 y1)).setCell ⟨G, 1, none⟩ (.int .i64 y2)).setCell ⟨G, 2, none⟩ (.int .i64 y3)).setCell ⟨G, 3, none⟩ (.int .i64 y4)).setCell ⟨G, 4, none⟩ (.int .i64 y5)).setCell ⟨G, 5, none⟩ (.int .i64 y6)) = w5 at *
          go_wp2_with fail
          go_roundw
          case rel => exact ⟨j + 1, by omega, by go_num, wv, ⟨y1, y2, y3, y4, y5, y6⟩, rfl, Lib.hid ⟨HG6.out, HF.out.chg.trans HC6.out (fun _ _ h => h), HUN.out.1, HUN.out.2.1, HUN.out.2.2⟩⟩
          case measure =>
            simp [Go.RowKit.intOf]
            omega
      · have hj : j = nl := by omega
        have t1 : ¬ (j : Int) < nl := by omega
        have ho := HF.out.opn
        rw [hj, HDE.out] at ho
        obtain rfl := ho.over
        have u1 : f4 ≤ wv := HF.out.a
        have u2 : wv ≤ f5 := HF.out.b
        have u3 : f1 ≤ f4 := HGF.out.1
        have u4 : f5 ≤ f2 := HGF.out.2.2.2.2.2
        obtain ⟨q0, q1, q2, q3, q4, q5⟩ := fcells HF.out.y
        obtain ⟨x0, x1, x2, x3, x4, x5⟩ := fcells HS5.out.g
        have HBZ := Lib.hid (Chg.below (Chg.below HBE2.out HBE2.out.size HC24.out (fun k hk => by have := HGG.out; have := HXD.out.2.2; omega)) (Nat.le_trans HBE2.out.size HC24.out.size) HF.out.chg (fun k hk => by have := HGG.out; have := HXD.out.2.2; omega))
        clear ho hj
        go_wp2_with fail
        refine (field_works _).mono ?_
        rintro e9 w9 ⟨rfl, hb9⟩
        have HZ := Lib.hid (HBZ.out.trans (hb9.mono HBZ.out.size))
        clear hb9 q0 q1 q2 q3 q4 q5 x0 x1 x2 x3 x4 x5
        go_wp2_with fail
        go_ret
        exact ⟨rfl, HZ.out⟩
  · rw [show newF lo init hi = (⟨0, 0, 0, 0, 0, 0⟩, 3) from if_neg hok] at HPL
    dsimp only at HPL
    generalize playS ⟨0, 0, 0, 0, 0, 0⟩ (A.take 40) = s at *
    obtain ⟨f, L⟩ := s
    obtain ⟨f1, f2, f3, f4, f5, f6⟩ := f
    replace HPL : Hid (∀ w', Below w.heap.size w w' → Calls Try.prog 23 #[.agg #[.int .u8 k0, .int .u8 k1, .int .u8 k2, .int .i64 lo, .int .i64 init, .int .i64 hi, .slice p n m, .slice q n2 m2]] w' fun e w'' => ∃ r c, e = .returned (.tuple #[.agg #[.int .i64 f1, .int .i64 f2, .int .i64 f3, .int .i64 f4, .int .i64 f5, .int .i64 f6], .slice r L.length c, .bool false]) ∧ NL .i64 w'' r L.length c L ∧ Below w'.heap.size w' w'') := HPL
    have HOK := Lib.hid hok
    clear hlo hin hhi hI hok
    go_enter Try.func7, Try.ntmps7
    go_upto_region 1 with (fail)
    clear hX
    generalize w.alloc (.cells #[.int .u8 k0, .int .u8 k1, .int .u8 k2, .int .i64 lo, .int .i64 init, .int .i64 hi, .slice p n m, .slice q n2 m2] 49) = V0 at *
    obtain ⟨x0, x1, x2, x3, x4, x5, x6, x7⟩ := rcells HX0.out
    go_wp2_with fail
    clear x0 x1 x2 x3 x4 x5 x6 x7
    refine (HPL.out _ HB0.out).mono ?_
    rintro e1 w1 ⟨r, c, rfl, hs1, hb1⟩
    have hbn : Below w1.heap.size w1 (w1.alloc (.cells #[.int .i64 f1, .int .i64 f2, .int .i64 f3, .int .i64 f4, .int .i64 f5, .int .i64 f6] 23)) := (Below.refl _ _).alloc (Nat.le_refl _) _
    have HB1 := Lib.hid (HB0.out.trans ((hb1.trans (hbn.mono hb1.size)).mono HB0.out.size))
    clear hbn hb1 hs1 HB0 HX0 HPL HM
    go_wp2_with fail
    refine (field_works _).mono ?_
    rintro e9 w9 ⟨rfl, hb9⟩
    have HZ := Lib.hid (HB1.out.trans (hb9.mono HB1.out.size))
    clear hb9
    go_wp2_with fail
    go_ret
    exact ⟨rfl, HZ.out⟩
end Go.Proofs.Ytgjfgabagfhnoaa
