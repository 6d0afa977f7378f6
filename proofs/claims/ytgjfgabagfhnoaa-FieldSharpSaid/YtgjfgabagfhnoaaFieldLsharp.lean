/- FieldSharp. (Written by tools/src/mkfieldsharp.py.) -/
import Derived.Test.YtgjfgabagfhnoaaFieldLholds
namespace Go.Proofs.Ytgjfgabagfhnoaa
open Go.RowKit Go.ChangeShapes Go.WideShapes
set_option linter.unusedVariables false
set_option linter.unusedSimpArgs false
set_option maxRecDepth 10000

/-- What ends, where just those below 0 (s = 0), or just those above 0 (s = 1), are settled: the one end stays. -/
def EndIs (s : Nat) (f g : Fv) : Prop := if s = 0 then g.inf = f.inf else g.sup = f.sup
theorem sharp_settle {lo hi w d : Int} {R : List Int} {f g : Fv} {s : Nat} (h : Opn lo hi w (d :: R) g) (he : EndIs s f g) (hs : if s = 0 then d < 0 else ¬ d < 0) (hl : I64 lo) (hh : I64 hi) : Opn lo hi (w + d) R (moveF g d 0 1 1 0) ∧ EndIs s f (moveF g d 0 1 1 0) := by
  obtain ⟨_, b⟩ := h.settle hl hh
  have e1 := h.einf
  have e2 := h.esup
  have e3 : (moveF g d 0 1 1 0).inf = w + d + negs R := b.einf
  have e4 : (moveF g d 0 1 1 0).sup = w + d + poss R := b.esup
  unfold negs at e1
  unfold poss at e2
  refine ⟨b, ?_⟩
  unfold EndIs at *
  by_cases h0 : s = 0
  · rw [if_pos h0] at *
    rw [if_pos hs] at e1
    omega
  · rw [if_neg h0] at *
    have hd := (h.el d (List.mem_cons_self ..)).1
    rw [if_pos (by omega)] at e2
    omega
theorem sharp_undo {lo hi w d : Int} {R : List Int} {f g : Fv} {s : Nat} (h : Opn lo hi w (d :: R) g) (he : EndIs s f g) (hs : if s = 0 then ¬ d < 0 else d < 0) (hl : I64 lo) (hh : I64 hi) : Opn lo hi w R (moveF g d (-1) 0 0 (-1)) ∧ EndIs s f (moveF g d (-1) 0 0 (-1)) := by
  obtain ⟨_, b⟩ := h.undo hl hh
  have e1 := h.einf
  have e2 := h.esup
  have e3 : (moveF g d (-1) 0 0 (-1)).inf = w + negs R := b.einf
  have e4 : (moveF g d (-1) 0 0 (-1)).sup = w + poss R := b.esup
  unfold negs at e1
  unfold poss at e2
  refine ⟨b, ?_⟩
  unfold EndIs at *
  by_cases h0 : s = 0
  · rw [if_pos h0] at *
    rw [if_neg hs] at e1
    omega
  · rw [if_neg h0] at *
    rw [if_neg (by omega)] at e2
    omega
/-- What ends: since world W only block G may have changed: it holds the field g. -/
structure Hs (W w : World) (G : Nat) (lo hi : Int) (R : List Int) (f g : Fv) (s : Nat) : Prop where
  y : w.heap[G]? = some (.cells (fcs g) 23 (0, 0))
  chg : Chg (fun k => k = G) W w
  opn : ∃ wv, Opn lo hi wv R g
  e : EndIs s f g
set_option maxHeartbeats 8000000 in
theorem law_fsharp (k0 k1 k2 lo init hi : Int) (p : Option Addr) (n m : Nat) (A : List Int) (q : Option Addr) (n2 m2 : Nat) (M : List Int) (d : Int) (w : World) (hlo : I64 lo) (hin : I64 init) (hhi : I64 hi) (hA : NL .i64 w p n m A) (hI : ∀ x ∈ A, I64 x) (hd : I64 d) :
    Calls Try.prog 8 #[.agg #[.int .u8 k0, .int .u8 k1, .int .u8 k2, .int .i64 lo, .int .i64 init, .int .i64 hi, .slice p n m, .slice q n2 m2], .int .i64 d] w fun e w' => e = .returned (.bool true) ∧ Below w.heap.size w w' := by
  have HPL := Lib.hid fun w' (hb : Below w.heap.size w w') => played_gives k0 k1 k2 lo init hi p n m A q n2 m2 w' hlo hin hhi (hA.later hb) hI
  obtain ⟨X, hX⟩ : ∃ X, w.heap.size = X := ⟨_, rfl⟩
  have HX0 := Lib.hid (alloc_block w (.cells #[.int .u8 k0, .int .u8 k1, .int .u8 k2, .int .i64 lo, .int .i64 init, .int .i64 hi, .slice p n m, .slice q n2 m2] 49))
  have HB0 : Hid (Below w.heap.size w (w.alloc (.cells #[.int .u8 k0, .int .u8 k1, .int .u8 k2, .int .i64 lo, .int .i64 init, .int .i64 hi, .slice p n m, .slice q n2 m2] 49))) := Lib.hid ((Below.refl _ _).alloc (Nat.le_refl _) _)
  have HHX := Lib.hid hX
  rw [hX] at HX0
  clear hA
  by_cases hok : lo ≤ init ∧ init ≤ hi
  · have hO := playS_opn hok.1 hok.2 (A.take 40)
    rw [show newF lo init hi = (⟨lo, hi, init, init, init, init⟩, 0) from if_pos hok] at HPL
    have hL := playS_i64 (A.take 40) (⟨lo, hi, init, init, init, init⟩, []) (fun x hx => hI x (List.mem_of_mem_take hx)) (fun x hx => by cases hx)
    have hLn := playS_len (A.take 40) (⟨lo, hi, init, init, init, init⟩, [])
    replace hL : ∀ x ∈ (playS ⟨lo, hi, init, init, init, init⟩ (A.take 40)).2, I64 x := hL
    replace hLn : (playS ⟨lo, hi, init, init, init, init⟩ (A.take 40)).2.length ≤ 40 := by
      have h2 : (A.take 40).length ≤ 40 := by rw [List.length_take]; omega
      simp only [List.length_nil, Nat.zero_add] at hLn
      exact Nat.le_trans hLn h2
    dsimp only at HPL
    generalize playS ⟨lo, hi, init, init, init, init⟩ (A.take 40) = s at *
    obtain ⟨f, L⟩ := s
    replace hO : Opn lo hi init L f := hO
    have hgf := (goodF_iff f).1 hO.good
    have hfk := hO.ok hlo hhi
    have hsh := sharp hfk hO.good hd
    have HGR := Lib.hid fun w => grant_any f d w hfk hd
    have HE0 : Hid (EndIs 0 f f ∧ EndIs 1 f f) := Lib.hid ⟨by unfold EndIs; rw [if_pos rfl], by unfold EndIs; rw [if_neg (by decide)]⟩
    generalize grantF f d = gf at *
    generalize grantE f d = z at *
    obtain ⟨f1, f2, f3, f4, f5, f6⟩ := f
    obtain ⟨g1, g2, g3, g4, g5, g6⟩ := gf
    have HOP := Lib.hid hO
    have HLI := Lib.hid fun j (hj : j < L.length) => hL (L.getD j 0) (by rw [List.getD, List.getElem?_eq_getElem hj]; exact List.getElem_mem _)
    have HDR := Lib.hid fun j (hj : j < L.length) => drop_at hj
    have HGF := Lib.hid hgf
    have HSH := Lib.hid hsh
    have HFK := Lib.hid hfk
    have HKL := Lib.hid (And.intro hlo (And.intro hin hhi))
    replace HPL : Hid (∀ w', Below w.heap.size w w' → Calls Try.prog 23 #[.agg #[.int .u8 k0, .int .u8 k1, .int .u8 k2, .int .i64 lo, .int .i64 init, .int .i64 hi, .slice p n m, .slice q n2 m2]] w' fun e w'' => ∃ r c, e = .returned (.tuple #[.agg #[.int .i64 f1, .int .i64 f2, .int .i64 f3, .int .i64 f4, .int .i64 f5, .int .i64 f6], .slice r L.length c, .bool true]) ∧ NL .i64 w'' r L.length c L ∧ Below w'.heap.size w' w'') := HPL
    have HD0 : Hid (L.drop 0 = L) := Lib.hid rfl
    have HDE : Hid (L.drop L.length = []) := Lib.hid (List.drop_length)
    have hLn' := hLn
    generalize hNL : L.length = nl at *
    have HNL := Lib.hid hNL
    have HOK := Lib.hid hok
    have HHD := Lib.hid hd
    clear hO hL hLn hgf hfk hsh hlo hin hhi hNL hI hok hd
    go_enter Try.func8, Try.ntmps8
    go_upto_region 1 with (fail)
    clear hX
    generalize w.alloc (.cells #[.int .u8 k0, .int .u8 k1, .int .u8 k2, .int .i64 lo, .int .i64 init, .int .i64 hi, .slice p n m, .slice q n2 m2] 49) = V0 at *
    obtain ⟨x0, x1, x2, x3, x4, x5, x6, x7⟩ := rcells HX0.out
    go_wp2_with fail
    clear x0 x1 x2 x3 x4 x5 x6 x7
    refine (HPL.out _ HB0.out).mono ?_
    rintro e1 w1 ⟨r, c, rfl, hs1, hb1⟩
    have hbn : Below w1.heap.size w1 (w1.alloc (.cells #[.int .i64 f1, .int .i64 f2, .int .i64 f3, .int .i64 f4, .int .i64 f5, .int .i64 f6] 23)) := (Below.refl _ _).alloc (Nat.le_refl _) _
    have HF1 := Lib.hid (alloc_block w1 (.cells #[.int .i64 f1, .int .i64 f2, .int .i64 f3, .int .i64 f4, .int .i64 f5, .int .i64 f6] 23))
    have HS1 := Lib.hid (hs1.later hbn)
    have HB1 := Lib.hid (HB0.out.trans ((hb1.trans (hbn.mono hb1.size)).mono HB0.out.size))
    have hc1 := hs1.cap
    have hmx := hs1.max
    unfold maxLen at hmx
    clear hbn hb1 hs1 HB0 HX0 HPL
    go_upto_region 4 with (fail)
    generalize w1.alloc (.cells #[.int .i64 f1, .int .i64 f2, .int .i64 f3, .int .i64 f4, .int .i64 f5, .int .i64 f6] 23) = W1 at *
    generalize w1.heap.size = Y at *
    go_wp2_with fail
    go_loopw [8] (fun i wr => ∃ s : Int, 0 ≤ s ∧ s ≤ 2 ∧ i = .int .i64 s ∧ Hid (Below W1.heap.size W1 wr)) (fun i _ => 2 - (Go.RowKit.intOf i).toNat)
    case atStart => exact ⟨0, by omega, by omega, rfl, Lib.hid (Below.refl _ _)⟩
    case round =>
      obtain ⟨s, hs00, hs2, rfl, HW⟩ := hrel
      have HFw := Lib.hid (block_later HF1.out HW.out)
      have HSw := Lib.hid (HS1.out.later HW.out)
      have HC0 := HE0
      by_cases hs0 : s = 0
      · subst hs0
        obtain ⟨q0, q1, q2, q3, q4, q5⟩ := fcells HFw.out
        have hba : Below wr.heap.size wr (wr.alloc (.cells #[.int .i64 f1, .int .i64 f2, .int .i64 f3, .int .i64 f4, .int .i64 f5, .int .i64 f6] 23)) := (Below.refl _ _).alloc (Nat.le_refl _) _
        have HG4 := Lib.hid (alloc_block wr (.cells #[.int .i64 f1, .int .i64 f2, .int .i64 f3, .int .i64 f4, .int .i64 f5, .int .i64 f6] 23))
        have HFz := Lib.hid (block_later HFw.out hba)
        have HBW := Lib.hid (HW.out.trans (hba.mono HW.out.size))
        have HCA := Lib.hid (Chg.of_below (S := fun k => k = wr.heap.size) hba)
        have HYG : Hid (¬ Y = wr.heap.size) := Lib.hid (Nat.ne_of_lt (block_lt HFw.out))
        have HSZ := Lib.hid (And.intro HW.out.size HB1.out.size)
        clear hba HC0
        go_upto_region 8 with (fail)
        clear q0 q1 q2 q3 q4 q5
        generalize wr.alloc (.cells #[.int .i64 f1, .int .i64 f2, .int .i64 f3, .int .i64 f4, .int .i64 f5, .int .i64 f6] 23) = W4 at *
        generalize hGG : wr.heap.size = G at *
        have HGG := Lib.hid hGG
        have HWR := Lib.hid (And.intro HSw.out HW.out)
        clear hGG HW HFw
        obtain ⟨W2, hW2⟩ : ∃ W2, W2 = wr := ⟨_, rfl⟩
        rw [← hW2] at HSw HGG HCA HWR
        clear hW2
        go_wp2_with fail
        go_loopw [10] (fun i wr => ∃ j : Nat, j ≤ nl ∧ i = .int .i64 (j : Int) ∧ ∃ g : Fv, Hid (Hs W4 wr G lo hi (L.drop j) ⟨f1, f2, f3, f4, f5, f6⟩ g 0)) (fun i _ => nl - (Go.RowKit.intOf i).toNat)
        case atStart => exact ⟨0, Nat.zero_le _, rfl, ⟨f1, f2, f3, f4, f5, f6⟩, Lib.hid ⟨HG4.out, Chg.refl _ _, ⟨init, by rw [HD0.out]; exact HOP.out⟩, HE0.out.1⟩⟩
        case round =>
          obtain ⟨j, hjn, rfl, g, HF⟩ := hrel
          by_cases h1 : j < nl
          · have t1 : (j : Int) < nl := by omega
            obtain ⟨b, off, rfl, hblt, hcx⟩ := nl_cell HSw.out (HCA.out.trans HF.out.chg (fun _ _ h => h)) (fun b hb e => by have := HGG.out; omega) h1
            have HBG : Hid (¬ b = G) := Lib.hid (by have := HGG.out; omega)
            have hxi := HLI.out j h1
            obtain ⟨wv, ho⟩ := HF.out.opn
            rw [HDR.out j h1] at ho
            have hgk := ho.ok HKL.out.1 HKL.out.2.2
            generalize L.getD j 0 = x at *
            obtain ⟨a1, a2, a3, a4, a5, a6⟩ := g
            have HSET := Lib.hid fun w => settle_any ⟨a1, a2, a3, a4, a5, a6⟩ x w hgk hxi
            have HUND := Lib.hid fun w => undo_any ⟨a1, a2, a3, a4, a5, a6⟩ x w hgk hxi
            have HO := Lib.hid ho
            have HH := Lib.hid (And.intro hgk hxi)
            clear hgk ho hxi
            by_cases hx0 : x < 0
            · have hm := sharp_settle (f := ⟨f1, f2, f3, f4, f5, f6⟩) (s := 0) HO.out HF.out.e (by rw [if_pos rfl]; exact hx0) HKL.out.1 HKL.out.2.2
              have HM := Lib.hid hm
              clear hm
              generalize moveF ⟨a1, a2, a3, a4, a5, a6⟩ x 0 1 1 0 = N at *
              generalize moveE ⟨a1, a2, a3, a4, a5, a6⟩ x 0 1 1 0 = ze at *
              obtain ⟨y1, y2, y3, y4, y5, y6⟩ := N
              go_wp2_with fail
              have HGD : Hid (wr.drew.heap[G]? = some (.cells #[.int .i64 a1, .int .i64 a2, .int .i64 a3, .int .i64 a4, .int .i64 a5, .int .i64 a6] 23 (0, 0))) := Lib.hid HF.out.y
              have HCD : Hid (Chg (fun k => k = G) wr wr.drew) := Lib.hid ((Chg.refl _ _).drewN 1)
              have hbd : wr.drew.cell? ⟨b, off + j, none⟩ = some (.int .i64 x) := hcx
              refine wp_region_held_drew (S := fun w' => Hid (w'.cell? ⟨b, off + j, none⟩ = some (.int .i64 x))) (by kernel_rfl) (Lib.hid hbd) (fun hHeld => ?_)
              have HX0 := Lib.hid hx0
              clear hbd hcx hx0
              generalize wr.drew = W5 at *
              refine wpAnyH_take (i := 1) (oi := ⟨some 44, _, _, _, _, _⟩) (v := .slice (some ⟨b, off, none⟩) nl c) rfl (by kernel_rfl) (by kernel_rfl) (by kernel_rfl) (fun _ _ _ h => h) (Or.inl ⟨by rfl, fun w' hw' => ?_⟩) (by assumption) ?_
              · clear hHeld
                go_simp
              simp only [Act.put, List.setIfInBounds_toArray, List.set_cons_zero, List.set_cons_succ]
              refine wpAnyH_take (i := 2) (oi := ⟨some 45, _, _, _, _, _⟩) (v := .int .i64 (j : Int)) rfl (by kernel_rfl) (by kernel_rfl) (by kernel_rfl) (fun _ _ _ h => h) (Or.inl ⟨by rfl, fun w' hw' => ?_⟩) (by assumption) ?_
              · clear hHeld
                go_simp
              simp only [Act.put, List.setIfInBounds_toArray, List.set_cons_zero, List.set_cons_succ]
              refine wpAnyH_take (i := 3) (oi := ⟨some 46, _, _, _, _, _⟩) (v := .pointer (some ⟨b, off + j, none⟩)) rfl (by kernel_rfl) (by kernel_rfl) (by kernel_rfl) (fun _ _ _ h => h) (Or.inl ⟨by rfl, fun w' hw' => ?_⟩) (by assumption) ?_
              · clear hHeld
                go_simp
              simp only [Act.put, List.setIfInBounds_toArray, List.set_cons_zero, List.set_cons_succ]
              refine wpAnyH_take (i := 4) (oi := ⟨some 47, _, _, _, _, _⟩) (v := .int .i64 x) rfl (by kernel_rfl) (by kernel_rfl) (by kernel_rfl) (fun _ _ _ h => h) (Or.inl ⟨by rfl, fun w' hw' => ?_⟩) (by assumption) ?_
              · have c0 := hw'.out
                clear hHeld
                go_simp
              simp only [Act.put, List.setIfInBounds_toArray, List.set_cons_zero, List.set_cons_succ]
              obtain ⟨q0, q1, q2, q3, q4, q5⟩ := fcells HGD.out
              refine wpAnyH_ready (rs := [0]) (by kernel_rfl) (by simp) (AllReadyH.cons rfl (fun K hK => ?_) (AllReadyH.nil))
              go_simp
              have hSN := hHeld
              refine hK.out _ _ hSN (fun hHeld2 => ?_)
              try simp only [Act.put, List.setIfInBounds_toArray, List.set_cons_zero, List.set_cons_succ]
              clear hSN hK K hHeld
              have hHeld := hHeld2
              clear hHeld2
              clear q0 q1 q2 q3 q4 q5
              refine wpAnyH_ready (rs := [5]) (by kernel_rfl) (by simp) (AllReadyH.cons rfl (fun K hK => ?_) (AllReadyH.nil))
              go_simp
              go_wp2_with fail
              refine (HSET.out _).mono ?_
              rintro e4 w4 ⟨rfl, hb4⟩
              have hSN : Hid (w4.cell? ⟨b, off + j, none⟩ = some (.int .i64 x)) := Lib.hid (cell_chg (Chg.of_below (S := fun _ => False) hb4) hHeld.out (fun h => h))
              have HG5 := Lib.hid (block_later HGD.out hb4)
              have HC5 := Lib.hid (HCD.out.trans (Chg.of_below (S := fun k => k = G) hb4) (fun _ _ h => h))
              clear hb4 HGD HCD
              go_wp2_with fail
              refine hK.out _ _ hSN (fun hHeld2 => ?_)
              try simp only [Act.put, List.setIfInBounds_toArray, List.set_cons_zero, List.set_cons_succ]
              clear hSN hK K hHeld
              have hHeld := hHeld2
              clear hHeld2
              refine wpAnyH_take (i := 6) (oi := ⟨some 42, _, _, _, _, _⟩) (v := .tuple #[.agg #[.int .i64 y1, .int .i64 y2, .int .i64 y3, .int .i64 y4, .int .i64 y5, .int .i64 y6], .int .i64 ze]) rfl (by kernel_rfl) (by kernel_rfl) (by kernel_rfl) (fun _ _ _ h => h) (Or.inl ⟨by rfl, fun w' hw' => ?_⟩) (by assumption) ?_
              · clear hHeld
                go_simp
              simp only [Act.put, List.setIfInBounds_toArray, List.set_cons_zero, List.set_cons_succ]
              refine wpAnyH_take (i := 7) (oi := ⟨some 49, _, _, _, _, _⟩) (v := .agg #[.int .i64 y1, .int .i64 y2, .int .i64 y3, .int .i64 y4, .int .i64 y5, .int .i64 y6]) rfl (by kernel_rfl) (by kernel_rfl) (by kernel_rfl) (fun _ _ _ h => h) (Or.inl ⟨by rfl, fun w' hw' => ?_⟩) (by assumption) ?_
              · clear hHeld
                go_simp
              simp only [Act.put, List.setIfInBounds_toArray, List.set_cons_zero, List.set_cons_succ]
              refine wpAnyH_take (i := 8) (oi := ⟨some 50, _, _, _, _, _⟩) (v := .int .i64 ze) rfl (by kernel_rfl) (by kernel_rfl) (by kernel_rfl) (fun _ _ _ h => h) (Or.inl ⟨by rfl, fun w' hw' => ?_⟩) (by assumption) ?_
              · clear hHeld
                go_simp
              simp only [Act.put, List.setIfInBounds_toArray, List.set_cons_zero, List.set_cons_succ]
              refine wpAnyH_ready (rs := [9]) (by kernel_rfl) (by simp) (AllReadyH.cons rfl (fun K hK => ?_) (AllReadyH.nil))
              obtain ⟨r0, r1, r2, r3, r4, r5⟩ := fcells HG5.out
              obtain ⟨d0, d1, d2, d3, d4, d5⟩ := ffree HG5.out
              have HG6 := Lib.hid (fstored (a' := .int .i64 y1) (b' := .int .i64 y2) (c' := .int .i64 y3) (d' := .int .i64 y4) (e' := .int .i64 y5) (f' := .int .i64 y6) HG5.out)
              have hch := fput_chg w4 G (.int .i64 y1) (.int .i64 y2) (.int .i64 y3) (.int .i64 y4) (.int .i64 y5) (.int .i64 y6)
              have hSN : Hid (((((((w4.setCell ⟨G, 0, none⟩ (.int .i64 y1)).setCell ⟨G, 1, none⟩ (.int .i64 y2)).setCell ⟨G, 2, none⟩ (.int .i64 y3)).setCell ⟨G, 3, none⟩ (.int .i64 y4)).setCell ⟨G, 4, none⟩ (.int .i64 y5)).setCell ⟨G, 5, none⟩ (.int .i64 y6)).cell? ⟨b, off + j, none⟩ = some (.int .i64 x)) := Lib.hid (cell_chg hch hHeld.out HBG.out)
              have HC6 := Lib.hid (HC5.out.trans hch (fun _ _ h => h))
              clear hch HC5
              go_simp
              go_wp2_with fail
              refine hK.out _ _ hSN (fun hHeld2 => ?_)
              try simp only [Act.put, List.setIfInBounds_toArray, List.set_cons_zero, List.set_cons_succ]
              clear hSN hK K hHeld hHeld2 r0 r1 r2 r3 r4 r5 d0 d1 d2 d3 d4 d5 HG5
              refine wpAnyH_done (by kernel_rfl) ?_ _
              generalize ((((((w4.setCell ⟨G, 0, none⟩ (.int .i64 y1)).setCell ⟨G, 1, none⟩ (.int .i64 y2)).setCell ⟨G, 2, none⟩ (.int .i64 y3)).setCell ⟨G, 3, none⟩ (.int .i64 y4)).setCell ⟨G, 4, none⟩ (.int .i64 y5)).setCell ⟨G, 5, none⟩ (.int .i64 y6)) = w5 at *
              go_wp2_with fail
              go_roundw
              case rel => exact ⟨j + 1, by omega, by go_num, ⟨y1, y2, y3, y4, y5, y6⟩, Lib.hid ⟨HG6.out, HF.out.chg.trans HC6.out (fun _ _ h => h), ⟨_, HM.out.1⟩, HM.out.2⟩⟩
              case measure =>
                simp [Go.RowKit.intOf]
                omega
            · have hm := sharp_undo (f := ⟨f1, f2, f3, f4, f5, f6⟩) (s := 0) HO.out HF.out.e (by rw [if_pos rfl]; exact hx0) HKL.out.1 HKL.out.2.2
              have HM := Lib.hid hm
              clear hm
              generalize moveF ⟨a1, a2, a3, a4, a5, a6⟩ x (-1) 0 0 (-1) = N at *
              generalize moveE ⟨a1, a2, a3, a4, a5, a6⟩ x (-1) 0 0 (-1) = ze at *
              obtain ⟨y1, y2, y3, y4, y5, y6⟩ := N
              go_wp2_with fail
              have HGD : Hid (wr.drew.heap[G]? = some (.cells #[.int .i64 a1, .int .i64 a2, .int .i64 a3, .int .i64 a4, .int .i64 a5, .int .i64 a6] 23 (0, 0))) := Lib.hid HF.out.y
              have HCD : Hid (Chg (fun k => k = G) wr wr.drew) := Lib.hid ((Chg.refl _ _).drewN 1)
              have hbd : wr.drew.cell? ⟨b, off + j, none⟩ = some (.int .i64 x) := hcx
              refine wp_region_held_drew (S := fun w' => Hid (w'.cell? ⟨b, off + j, none⟩ = some (.int .i64 x))) (by kernel_rfl) (Lib.hid hbd) (fun hHeld => ?_)
              have HX0 := Lib.hid hx0
              clear hbd hcx hx0
              generalize wr.drew = W5 at *
              refine wpAnyH_take (i := 1) (oi := ⟨some 53, _, _, _, _, _⟩) (v := .slice (some ⟨b, off, none⟩) nl c) rfl (by kernel_rfl) (by kernel_rfl) (by kernel_rfl) (fun _ _ _ h => h) (Or.inl ⟨by rfl, fun w' hw' => ?_⟩) (by assumption) ?_
              · clear hHeld
                go_simp
              simp only [Act.put, List.setIfInBounds_toArray, List.set_cons_zero, List.set_cons_succ]
              refine wpAnyH_take (i := 2) (oi := ⟨some 54, _, _, _, _, _⟩) (v := .int .i64 (j : Int)) rfl (by kernel_rfl) (by kernel_rfl) (by kernel_rfl) (fun _ _ _ h => h) (Or.inl ⟨by rfl, fun w' hw' => ?_⟩) (by assumption) ?_
              · clear hHeld
                go_simp
              simp only [Act.put, List.setIfInBounds_toArray, List.set_cons_zero, List.set_cons_succ]
              refine wpAnyH_take (i := 3) (oi := ⟨some 55, _, _, _, _, _⟩) (v := .pointer (some ⟨b, off + j, none⟩)) rfl (by kernel_rfl) (by kernel_rfl) (by kernel_rfl) (fun _ _ _ h => h) (Or.inl ⟨by rfl, fun w' hw' => ?_⟩) (by assumption) ?_
              · clear hHeld
                go_simp
              simp only [Act.put, List.setIfInBounds_toArray, List.set_cons_zero, List.set_cons_succ]
              refine wpAnyH_take (i := 4) (oi := ⟨some 56, _, _, _, _, _⟩) (v := .int .i64 x) rfl (by kernel_rfl) (by kernel_rfl) (by kernel_rfl) (fun _ _ _ h => h) (Or.inl ⟨by rfl, fun w' hw' => ?_⟩) (by assumption) ?_
              · have c0 := hw'.out
                clear hHeld
                go_simp
              simp only [Act.put, List.setIfInBounds_toArray, List.set_cons_zero, List.set_cons_succ]
              obtain ⟨q0, q1, q2, q3, q4, q5⟩ := fcells HGD.out
              refine wpAnyH_ready (rs := [0]) (by kernel_rfl) (by simp) (AllReadyH.cons rfl (fun K hK => ?_) (AllReadyH.nil))
              go_simp
              have hSN := hHeld
              refine hK.out _ _ hSN (fun hHeld2 => ?_)
              try simp only [Act.put, List.setIfInBounds_toArray, List.set_cons_zero, List.set_cons_succ]
              clear hSN hK K hHeld
              have hHeld := hHeld2
              clear hHeld2
              clear q0 q1 q2 q3 q4 q5
              refine wpAnyH_ready (rs := [5]) (by kernel_rfl) (by simp) (AllReadyH.cons rfl (fun K hK => ?_) (AllReadyH.nil))
              go_simp
              go_wp2_with fail
              refine (HUND.out _).mono ?_
              rintro e4 w4 ⟨rfl, hb4⟩
              have hSN : Hid (w4.cell? ⟨b, off + j, none⟩ = some (.int .i64 x)) := Lib.hid (cell_chg (Chg.of_below (S := fun _ => False) hb4) hHeld.out (fun h => h))
              have HG5 := Lib.hid (block_later HGD.out hb4)
              have HC5 := Lib.hid (HCD.out.trans (Chg.of_below (S := fun k => k = G) hb4) (fun _ _ h => h))
              clear hb4 HGD HCD
              go_wp2_with fail
              refine hK.out _ _ hSN (fun hHeld2 => ?_)
              try simp only [Act.put, List.setIfInBounds_toArray, List.set_cons_zero, List.set_cons_succ]
              clear hSN hK K hHeld
              have hHeld := hHeld2
              clear hHeld2
              refine wpAnyH_take (i := 6) (oi := ⟨some 51, _, _, _, _, _⟩) (v := .tuple #[.agg #[.int .i64 y1, .int .i64 y2, .int .i64 y3, .int .i64 y4, .int .i64 y5, .int .i64 y6], .int .i64 ze]) rfl (by kernel_rfl) (by kernel_rfl) (by kernel_rfl) (fun _ _ _ h => h) (Or.inl ⟨by rfl, fun w' hw' => ?_⟩) (by assumption) ?_
              · clear hHeld
                go_simp
              simp only [Act.put, List.setIfInBounds_toArray, List.set_cons_zero, List.set_cons_succ]
              refine wpAnyH_take (i := 7) (oi := ⟨some 58, _, _, _, _, _⟩) (v := .agg #[.int .i64 y1, .int .i64 y2, .int .i64 y3, .int .i64 y4, .int .i64 y5, .int .i64 y6]) rfl (by kernel_rfl) (by kernel_rfl) (by kernel_rfl) (fun _ _ _ h => h) (Or.inl ⟨by rfl, fun w' hw' => ?_⟩) (by assumption) ?_
              · clear hHeld
                go_simp
              simp only [Act.put, List.setIfInBounds_toArray, List.set_cons_zero, List.set_cons_succ]
              refine wpAnyH_take (i := 8) (oi := ⟨some 59, _, _, _, _, _⟩) (v := .int .i64 ze) rfl (by kernel_rfl) (by kernel_rfl) (by kernel_rfl) (fun _ _ _ h => h) (Or.inl ⟨by rfl, fun w' hw' => ?_⟩) (by assumption) ?_
              · clear hHeld
                go_simp
              simp only [Act.put, List.setIfInBounds_toArray, List.set_cons_zero, List.set_cons_succ]
              refine wpAnyH_ready (rs := [9]) (by kernel_rfl) (by simp) (AllReadyH.cons rfl (fun K hK => ?_) (AllReadyH.nil))
              obtain ⟨r0, r1, r2, r3, r4, r5⟩ := fcells HG5.out
              obtain ⟨d0, d1, d2, d3, d4, d5⟩ := ffree HG5.out
              have HG6 := Lib.hid (fstored (a' := .int .i64 y1) (b' := .int .i64 y2) (c' := .int .i64 y3) (d' := .int .i64 y4) (e' := .int .i64 y5) (f' := .int .i64 y6) HG5.out)
              have hch := fput_chg w4 G (.int .i64 y1) (.int .i64 y2) (.int .i64 y3) (.int .i64 y4) (.int .i64 y5) (.int .i64 y6)
              have hSN : Hid (((((((w4.setCell ⟨G, 0, none⟩ (.int .i64 y1)).setCell ⟨G, 1, none⟩ (.int .i64 y2)).setCell ⟨G, 2, none⟩ (.int .i64 y3)).setCell ⟨G, 3, none⟩ (.int .i64 y4)).setCell ⟨G, 4, none⟩ (.int .i64 y5)).setCell ⟨G, 5, none⟩ (.int .i64 y6)).cell? ⟨b, off + j, none⟩ = some (.int .i64 x)) := Lib.hid (cell_chg hch hHeld.out HBG.out)
              have HC6 := Lib.hid (HC5.out.trans hch (fun _ _ h => h))
              clear hch HC5
              go_simp
              go_wp2_with fail
              refine hK.out _ _ hSN (fun hHeld2 => ?_)
              try simp only [Act.put, List.setIfInBounds_toArray, List.set_cons_zero, List.set_cons_succ]
              clear hSN hK K hHeld hHeld2 r0 r1 r2 r3 r4 r5 d0 d1 d2 d3 d4 d5 HG5
              refine wpAnyH_done (by kernel_rfl) ?_ _
              generalize ((((((w4.setCell ⟨G, 0, none⟩ (.int .i64 y1)).setCell ⟨G, 1, none⟩ (.int .i64 y2)).setCell ⟨G, 2, none⟩ (.int .i64 y3)).setCell ⟨G, 3, none⟩ (.int .i64 y4)).setCell ⟨G, 4, none⟩ (.int .i64 y5)).setCell ⟨G, 5, none⟩ (.int .i64 y6)) = w5 at *
              go_wp2_with fail
              go_roundw
              case rel => exact ⟨j + 1, by omega, by go_num, ⟨y1, y2, y3, y4, y5, y6⟩, Lib.hid ⟨HG6.out, HF.out.chg.trans HC6.out (fun _ _ h => h), ⟨_, HM.out.1⟩, HM.out.2⟩⟩
              case measure =>
                simp [Go.RowKit.intOf]
                omega
          · have hj : j = nl := by omega
            have t1 : ¬ (j : Int) < nl := by omega
            obtain ⟨wv, ho⟩ := HF.out.opn
            rw [hj, HDE.out] at ho
            obtain rfl := ho.over
            have hw : wv = f4 := HF.out.e
            subst hw
            obtain ⟨q0, q1, q2, q3, q4, q5⟩ := fcells HF.out.y
            have hy := (HF.out.chg.block Y (block_lt HFz.out) HYG.out).trans HFz.out
            obtain ⟨x0, x1, x2, x3, x4, x5⟩ := fcells hy
            have HBZ := Lib.hid (Chg.below HBW.out HBW.out.size HF.out.chg (fun k hk => by have := HSZ.out.1; omega))
            have HY := Lib.hid hy
            clear ho hj hy
            go_wp2_with fail
            go_roundw
            case rel => exact ⟨1, by omega, by omega, by go_num, HBZ⟩
            case measure => simp [Go.RowKit.intOf]
      · by_cases hs1 : s = 1
        · subst hs1
          clear hs00 hs2 hs0
          obtain ⟨q0, q1, q2, q3, q4, q5⟩ := fcells HFw.out
          have hba : Below wr.heap.size wr (wr.alloc (.cells #[.int .i64 f1, .int .i64 f2, .int .i64 f3, .int .i64 f4, .int .i64 f5, .int .i64 f6] 23)) := (Below.refl _ _).alloc (Nat.le_refl _) _
          have HG4 := Lib.hid (alloc_block wr (.cells #[.int .i64 f1, .int .i64 f2, .int .i64 f3, .int .i64 f4, .int .i64 f5, .int .i64 f6] 23))
          have HFz := Lib.hid (block_later HFw.out hba)
          have HBW := Lib.hid (HW.out.trans (hba.mono HW.out.size))
          have HCA := Lib.hid (Chg.of_below (S := fun k => k = wr.heap.size) hba)
          have HYG : Hid (¬ Y = wr.heap.size) := Lib.hid (Nat.ne_of_lt (block_lt HFw.out))
          have HSZ := Lib.hid (And.intro HW.out.size HB1.out.size)
          clear hba HC0
          go_upto_region 8 with (fail)
          clear q0 q1 q2 q3 q4 q5
          generalize wr.alloc (.cells #[.int .i64 f1, .int .i64 f2, .int .i64 f3, .int .i64 f4, .int .i64 f5, .int .i64 f6] 23) = W4 at *
          generalize hGG : wr.heap.size = G at *
          have HGG := Lib.hid hGG
          have HWR := Lib.hid (And.intro HSw.out HW.out)
          clear hGG HW HFw
          obtain ⟨W2, hW2⟩ : ∃ W2, W2 = wr := ⟨_, rfl⟩
          rw [← hW2] at HSw HGG HCA HWR
          clear hW2
          go_wp2_with fail
          go_loopw [10] (fun i wr => ∃ j : Nat, j ≤ nl ∧ i = .int .i64 (j : Int) ∧ ∃ g : Fv, Hid (Hs W4 wr G lo hi (L.drop j) ⟨f1, f2, f3, f4, f5, f6⟩ g 1)) (fun i _ => nl - (Go.RowKit.intOf i).toNat)
          case atStart => exact ⟨0, Nat.zero_le _, rfl, ⟨f1, f2, f3, f4, f5, f6⟩, Lib.hid ⟨HG4.out, Chg.refl _ _, ⟨init, by rw [HD0.out]; exact HOP.out⟩, HE0.out.2⟩⟩
          case round =>
            obtain ⟨j, hjn, rfl, g, HF⟩ := hrel
            by_cases h1 : j < nl
            · have t1 : (j : Int) < nl := by omega
              obtain ⟨b, off, rfl, hblt, hcx⟩ := nl_cell HSw.out (HCA.out.trans HF.out.chg (fun _ _ h => h)) (fun b hb e => by have := HGG.out; omega) h1
              have HBG : Hid (¬ b = G) := Lib.hid (by have := HGG.out; omega)
              have hxi := HLI.out j h1
              obtain ⟨wv, ho⟩ := HF.out.opn
              rw [HDR.out j h1] at ho
              have hgk := ho.ok HKL.out.1 HKL.out.2.2
              generalize L.getD j 0 = x at *
              obtain ⟨a1, a2, a3, a4, a5, a6⟩ := g
              have HSET := Lib.hid fun w => settle_any ⟨a1, a2, a3, a4, a5, a6⟩ x w hgk hxi
              have HUND := Lib.hid fun w => undo_any ⟨a1, a2, a3, a4, a5, a6⟩ x w hgk hxi
              have HO := Lib.hid ho
              have HH := Lib.hid (And.intro hgk hxi)
              clear hgk ho hxi
              by_cases hx0 : x < 0
              · have hm := sharp_undo (f := ⟨f1, f2, f3, f4, f5, f6⟩) (s := 1) HO.out HF.out.e (by rw [if_neg (by decide)]; exact hx0) HKL.out.1 HKL.out.2.2
                have HM := Lib.hid hm
                clear hm
                generalize moveF ⟨a1, a2, a3, a4, a5, a6⟩ x (-1) 0 0 (-1) = N at *
                generalize moveE ⟨a1, a2, a3, a4, a5, a6⟩ x (-1) 0 0 (-1) = ze at *
                obtain ⟨y1, y2, y3, y4, y5, y6⟩ := N
                go_wp2_with fail
                have HGD : Hid (wr.drew.heap[G]? = some (.cells #[.int .i64 a1, .int .i64 a2, .int .i64 a3, .int .i64 a4, .int .i64 a5, .int .i64 a6] 23 (0, 0))) := Lib.hid HF.out.y
                have HCD : Hid (Chg (fun k => k = G) wr wr.drew) := Lib.hid ((Chg.refl _ _).drewN 1)
                have hbd : wr.drew.cell? ⟨b, off + j, none⟩ = some (.int .i64 x) := hcx
                refine wp_region_held_drew (S := fun w' => Hid (w'.cell? ⟨b, off + j, none⟩ = some (.int .i64 x))) (by kernel_rfl) (Lib.hid hbd) (fun hHeld => ?_)
                have HX0 := Lib.hid hx0
                clear hbd hcx hx0
                generalize wr.drew = W5 at *
                refine wpAnyH_take (i := 1) (oi := ⟨some 53, _, _, _, _, _⟩) (v := .slice (some ⟨b, off, none⟩) nl c) rfl (by kernel_rfl) (by kernel_rfl) (by kernel_rfl) (fun _ _ _ h => h) (Or.inl ⟨by rfl, fun w' hw' => ?_⟩) (by assumption) ?_
                · clear hHeld
                  go_simp
                simp only [Act.put, List.setIfInBounds_toArray, List.set_cons_zero, List.set_cons_succ]
                refine wpAnyH_take (i := 2) (oi := ⟨some 54, _, _, _, _, _⟩) (v := .int .i64 (j : Int)) rfl (by kernel_rfl) (by kernel_rfl) (by kernel_rfl) (fun _ _ _ h => h) (Or.inl ⟨by rfl, fun w' hw' => ?_⟩) (by assumption) ?_
                · clear hHeld
                  go_simp
                simp only [Act.put, List.setIfInBounds_toArray, List.set_cons_zero, List.set_cons_succ]
                refine wpAnyH_take (i := 3) (oi := ⟨some 55, _, _, _, _, _⟩) (v := .pointer (some ⟨b, off + j, none⟩)) rfl (by kernel_rfl) (by kernel_rfl) (by kernel_rfl) (fun _ _ _ h => h) (Or.inl ⟨by rfl, fun w' hw' => ?_⟩) (by assumption) ?_
                · clear hHeld
                  go_simp
                simp only [Act.put, List.setIfInBounds_toArray, List.set_cons_zero, List.set_cons_succ]
                refine wpAnyH_take (i := 4) (oi := ⟨some 56, _, _, _, _, _⟩) (v := .int .i64 x) rfl (by kernel_rfl) (by kernel_rfl) (by kernel_rfl) (fun _ _ _ h => h) (Or.inl ⟨by rfl, fun w' hw' => ?_⟩) (by assumption) ?_
                · have c0 := hw'.out
                  clear hHeld
                  go_simp
                simp only [Act.put, List.setIfInBounds_toArray, List.set_cons_zero, List.set_cons_succ]
                obtain ⟨q0, q1, q2, q3, q4, q5⟩ := fcells HGD.out
                refine wpAnyH_ready (rs := [0]) (by kernel_rfl) (by simp) (AllReadyH.cons rfl (fun K hK => ?_) (AllReadyH.nil))
                go_simp
                have hSN := hHeld
                refine hK.out _ _ hSN (fun hHeld2 => ?_)
                try simp only [Act.put, List.setIfInBounds_toArray, List.set_cons_zero, List.set_cons_succ]
                clear hSN hK K hHeld
                have hHeld := hHeld2
                clear hHeld2
                clear q0 q1 q2 q3 q4 q5
                refine wpAnyH_ready (rs := [5]) (by kernel_rfl) (by simp) (AllReadyH.cons rfl (fun K hK => ?_) (AllReadyH.nil))
                go_simp
                go_wp2_with fail
                refine (HUND.out _).mono ?_
                rintro e4 w4 ⟨rfl, hb4⟩
                have hSN : Hid (w4.cell? ⟨b, off + j, none⟩ = some (.int .i64 x)) := Lib.hid (cell_chg (Chg.of_below (S := fun _ => False) hb4) hHeld.out (fun h => h))
                have HG5 := Lib.hid (block_later HGD.out hb4)
                have HC5 := Lib.hid (HCD.out.trans (Chg.of_below (S := fun k => k = G) hb4) (fun _ _ h => h))
                clear hb4 HGD HCD
                go_wp2_with fail
                refine hK.out _ _ hSN (fun hHeld2 => ?_)
                try simp only [Act.put, List.setIfInBounds_toArray, List.set_cons_zero, List.set_cons_succ]
                clear hSN hK K hHeld
                have hHeld := hHeld2
                clear hHeld2
                refine wpAnyH_take (i := 6) (oi := ⟨some 51, _, _, _, _, _⟩) (v := .tuple #[.agg #[.int .i64 y1, .int .i64 y2, .int .i64 y3, .int .i64 y4, .int .i64 y5, .int .i64 y6], .int .i64 ze]) rfl (by kernel_rfl) (by kernel_rfl) (by kernel_rfl) (fun _ _ _ h => h) (Or.inl ⟨by rfl, fun w' hw' => ?_⟩) (by assumption) ?_
                · clear hHeld
                  go_simp
                simp only [Act.put, List.setIfInBounds_toArray, List.set_cons_zero, List.set_cons_succ]
                refine wpAnyH_take (i := 7) (oi := ⟨some 58, _, _, _, _, _⟩) (v := .agg #[.int .i64 y1, .int .i64 y2, .int .i64 y3, .int .i64 y4, .int .i64 y5, .int .i64 y6]) rfl (by kernel_rfl) (by kernel_rfl) (by kernel_rfl) (fun _ _ _ h => h) (Or.inl ⟨by rfl, fun w' hw' => ?_⟩) (by assumption) ?_
                · clear hHeld
                  go_simp
                simp only [Act.put, List.setIfInBounds_toArray, List.set_cons_zero, List.set_cons_succ]
                refine wpAnyH_take (i := 8) (oi := ⟨some 59, _, _, _, _, _⟩) (v := .int .i64 ze) rfl (by kernel_rfl) (by kernel_rfl) (by kernel_rfl) (fun _ _ _ h => h) (Or.inl ⟨by rfl, fun w' hw' => ?_⟩) (by assumption) ?_
                · clear hHeld
                  go_simp
                simp only [Act.put, List.setIfInBounds_toArray, List.set_cons_zero, List.set_cons_succ]
                refine wpAnyH_ready (rs := [9]) (by kernel_rfl) (by simp) (AllReadyH.cons rfl (fun K hK => ?_) (AllReadyH.nil))
                obtain ⟨r0, r1, r2, r3, r4, r5⟩ := fcells HG5.out
                obtain ⟨d0, d1, d2, d3, d4, d5⟩ := ffree HG5.out
                have HG6 := Lib.hid (fstored (a' := .int .i64 y1) (b' := .int .i64 y2) (c' := .int .i64 y3) (d' := .int .i64 y4) (e' := .int .i64 y5) (f' := .int .i64 y6) HG5.out)
                have hch := fput_chg w4 G (.int .i64 y1) (.int .i64 y2) (.int .i64 y3) (.int .i64 y4) (.int .i64 y5) (.int .i64 y6)
                have hSN : Hid (((((((w4.setCell ⟨G, 0, none⟩ (.int .i64 y1)).setCell ⟨G, 1, none⟩ (.int .i64 y2)).setCell ⟨G, 2, none⟩ (.int .i64 y3)).setCell ⟨G, 3, none⟩ (.int .i64 y4)).setCell ⟨G, 4, none⟩ (.int .i64 y5)).setCell ⟨G, 5, none⟩ (.int .i64 y6)).cell? ⟨b, off + j, none⟩ = some (.int .i64 x)) := Lib.hid (cell_chg hch hHeld.out HBG.out)
                have HC6 := Lib.hid (HC5.out.trans hch (fun _ _ h => h))
                clear hch HC5
                go_simp
                go_wp2_with fail
                refine hK.out _ _ hSN (fun hHeld2 => ?_)
                try simp only [Act.put, List.setIfInBounds_toArray, List.set_cons_zero, List.set_cons_succ]
                clear hSN hK K hHeld hHeld2 r0 r1 r2 r3 r4 r5 d0 d1 d2 d3 d4 d5 HG5
                refine wpAnyH_done (by kernel_rfl) ?_ _
                generalize ((((((w4.setCell ⟨G, 0, none⟩ (.int .i64 y1)).setCell ⟨G, 1, none⟩ (.int .i64 y2)).setCell ⟨G, 2, none⟩ (.int .i64 y3)).setCell ⟨G, 3, none⟩ (.int .i64 y4)).setCell ⟨G, 4, none⟩ (.int .i64 y5)).setCell ⟨G, 5, none⟩ (.int .i64 y6)) = w5 at *
                go_wp2_with fail
                go_roundw
                case rel => exact ⟨j + 1, by omega, by go_num, ⟨y1, y2, y3, y4, y5, y6⟩, Lib.hid ⟨HG6.out, HF.out.chg.trans HC6.out (fun _ _ h => h), ⟨_, HM.out.1⟩, HM.out.2⟩⟩
                case measure =>
                  simp [Go.RowKit.intOf]
                  omega
              · have hm := sharp_settle (f := ⟨f1, f2, f3, f4, f5, f6⟩) (s := 1) HO.out HF.out.e (by rw [if_neg (by decide)]; exact hx0) HKL.out.1 HKL.out.2.2
                have HM := Lib.hid hm
                clear hm
                generalize moveF ⟨a1, a2, a3, a4, a5, a6⟩ x 0 1 1 0 = N at *
                generalize moveE ⟨a1, a2, a3, a4, a5, a6⟩ x 0 1 1 0 = ze at *
                obtain ⟨y1, y2, y3, y4, y5, y6⟩ := N
                go_wp2_with fail
                have HGD : Hid (wr.drew.heap[G]? = some (.cells #[.int .i64 a1, .int .i64 a2, .int .i64 a3, .int .i64 a4, .int .i64 a5, .int .i64 a6] 23 (0, 0))) := Lib.hid HF.out.y
                have HCD : Hid (Chg (fun k => k = G) wr wr.drew) := Lib.hid ((Chg.refl _ _).drewN 1)
                have hbd : wr.drew.cell? ⟨b, off + j, none⟩ = some (.int .i64 x) := hcx
                refine wp_region_held_drew (S := fun w' => Hid (w'.cell? ⟨b, off + j, none⟩ = some (.int .i64 x))) (by kernel_rfl) (Lib.hid hbd) (fun hHeld => ?_)
                have HX0 := Lib.hid hx0
                clear hbd hcx hx0
                generalize wr.drew = W5 at *
                refine wpAnyH_take (i := 1) (oi := ⟨some 44, _, _, _, _, _⟩) (v := .slice (some ⟨b, off, none⟩) nl c) rfl (by kernel_rfl) (by kernel_rfl) (by kernel_rfl) (fun _ _ _ h => h) (Or.inl ⟨by rfl, fun w' hw' => ?_⟩) (by assumption) ?_
                · clear hHeld
                  go_simp
                simp only [Act.put, List.setIfInBounds_toArray, List.set_cons_zero, List.set_cons_succ]
                refine wpAnyH_take (i := 2) (oi := ⟨some 45, _, _, _, _, _⟩) (v := .int .i64 (j : Int)) rfl (by kernel_rfl) (by kernel_rfl) (by kernel_rfl) (fun _ _ _ h => h) (Or.inl ⟨by rfl, fun w' hw' => ?_⟩) (by assumption) ?_
                · clear hHeld
                  go_simp
                simp only [Act.put, List.setIfInBounds_toArray, List.set_cons_zero, List.set_cons_succ]
                refine wpAnyH_take (i := 3) (oi := ⟨some 46, _, _, _, _, _⟩) (v := .pointer (some ⟨b, off + j, none⟩)) rfl (by kernel_rfl) (by kernel_rfl) (by kernel_rfl) (fun _ _ _ h => h) (Or.inl ⟨by rfl, fun w' hw' => ?_⟩) (by assumption) ?_
                · clear hHeld
                  go_simp
                simp only [Act.put, List.setIfInBounds_toArray, List.set_cons_zero, List.set_cons_succ]
                refine wpAnyH_take (i := 4) (oi := ⟨some 47, _, _, _, _, _⟩) (v := .int .i64 x) rfl (by kernel_rfl) (by kernel_rfl) (by kernel_rfl) (fun _ _ _ h => h) (Or.inl ⟨by rfl, fun w' hw' => ?_⟩) (by assumption) ?_
                · have c0 := hw'.out
                  clear hHeld
                  go_simp
                simp only [Act.put, List.setIfInBounds_toArray, List.set_cons_zero, List.set_cons_succ]
                obtain ⟨q0, q1, q2, q3, q4, q5⟩ := fcells HGD.out
                refine wpAnyH_ready (rs := [0]) (by kernel_rfl) (by simp) (AllReadyH.cons rfl (fun K hK => ?_) (AllReadyH.nil))
                go_simp
                have hSN := hHeld
                refine hK.out _ _ hSN (fun hHeld2 => ?_)
                try simp only [Act.put, List.setIfInBounds_toArray, List.set_cons_zero, List.set_cons_succ]
                clear hSN hK K hHeld
                have hHeld := hHeld2
                clear hHeld2
                clear q0 q1 q2 q3 q4 q5
                refine wpAnyH_ready (rs := [5]) (by kernel_rfl) (by simp) (AllReadyH.cons rfl (fun K hK => ?_) (AllReadyH.nil))
                go_simp
                go_wp2_with fail
                refine (HSET.out _).mono ?_
                rintro e4 w4 ⟨rfl, hb4⟩
                have hSN : Hid (w4.cell? ⟨b, off + j, none⟩ = some (.int .i64 x)) := Lib.hid (cell_chg (Chg.of_below (S := fun _ => False) hb4) hHeld.out (fun h => h))
                have HG5 := Lib.hid (block_later HGD.out hb4)
                have HC5 := Lib.hid (HCD.out.trans (Chg.of_below (S := fun k => k = G) hb4) (fun _ _ h => h))
                clear hb4 HGD HCD
                go_wp2_with fail
                refine hK.out _ _ hSN (fun hHeld2 => ?_)
                try simp only [Act.put, List.setIfInBounds_toArray, List.set_cons_zero, List.set_cons_succ]
                clear hSN hK K hHeld
                have hHeld := hHeld2
                clear hHeld2
                refine wpAnyH_take (i := 6) (oi := ⟨some 42, _, _, _, _, _⟩) (v := .tuple #[.agg #[.int .i64 y1, .int .i64 y2, .int .i64 y3, .int .i64 y4, .int .i64 y5, .int .i64 y6], .int .i64 ze]) rfl (by kernel_rfl) (by kernel_rfl) (by kernel_rfl) (fun _ _ _ h => h) (Or.inl ⟨by rfl, fun w' hw' => ?_⟩) (by assumption) ?_
                · clear hHeld
                  go_simp
                simp only [Act.put, List.setIfInBounds_toArray, List.set_cons_zero, List.set_cons_succ]
                refine wpAnyH_take (i := 7) (oi := ⟨some 49, _, _, _, _, _⟩) (v := .agg #[.int .i64 y1, .int .i64 y2, .int .i64 y3, .int .i64 y4, .int .i64 y5, .int .i64 y6]) rfl (by kernel_rfl) (by kernel_rfl) (by kernel_rfl) (fun _ _ _ h => h) (Or.inl ⟨by rfl, fun w' hw' => ?_⟩) (by assumption) ?_
                · clear hHeld
                  go_simp
                simp only [Act.put, List.setIfInBounds_toArray, List.set_cons_zero, List.set_cons_succ]
                refine wpAnyH_take (i := 8) (oi := ⟨some 50, _, _, _, _, _⟩) (v := .int .i64 ze) rfl (by kernel_rfl) (by kernel_rfl) (by kernel_rfl) (fun _ _ _ h => h) (Or.inl ⟨by rfl, fun w' hw' => ?_⟩) (by assumption) ?_
                · clear hHeld
                  go_simp
                simp only [Act.put, List.setIfInBounds_toArray, List.set_cons_zero, List.set_cons_succ]
                refine wpAnyH_ready (rs := [9]) (by kernel_rfl) (by simp) (AllReadyH.cons rfl (fun K hK => ?_) (AllReadyH.nil))
                obtain ⟨r0, r1, r2, r3, r4, r5⟩ := fcells HG5.out
                obtain ⟨d0, d1, d2, d3, d4, d5⟩ := ffree HG5.out
                have HG6 := Lib.hid (fstored (a' := .int .i64 y1) (b' := .int .i64 y2) (c' := .int .i64 y3) (d' := .int .i64 y4) (e' := .int .i64 y5) (f' := .int .i64 y6) HG5.out)
                have hch := fput_chg w4 G (.int .i64 y1) (.int .i64 y2) (.int .i64 y3) (.int .i64 y4) (.int .i64 y5) (.int .i64 y6)
                have hSN : Hid (((((((w4.setCell ⟨G, 0, none⟩ (.int .i64 y1)).setCell ⟨G, 1, none⟩ (.int .i64 y2)).setCell ⟨G, 2, none⟩ (.int .i64 y3)).setCell ⟨G, 3, none⟩ (.int .i64 y4)).setCell ⟨G, 4, none⟩ (.int .i64 y5)).setCell ⟨G, 5, none⟩ (.int .i64 y6)).cell? ⟨b, off + j, none⟩ = some (.int .i64 x)) := Lib.hid (cell_chg hch hHeld.out HBG.out)
                have HC6 := Lib.hid (HC5.out.trans hch (fun _ _ h => h))
                clear hch HC5
                go_simp
                go_wp2_with fail
                refine hK.out _ _ hSN (fun hHeld2 => ?_)
                try simp only [Act.put, List.setIfInBounds_toArray, List.set_cons_zero, List.set_cons_succ]
                clear hSN hK K hHeld hHeld2 r0 r1 r2 r3 r4 r5 d0 d1 d2 d3 d4 d5 HG5
                refine wpAnyH_done (by kernel_rfl) ?_ _
                generalize ((((((w4.setCell ⟨G, 0, none⟩ (.int .i64 y1)).setCell ⟨G, 1, none⟩ (.int .i64 y2)).setCell ⟨G, 2, none⟩ (.int .i64 y3)).setCell ⟨G, 3, none⟩ (.int .i64 y4)).setCell ⟨G, 4, none⟩ (.int .i64 y5)).setCell ⟨G, 5, none⟩ (.int .i64 y6)) = w5 at *
                go_wp2_with fail
                go_roundw
                case rel => exact ⟨j + 1, by omega, by go_num, ⟨y1, y2, y3, y4, y5, y6⟩, Lib.hid ⟨HG6.out, HF.out.chg.trans HC6.out (fun _ _ h => h), ⟨_, HM.out.1⟩, HM.out.2⟩⟩
                case measure =>
                  simp [Go.RowKit.intOf]
                  omega
            · have hj : j = nl := by omega
              have t1 : ¬ (j : Int) < nl := by omega
              obtain ⟨wv, ho⟩ := HF.out.opn
              rw [hj, HDE.out] at ho
              obtain rfl := ho.over
              have hw : wv = f5 := HF.out.e
              subst hw
              obtain ⟨q0, q1, q2, q3, q4, q5⟩ := fcells HF.out.y
              have hy := (HF.out.chg.block Y (block_lt HFz.out) HYG.out).trans HFz.out
              obtain ⟨x0, x1, x2, x3, x4, x5⟩ := fcells hy
              have HBZ := Lib.hid (Chg.below HBW.out HBW.out.size HF.out.chg (fun k hk => by have := HSZ.out.1; omega))
              have HY := Lib.hid hy
              clear ho hj hy
              go_wp2_with fail
              go_roundw
              case rel => exact ⟨2, by omega, by omega, by go_num, HBZ⟩
              case measure => simp [Go.RowKit.intOf]
        · obtain rfl : s = 2 := by omega
          clear hs00 hs2 hs0 hs1
          obtain ⟨q0, q1, q2, q3, q4, q5⟩ := fcells HFw.out
          go_wp2_with fail
          clear q0 q1 q2 q3 q4 q5
          refine (HGR.out _).mono ?_
          rintro e5 w5 ⟨rfl, hb5⟩
          have hbn : Below w5.heap.size w5 (w5.alloc (.cells #[.int .i64 g1, .int .i64 g2, .int .i64 g3, .int .i64 g4, .int .i64 g5, .int .i64 g6] 23)) := (Below.refl _ _).alloc (Nat.le_refl _) _
          have HF5 := Lib.hid (block_later (block_later HFw.out hb5) hbn)
          have HBW := Lib.hid (HB1.out.trans (HW.out.mono HB1.out.size))
          have HB5 := Lib.hid (HBW.out.trans ((hb5.trans (hbn.mono hb5.size)).mono HBW.out.size))
          clear hb5 hbn HBW
          go_upto_region 17 with (fail)
          generalize w5.alloc (.cells #[.int .i64 g1, .int .i64 g2, .int .i64 g3, .int .i64 g4, .int .i64 g5, .int .i64 g6] 23) = W5 at *
          generalize w5.heap.size = Y5 at *
          obtain ⟨q0, q1, q2, q3, q4, q5⟩ := fcells HF5.out
          have HDU : Hid (dist f5 f2 = f2 - f5) := Lib.hid (dist_ge _ _ (by have h : f5 ≤ f2 := HGF.out.2.2.2.2.2; omega))
          have HDL : Hid (dist f1 f4 = f4 - f1) := Lib.hid (dist_ge _ _ (by have h : f1 ≤ f4 := HGF.out.1; omega))
          have hku : -9223372036854775808 ≤ f5 ∧ f5 ≤ 9223372036854775807 := HFK.out.2.2.2.2.1
          have hkl : -9223372036854775808 ≤ f4 ∧ f4 ≤ 9223372036854775807 := HFK.out.2.2.2.1
          have hk1 : -9223372036854775808 ≤ f1 ∧ f1 ≤ 9223372036854775807 := HFK.out.1
          have hk2 : -9223372036854775808 ≤ f2 ∧ f2 ≤ 9223372036854775807 := HFK.out.2.1
          have HU := Lib.hid fun w => rdist_any f5 f2 w hku.1 hku.2 hk2.1 hk2.2
          have HLD := Lib.hid fun w => rdist_any f1 f4 w hk1.1 hk1.2 hkl.1 hkl.2
          rw [HDU.out] at HU
          rw [HDL.out] at HLD
          have hdd : -9223372036854775808 ≤ d ∧ d ≤ 9223372036854775807 := HHD.out
          have hsh := HSH.out
          replace hsh : z = 0 ↔ (0 < d ∧ d ≤ f2 - f5) ∨ (d < 0 ∧ d ≠ -9223372036854775808 ∧ -d ≤ f4 - f1) := hsh
          have HR := Lib.hid (And.intro hku (And.intro hkl (And.intro hk1 hk2)))
          clear hku hkl hk1 hk2
          by_cases hp : 0 < d
          · have eu : IntKind.u64.wrap d = d := by rw [u64w]; omega
            have s1 : ¬ d < 0 := by omega
            by_cases hx : d ≤ f2 - f5
            · have hz : z = 0 := hsh.2 (Or.inl ⟨hp, hx⟩)
              subst hz
              clear hsh
              go_wp2_with fail
              refine (HU.out _).mono ?_
              rintro e6 w6 ⟨rfl, rfl⟩
              go_wp2_with fail
              refine (field_works _).mono ?_
              rintro e9 w9 ⟨rfl, hb9⟩
              have HQ := Lib.hid (HB5.out.trans (hb9.mono HB5.out.size))
              clear hb9 q0 q1 q2 q3 q4 q5
              go_wp2_with fail
              go_ret
              exact ⟨rfl, HQ.out⟩
            · have hz : ¬ z = 0 := fun h => by rcases hsh.1 h with h | h <;> omega
              have kz : (z == 0) = false := by simpa using hz
              have HZ := Lib.hid hz
              have hdx : decide (d ≤ f2 - f5) = false := decide_eq_false hx
              clear hsh hz
              go_wp2_with fail
              refine (HU.out _).mono ?_
              rintro e6 w6 ⟨rfl, rfl⟩
              go_wp2_with fail
              refine (field_works _).mono ?_
              rintro e9 w9 ⟨rfl, hb9⟩
              have HQ := Lib.hid (HB5.out.trans (hb9.mono HB5.out.size))
              clear hb9 q0 q1 q2 q3 q4 q5
              go_wp2_with fail
              go_ret
              exact ⟨rfl, HQ.out⟩
          · by_cases hn : d < 0
            · by_cases hm : d = -9223372036854775808
              · have hz : ¬ z = 0 := fun h => by rcases hsh.1 h with h | h <;> omega
                have kz : (z == 0) = false := by simpa using hz
                have HZ := Lib.hid hz
                subst hm
                clear hsh hz
                go_wp2_with fail
                refine (field_works _).mono ?_
                rintro e9 w9 ⟨rfl, hb9⟩
                have HQ := Lib.hid (HB5.out.trans (hb9.mono HB5.out.size))
                clear hb9 q0 q1 q2 q3 q4 q5
                go_wp2_with fail
                go_ret
                exact ⟨rfl, HQ.out⟩
              · have s2 : (d != -9223372036854775808) = true := by simpa using hm
                have en : IntKind.i64.wrap (-d) = -d := i64w _ (by omega)
                have eu : IntKind.u64.wrap (-d) = -d := by rw [u64w]; omega
                by_cases hx : -d ≤ f4 - f1
                · have hz : z = 0 := hsh.2 (Or.inr ⟨hn, hm, hx⟩)
                  subst hz
                  have HM := Lib.hid hm
                  clear hsh hm
                  go_wp2_with fail
                  refine (HLD.out _).mono ?_
                  rintro e6 w6 ⟨rfl, rfl⟩
                  go_wp2_with fail
                  refine (field_works _).mono ?_
                  rintro e9 w9 ⟨rfl, hb9⟩
                  have HQ := Lib.hid (HB5.out.trans (hb9.mono HB5.out.size))
                  clear hb9 q0 q1 q2 q3 q4 q5
                  go_wp2_with fail
                  go_ret
                  exact ⟨rfl, HQ.out⟩
                · have hz : ¬ z = 0 := fun h => by rcases hsh.1 h with h | h <;> omega
                  have kz : (z == 0) = false := by simpa using hz
                  have HZ := Lib.hid hz
                  have HM := Lib.hid hm
                  have hdx : decide (-d ≤ f4 - f1) = false := decide_eq_false hx
                  clear hsh hz hm
                  go_wp2_with fail
                  refine (HLD.out _).mono ?_
                  rintro e6 w6 ⟨rfl, rfl⟩
                  go_wp2_with fail
                  refine (field_works _).mono ?_
                  rintro e9 w9 ⟨rfl, hb9⟩
                  have HQ := Lib.hid (HB5.out.trans (hb9.mono HB5.out.size))
                  clear hb9 q0 q1 q2 q3 q4 q5
                  go_wp2_with fail
                  go_ret
                  exact ⟨rfl, HQ.out⟩
            · have hz : ¬ z = 0 := fun h => by rcases hsh.1 h with h | h <;> omega
              have kz : (z == 0) = false := by simpa using hz
              have HZ := Lib.hid hz
              clear hsh hz
              go_wp2_with fail
              refine (field_works _).mono ?_
              rintro e9 w9 ⟨rfl, hb9⟩
              have HQ := Lib.hid (HB5.out.trans (hb9.mono HB5.out.size))
              clear hb9 q0 q1 q2 q3 q4 q5
              go_wp2_with fail
              go_ret
              exact ⟨rfl, HQ.out⟩
  · rw [show newF lo init hi = (⟨0, 0, 0, 0, 0, 0⟩, 3) from if_neg hok] at HPL
    dsimp only at HPL
    generalize playS ⟨0, 0, 0, 0, 0, 0⟩ (A.take 40) = s at *
    obtain ⟨f, L⟩ := s
    obtain ⟨f1, f2, f3, f4, f5, f6⟩ := f
    replace HPL : Hid (∀ w', Below w.heap.size w w' → Calls Try.prog 23 #[.agg #[.int .u8 k0, .int .u8 k1, .int .u8 k2, .int .i64 lo, .int .i64 init, .int .i64 hi, .slice p n m, .slice q n2 m2]] w' fun e w'' => ∃ r c, e = .returned (.tuple #[.agg #[.int .i64 f1, .int .i64 f2, .int .i64 f3, .int .i64 f4, .int .i64 f5, .int .i64 f6], .slice r L.length c, .bool false]) ∧ NL .i64 w'' r L.length c L ∧ Below w'.heap.size w' w'') := HPL
    have HOK := Lib.hid hok
    clear hlo hin hhi hI hok hd
    go_enter Try.func8, Try.ntmps8
    go_upto_region 1 with (fail)
    clear hX
    generalize w.alloc (.cells #[.int .u8 k0, .int .u8 k1, .int .u8 k2, .int .i64 lo, .int .i64 init, .int .i64 hi, .slice p n m, .slice q n2 m2] 49) = V0 at *
    obtain ⟨x0, x1, x2, x3, x4, x5, x6, x7⟩ := rcells HX0.out
    go_wp2_with fail
    clear x0 x1 x2 x3 x4 x5 x6 x7
    refine (HPL.out _ HB0.out).mono ?_
    rintro e1 w1 ⟨r, c, rfl, hs1, hb1⟩
    have hbn : Below w1.heap.size w1 (w1.alloc (.cells #[.int .i64 f1, .int .i64 f2, .int .i64 f3, .int .i64 f4, .int .i64 f5, .int .i64 f6] 23)) := (Below.refl _ _).alloc (Nat.le_refl _) _
    have HB1 := Lib.hid (HB0.out.trans ((hb1.trans (hbn.mono hb1.size)).mono HB0.out.size))
    clear hbn hb1 hs1 HB0 HX0 HPL
    go_wp2_with fail
    refine (field_works _).mono ?_
    rintro e9 w9 ⟨rfl, hb9⟩
    have HZ := Lib.hid (HB1.out.trans (hb9.mono HB1.out.size))
    clear hb9
    go_wp2_with fail
    go_ret
    exact ⟨rfl, HZ.out⟩
end Go.Proofs.Ytgjfgabagfhnoaa
