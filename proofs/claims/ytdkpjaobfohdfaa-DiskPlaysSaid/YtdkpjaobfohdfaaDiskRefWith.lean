/- With, by the document. -/
import Derived.Test.YtdkpjaobfohdfaaPartB
namespace Go.Proofs.Ytdkpjaobfohdfaa
open Go.RowKit Go.ChangeShapes Go.WideShapes
set_option linter.unusedVariables false
set_option maxRecDepth 10000
set_option linter.unusedSimpArgs false

/-- What With says of a write. -/
def withE (d : DS) : Dw → Int
  | .put i b => d.putE i b
  | .grow b => d.addE b
  | _ => 0
def withD (d : DS) (x : Dw) : DS := if withE d x = 0 then d.add x else d
/-- A call that hands back the document's disk and an error. -/
def RdGivesE (w : World) (Q : Nat → Prop) (d : DS) (x : Int) (e : Ending) (w' : World) : Prop :=
  ∃ p c tp tc lp lc, e = .returned (.tuple #[.agg (rdc p d.V.length c d.s tp d.t.B.length tc (d.t.f * d.z) d.z lp d.L.length lc d.M), .int .i64 x]) ∧ Rd w' Q p c tp tc lp lc d ∧ Below w.heap.size w w'
theorem results_rd {fn : Func} {P1 P2 : Tmp} (h : fn.results = #[.cell P1 36, .tmp P2]) (tmps : Array Value) (W : World) (R : Nat) (cs : Array Value) (x : Value) (hp : tmps.getD P1 undef = .pointer (some ⟨R, 0, none⟩)) (hv : tmps.getD P2 undef = x)
    (hR : W.heap[R]? = some (.cells cs 36 (0, 0))) (hs : cs.size = 7) : (results fn tmps).run Try.prog W = .ok (.tuple #[.agg cs, x]) W := by
  rw [results_cell_tmp h, hp, hv]
  have hl := run_loadVar_row (P := Try.prog) W R 36 36 cs (0, 0) _ hR Try.underlying36 rfl (by rw [hs]; kernel_rfl)
  simp [asAddr, Result.andThen, hl]
theorem three_boxes (w : World) (c0 c1 c2 : Array Value) (T0 T1 T2 : TypeId) : (((w.alloc (.cells c0 T0)).alloc (.cells c1 T1)).alloc (.cells c2 T2)).heap[w.heap.size]? = some (.cells c0 T0 (0, 0)) ∧ (((w.alloc (.cells c0 T0)).alloc (.cells c1 T1)).alloc (.cells c2 T2)).heap[w.heap.size + 1]? = some (.cells c1 T1 (0, 0)) ∧ (((w.alloc (.cells c0 T0)).alloc (.cells c1 T1)).alloc (.cells c2 T2)).heap[w.heap.size + 1 + 1]? = some (.cells c2 T2 (0, 0)) ∧
    Below w.heap.size w (((w.alloc (.cells c0 T0)).alloc (.cells c1 T1)).alloc (.cells c2 T2)) ∧ (((w.alloc (.cells c0 T0)).alloc (.cells c1 T1)).alloc (.cells c2 T2)).heap.size = w.heap.size + 3 := by
  obtain ⟨a0, a1, a2⟩ := two_boxes w c0 c1 T0 T1
  have hs : ((w.alloc (.cells c0 T0)).alloc (.cells c1 T1)).heap.size = w.heap.size + 2 := by simp
  have hb : Below ((w.alloc (.cells c0 T0)).alloc (.cells c1 T1)).heap.size ((w.alloc (.cells c0 T0)).alloc (.cells c1 T1)) (((w.alloc (.cells c0 T0)).alloc (.cells c1 T1)).alloc (.cells c2 T2)) := (Below.refl _ _).alloc (Nat.le_refl _) _
  have h2 := alloc_block ((w.alloc (.cells c0 T0)).alloc (.cells c1 T1)) (.cells c2 T2)
  rw [hs] at h2
  exact ⟨block_later a0 hb, block_later a1 hb, h2, a2.trans (hb.mono a2.size), by simp⟩
theorem infoWr : (Try.prog.info? 67).map (fun i => (i.zero, i.size, i.bytes)) = some (some (.agg #[.int .i64 0, .int .i64 0, .slice none 0 0, .int .i64 0]), 4, 48) := by kernel_rfl
theorem slg_news {α : Type} {enc : α → List Value} {k : Nat} {d : α} (hk : ∀ x, (enc x).length = k) (hk0 : 0 < k) {w : World} {p : Option Addr} {n c : Nat} {L : List α} (h : SlG enc k d w p n c L) : (flatG enc L).length = n * k ∧ (p = none → n = 0 ∧ c = 0) ∧ ∀ ad, p = some ad → ∀ j u, (flatG enc L)[j]? = some u → w.cell? (ad.add j) = some u := by
  have hl := h.len
  refine ⟨by rw [flatG_len hk, hl], fun hp => ?_, ?_⟩
  · have h1 := h.nil hp
    have h2 := h.cap
    omega
  · intro ad had j u hu
    have hj : j < n * k := by
      have := (List.getElem?_eq_some_iff.1 hu).1
      rwa [flatG_len hk, hl] at this
    have hn : 0 < n := by
      rcases Nat.eq_zero_or_pos n with h0 | h0
      · subst h0; omega
      · exact h0
    obtain ⟨b, off, hp, _, hc⟩ := h.cell hn
    rw [hp] at had
    cases had
    have h1 : j / k < n := by
      rw [Nat.div_lt_iff_lt_mul hk0]
      exact hj
    have h2 : j % k < k := Nat.mod_lt _ hk0
    have h3 : j / k * k + j % k = j := by rw [Nat.mul_comm]; exact Nat.div_add_mod j k
    have h4 := flatG_at hk (d := d) L (j / k) (j % k) (by omega) h2
    rw [h3, hu] at h4
    have := hc (j / k) h1 (j % k) u h4.symm
    rw [Go.WideShapes.add_plain]
    rw [Nat.add_assoc, h3] at this
    exact this
theorem four_new {w : World} (B : Nat) {v0 v1 v2 v3 : Value} (h0 : w.cell? ⟨B, 0, none⟩ = some v0) (h1 : w.cell? ⟨B, 1, none⟩ = some v1) (h2 : w.cell? ⟨B, 2, none⟩ = some v2) (h3 : w.cell? ⟨B, 3, none⟩ = some v3) : ∀ ad, some (⟨B, 0, none⟩ : Addr) = some ad → ∀ j u, [v0, v1, v2, v3][j]? = some u → w.cell? (ad.add j) = some u := by
  intro ad had j u hu
  cases had
  rw [Go.WideShapes.add_plain, Nat.zero_add]
  match j, hu with
  | 0, hu => simp only [List.getElem?_cons_zero, Option.some.injEq] at hu; subst hu; exact h0
  | 1, hu => simp only [List.getElem?_cons_succ, List.getElem?_cons_zero, Option.some.injEq] at hu; subst hu; exact h1
  | 2, hu => simp only [List.getElem?_cons_succ, List.getElem?_cons_zero, Option.some.injEq] at hu; subst hu; exact h2
  | 3, hu => simp only [List.getElem?_cons_succ, List.getElem?_cons_zero, Option.some.injEq] at hu; subst hu; exact h3
  | j + 4, hu => simp at hu
theorem four_one (a : Nat) (b : Int) (c : Option Addr × Nat × Nat) (e : Int) : ∀ u ∈ [Value.int .i64 (a : Nat), .int .i64 b, .slice c.1 c.2.1 c.2.2, .int .i64 e], u.oneCell' = true := by
  intro u hu
  simp only [List.mem_cons, List.not_mem_nil, or_false] at hu
  rcases hu with rfl | rfl | rfl | rfl <;> rfl
set_option maxHeartbeats 8000000 in
theorem refwith_any {p tp lp : Option Addr} {c tc lc : Nat} (d : DS) (y : Wd) (w : World) (Q : Nat → Prop) (hQ : ∀ k, w.heap.size ≤ k → Q k) (h : Rd w Q p c tp tc lp lc d) (hy : y.ok w Q) (hbig : d.tot ≤ 1000000) (hLL : d.L.length ≤ 1000) (hM : d.M ≤ 1048576) :
    Calls Try.prog 24 #[.agg (rdc p d.V.length c d.s tp d.t.B.length tc (d.t.f * d.z) d.z lp d.L.length lc d.M), .agg #[.int .i64 (y.k : Nat), .int .i64 y.i, .slice y.q y.m y.cq, .int .i64 y.n]] w (RdGivesE w Q (withD d y.x) (withE d y.x)) := by
  obtain ⟨h0, h1, h2, hbw, hsz⟩ := three_boxes w (rdc p d.V.length c d.s tp d.t.B.length tc (d.t.f * d.z) d.z lp d.L.length lc d.M) #[.int .i64 (y.k : Nat), .int .i64 y.i, .slice y.q y.m y.cq, .int .i64 y.n] rdz 36 67 36
  have HSE := Lib.hid (refseen_any d _ Q (fun k hk => hQ k (by omega)) (h.later hbw) hbig)
  have H0 := Lib.hid h0
  have H1 := Lib.hid h1
  have H2 := Lib.hid h2
  have HBW := Lib.hid hbw
  have HSZ := Lib.hid hsz
  have HRD := Lib.hid h
  have HY := Lib.hid hy
  have HQQ := Lib.hid hQ
  have hml := hy.bl.len
  have hmm := hy.bl.max
  have hmc := hy.bl.cap
  unfold maxLen at hmm
  have hk3 := hy.k3
  obtain ⟨AL, HAL, HMAP, HOK⟩ : ∃ AL : List Wd, Hid (SlG ewd 4 wd0' w lp d.L.length lc AL) ∧ Hid (AL.map Wd.x = d.L) ∧ Hid (∀ z ∈ AL, z.ok w Q) := by
    obtain ⟨⟨AL, g1, g2, g3⟩, _⟩ := h.td
    exact ⟨AL, Lib.hid g1, Lib.hid g2, Lib.hid g3⟩
  have hlm := HAL.out.max
  have hlcap := HAL.out.cap
  unfold maxLen at hlm
  have HPUT : Hid (∀ (p' : Option Addr) (c' : Nat) (w' : World), Below w.heap.size w w' → RV w' Q p' c' d.s d.sV → Calls Try.prog 47 #[.agg #[.slice p' d.V.length c', .int .i64 (d.s : Nat)], .int .i64 y.i, .slice y.q y.m y.cq] w' (RTears w' Q d.V.length d.s (tearV d.s d.sV y.i y.b d.s) (d.putE y.i y.b))) := Lib.hid fun p' c' w' hb hv => by
    rw [← putE_seen]
    exact refput_any p' c' d.V.length d.s d.sV y.i y.q y.m y.cq y.b w' Q (fun k hk => hQ k (Nat.le_trans hb.size hk)) hv (foldV_len ..) h.n4 h.s4 (hy.bl.later hb)
  have hsl : d.sT.B.length ≤ 1000000 := by
    have := d.sT_len (by have := h.z.1; omega)
    unfold TS.len at this
    omega
  have HTAIL : Hid (∀ (pl : Option Addr) (cl : Nat) (W9 W : World), withE d y.x = 0 → Below w.heap.size w W9 → w.heap.size + 3 ≤ W9.heap.size → W9.ownsRow 0 67 4 (.slice pl (d.L.length + 1) cl) (d.L.length + 1) (flatG ewd (AL ++ [y])) → (∀ k, (Value.slice pl (d.L.length + 1) cl).ownBlock = some k → w.heap.size + 3 ≤ k) → Chg (fun k => k = w.heap.size + 1 + 1) W9 W → RdGivesE w Q (withD d y.x) (withE d y.x) (.returned (.tuple #[.agg (rdc p d.V.length c d.s tp d.t.B.length tc (d.t.f * d.z) d.z pl (d.L.length + 1) cl d.M), .int .i64 0])) W) := Lib.hid fun pl cl W9 W h0 hb hsz9 hown hk hc => by
    have hD : withD d y.x = d.add y.x := if_pos h0
    rw [hD, h0]
    obtain ⟨p1, c1, e1, hs, _⟩ := SlG.of_own (d := wd0') ewd_len (by decide) hown
    cases e1
    have hlow : Rd w (fun k => Q k ∧ k < w.heap.size) p c tp tc lp lc d := h.mono fun k h1 h2 => ⟨h1, h2⟩
    have hkeep : Rd W (fun k => Q k ∧ k < w.heap.size) p c tp tc lp lc d := (hlow.later hb).keep hc fun k h1 h2 => by omega
    have hkq := hkeep.mono (R := Q) fun k h1 _ => h1.1
    have hlen : (d.add y.x).L.length = d.L.length + 1 := by
      show (d.L ++ [y.x]).length = _
      rw [List.length_append, List.length_singleton]
    refine ⟨p, c, tp, tc, pl, cl, by rw [hlen]; rfl, ⟨hkq.rv, hkq.rt, hkq.tq, ⟨⟨AL ++ [y], ?_, ?_, ?_⟩, ?_⟩, hkq.n4, hkq.s4, hkq.z⟩, hc.below hb hb.size fun k hk' => by omega⟩
    · rw [hlen]
      exact hs.turn hc.size fun h0 a ha hlt => hc.block _ hlt fun e => by
        have := hk a.block (by rw [ha]; rfl)
        omega
    · rw [List.map_append, HMAP.out]
      rfl
    · intro z hz
      rcases List.mem_append.1 hz with hz | hz
      · exact ((((HOK.out z hz).mono (R := fun k => Q k ∧ k < w.heap.size) fun k h1 h2 => ⟨h1, h2⟩).later hb).keep hc fun k h1 h2 => by omega).mono fun k h1 _ => h1.1
      · rw [List.mem_singleton] at hz
        subst hz
        exact (((hy.mono (R := fun k => Q k ∧ k < w.heap.size) fun k h1 h2 => ⟨h1, h2⟩).later hb).keep hc fun k h1 h2 => by omega).mono fun k h1 _ => h1.1
    · intro _ a ha
      refine hQ _ ?_
      have := hk a.block (by rw [ha]; rfl)
      omega
  have HERR : Hid (∀ (W9 W : World), withE d y.x ≠ 0 → Below w.heap.size w W9 → w.heap.size + 3 ≤ W9.heap.size → Chg (fun k => k = w.heap.size + 1 + 1) W9 W → RdGivesE w Q (withD d y.x) (withE d y.x) (.returned (.tuple #[.agg (rdc p d.V.length c d.s tp d.t.B.length tc (d.t.f * d.z) d.z lp d.L.length lc d.M), .int .i64 (withE d y.x)])) W) := Lib.hid fun W9 W h0 hb hsz9 hc => by
    have hD : withD d y.x = d := if_neg h0
    rw [hD]
    have hlow : Rd w (fun k => Q k ∧ k < w.heap.size) p c tp tc lp lc d := h.mono fun k h1 h2 => ⟨h1, h2⟩
    have hkeep : Rd W (fun k => Q k ∧ k < w.heap.size) p c tp tc lp lc d := (hlow.later hb).keep hc fun k h1 h2 => by omega
    exact ⟨p, c, tp, tc, lp, lc, rfl, hkeep.mono fun k h1 _ => h1.1, hc.below hb hb.size fun k hk' => by omega⟩
  have HEW : Hid (ewd y = [.int .i64 (y.k : Nat), .int .i64 y.i, .slice y.q y.m y.cq, .int .i64 y.n]) := Lib.hid rfl
  have HLB : Hid (d.V.length ≤ 1024 ∧ d.s ≤ 4096) := Lib.hid ⟨h.n4, h.s4⟩
  have HE : Hid (withE d y.x = if y.k = 0 then d.putE y.i y.b else if y.k = 1 then (if 65536 < y.m then 7 else if (d.M : Int) < (d.sT.B.length : Int) + y.m then 4 else 0) else 0) := Lib.hid (by
    unfold Wd.x
    split
    · rfl
    · split
      · show d.addE y.b = _
        unfold DS.addE
        rw [hml]
      · split <;> rfl)
  have hst : d.sT.B.length ≤ 1000000 := hsl
  clear h0 h1 h2 hbw hsz h hy hsl
  generalize hP : d.putE y.i y.b = pe at *
  generalize hWE : withE d y.x = we at *
  generalize hSV : d.sV = SV at *
  generalize hST : d.sT = ST at *
  clear hP hWE hSV hST
  generalize d.V.length = n at *
  generalize d.t.B.length = n1 at *
  generalize d.t.f * d.z = F1 at *
  generalize d.L.length = ln at *
  generalize d.s = s at *
  generalize d.z = z at *
  generalize d.M = M at *
  generalize y.k = yk at *
  generalize y.i = yi at *
  generalize y.q = yq at *
  generalize y.m = ym at *
  generalize y.cq = ycq at *
  generalize y.n = yn at *
  go_enter Try.func24, Try.ntmps24
  go_wp2_with fail
  have hse := HSE.out.mono fun e w' h => RdDo.rnd0 h
  refine hse.mono ?_
  clear hse
  generalize ((w.alloc (.cells (rdc p n c s tp n1 tc F1 z lp ln lc M) 36)).alloc (.cells #[.int .i64 (yk : Nat), .int .i64 yi, .slice yq ym ycq, .int .i64 yn] 67)).alloc (.cells rdz 36) = W1 at *
  rintro e w2 ⟨p', c', tp', tc', n5, F5, rfl, H5⟩
  have hn5 : ST.B.length = n5 := H5.out.2.2.2.1
  rw [hn5] at hst HE
  clear hn5
  have hv := H5.out.1
  have hb2 := H5.out.2.2.2.2.2
  clear H5 HSE
  obtain ⟨q0, q1, hb4⟩ := two_boxes w2 #[.slice p' n c', .int .i64 (s : Nat)] #[.slice tp' n5 tc', .int .i64 (F5 : Nat), .int .i64 (z : Nat)] 30 33
  have HV4 := Lib.hid (hv.later hb4)
  have hb24 := hb2.trans (hb4.mono hb2.size)
  have HB24 := Lib.hid hb24
  have HBW4 := Lib.hid (HBW.out.trans (hb24.mono HBW.out.size))
  have hs4 : w.heap.size + 3 ≤ W1.heap.size := by have := HSZ.out; omega
  have x0 := block_cell (j := 0) (block_later H1.out hb24) (v := .int .i64 (yk : Nat)) rfl
  have x1 := block_cell (j := 1) (block_later H1.out hb24) (v := .int .i64 yi) rfl
  have x2 := block_cell (j := 2) (block_later H1.out hb24) (v := .slice yq ym ycq) rfl
  have a6 := block_cell (j := 6) (block_later H0.out hb24) (v := .int .i64 (M : Nat)) rfl
  have HW4 : Hid (W1.heap.size ≤ ((w2.alloc (.cells #[.slice p' n c', .int .i64 (s : Nat)] 30)).alloc (.cells #[.slice tp' n5 tc', .int .i64 (F5 : Nat), .int .i64 (z : Nat)] 33)).heap.size) := Lib.hid hb24.size
  clear hv hb2 hb4 hb24
  by_cases hk0 : yk = 0
  · have f0 : ((yk : Int) == 0) = true := by simp [hk0]
    have f1 : ((yk : Int) == 1) = false := by rw [beq_eq_false_iff_ne]; omega
    have hE := HE.out
    rw [if_pos hk0] at hE
    clear hk0
    go_wp2_with fail
    refine (HPUT.out p' c' _ HBW4.out HV4.out).mono ?_
    rintro e w5 ⟨p5, c5, rfl, _, hb5⟩
    have hb6 : Below w5.heap.size w5 (w5.alloc (.cells #[.slice p5 n c5, .int .i64 (s : Nat)] 30)) := (Below.refl _ _).alloc (Nat.le_refl _) _
    have HB6 := Lib.hid (HB24.out.trans ((hb5.trans (hb6.mono hb5.size)).mono HB24.out.size))
    have x6 := block_cell (j := 0) (block_later H1.out HB6.out) (v := .int .i64 (yk : Nat)) rfl
    clear hb5 hb6 x0 x1 x2 a6
    by_cases hpe : pe = 0
    · have hwe : we = 0 := by rw [hE]; exact hpe
      have f2 : (pe != 0) = false := by simp [hpe]
      clear hE hpe
      have u0 := block_cell (j := 5) (block_later H0.out HB6.out) (v := .slice lp ln lc) rfl
      have HROW : Hid (SlG ewd 4 wd0' (w5.alloc (.cells #[.slice p5 n c5, .int .i64 (s : Nat)] 30)) lp ln lc AL) := Lib.hid (HAL.out.later (HBW.out.trans (HB6.out.mono HBW.out.size)))
      go_wp2_with (at_builtin; refine wpList_append_vals (by decide) Try.underlying34 infoWr rfl (by omega) rfl _ _ rfl (.slice none 0 0) 0 [] rfl (World.ownsRow_nil _ _ _ _) lp ln lc (flatG ewd AL) rfl (slg_news ewd_len (by decide) HROW.out).1 (slg_news ewd_len (by decide) HROW.out).2.1 (slg_news ewd_len (by decide) HROW.out).2.2 (flatG_all ewd_one AL) (by omega) ?_)
      intro p8 c8 W8 g1 g2 g3
      clear u0
      have hb8 : Below W1.heap.size W1 W8 := g2.below HB6.out HB6.out.size fun k hk => by cases hk
      have HB8 := Lib.hid hb8
      have HK8 : Hid (∀ k, (Value.slice p8 ln c8).ownBlock = some k → W1.heap.size ≤ k) := Lib.hid fun k hk => by
        have hk' := g3 k (by simpa using hk)
        rcases hk' with h | h
        · cases h
        · first | exact Nat.le_trans HB6.out.size h | (have h5 := HB6.out.size; simp at h5; omega)
      have HO8 : Hid (∀ o, (W8.alloc o).ownsRow 0 67 4 (.slice p8 ln c8) ln (flatG ewd AL)) := Lib.hid fun o => by
        have g1' : W8.ownsRow 0 67 4 (.slice p8 ln c8) ln (flatG ewd AL) := by simpa using g1
        exact row_keep g1' (Chg.of_below (S := fun _ => False) ((Below.refl _ _).alloc (Nat.le_refl _) o)) fun _ _ h => h
      have HB8o : Hid (∀ o, Below W1.heap.size W1 (W8.alloc o)) := Lib.hid fun o => hb8.alloc hb8.size o
      clear g1 g2 g3 hb8 HROW
      have w0 := block_cell (j := 0) (block_later H1.out HB8.out) (v := .int .i64 (yk : Nat)) rfl
      have w1 := block_cell (j := 1) (block_later H1.out HB8.out) (v := .int .i64 yi) rfl
      have w3 := block_cell (j := 2) (block_later H1.out HB8.out) (v := .slice yq ym ycq) rfl
      have w4 := block_cell (j := 3) (block_later H1.out HB8.out) (v := .int .i64 yn) rfl
      go_wp2_with (at_builtin; refine wpList_append_vals (by decide) Try.underlying34 infoWr rfl (by omega) rfl _ _ rfl (.slice p8 ln c8) ln (flatG ewd AL) rfl (HO8.out _) _ 1 1 [.int .i64 (yk : Nat), .int .i64 yi, .slice yq ym ycq, .int .i64 yn] rfl rfl (fun h => by cases h) (four_new W8.heap.size (by simp) (by simp) (by simp) (by simp)) (four_one yk yi (yq, ym, ycq) yn) (by omega) ?_)
      intro p9 c9 W9 g1 g2 g3
      clear w0 w1 w3 w4
      have hb9 : Below W1.heap.size W1 W9 := g2.below (HB8o.out _) (HB8o.out _).size HK8.out
      have HB9 := Lib.hid hb9
      have HK9 : Hid (∀ k, (Value.slice p9 (ln + 1) c9).ownBlock = some k → w.heap.size + 3 ≤ k) := Lib.hid fun k hk => by
        rcases g3 k hk with h | h
        · exact Nat.le_trans hs4 (HK8.out k h)
        · refine Nat.le_trans hs4 (Nat.le_trans HB8.out.size ?_)
          first | omega | (simp at h; omega)
      have HO9 := Lib.hid g1
      clear g1 g2 g3 hb9
      have gA := block_later H0.out HB9.out
      have gR := block_later H2.out HB9.out
      have b0 := block_cell (j := 0) gA (v := .slice p n c) rfl
      have b1 := block_cell (j := 1) gA (v := .int .i64 (s : Nat)) rfl
      have b2 := block_cell (j := 2) gA (v := .slice tp n1 tc) rfl
      have b3 := block_cell (j := 3) gA (v := .int .i64 (F1 : Nat)) rfl
      have b4 := block_cell (j := 4) gA (v := .int .i64 (z : Nat)) rfl
      have b5 := block_cell (j := 5) gA (v := .slice lp ln lc) rfl
      have b6 := block_cell (j := 6) gA (v := .int .i64 (M : Nat)) rfl
      have y0 := block_cell (j := 0) gR (v := .slice none 0 0) rfl
      have y1 := block_cell (j := 1) gR (v := .int .i64 0) rfl
      have y2 := block_cell (j := 2) gR (v := .slice none 0 0) rfl
      have y3 := block_cell (j := 3) gR (v := .int .i64 0) rfl
      have y4 := block_cell (j := 4) gR (v := .int .i64 0) rfl
      have y5 := block_cell (j := 5) gR (v := .slice none 0 0) rfl
      have y6 := block_cell (j := 6) gR (v := .int .i64 0) rfl
      have z0 := block_free 0 gR
      have z1 := block_free 1 gR
      have z2 := block_free 2 gR
      have z3 := block_free 3 gR
      have z4 := block_free 4 gR
      have z5 := block_free 5 gR
      have z6 := block_free 6 gR
      have HP := Lib.hid (seven_put (.slice p n c) (.int .i64 (s : Nat)) (.slice tp n1 tc) (.int .i64 (F1 : Nat)) (.int .i64 (z : Nat)) (.slice p9 (ln + 1) c9) (.int .i64 (M : Nat)) gR)
      clear gA gR
      go_wp2_with fail
      refine bodyPost_ret (v := .tuple #[.agg (rdc p n c s tp n1 tc F1 z p9 (ln + 1) c9 M), .int .i64 0]) ?_ rfl ?_
      · exact results_rd rfl _ _ (w.heap.size + 1 + 1) _ _ rfl rfl HP.out.1 rfl
      · have hh := HTAIL.out p9 c9 W9 _ hwe (HBW.out.trans (HB9.out.mono HBW.out.size)) (Nat.le_trans hs4 HB9.out.size) (by rw [flatG_append, flatG_one, HEW.out]; exact HO9.out) HK9.out HP.out.2
        exact hh
    · have hwe : we = pe := hE
      have f2 : (pe != 0) = true := by simpa using hpe
      clear hE
      have gA := block_later H0.out HB6.out
      have gR := block_later H2.out HB6.out
      have b0 := block_cell (j := 0) gA (v := .slice p n c) rfl
      have b1 := block_cell (j := 1) gA (v := .int .i64 (s : Nat)) rfl
      have b2 := block_cell (j := 2) gA (v := .slice tp n1 tc) rfl
      have b3 := block_cell (j := 3) gA (v := .int .i64 (F1 : Nat)) rfl
      have b4 := block_cell (j := 4) gA (v := .int .i64 (z : Nat)) rfl
      have b5 := block_cell (j := 5) gA (v := .slice lp ln lc) rfl
      have b6 := block_cell (j := 6) gA (v := .int .i64 (M : Nat)) rfl
      have y0 := block_cell (j := 0) gR (v := .slice none 0 0) rfl
      have y1 := block_cell (j := 1) gR (v := .int .i64 0) rfl
      have y2 := block_cell (j := 2) gR (v := .slice none 0 0) rfl
      have y3 := block_cell (j := 3) gR (v := .int .i64 0) rfl
      have y4 := block_cell (j := 4) gR (v := .int .i64 0) rfl
      have y5 := block_cell (j := 5) gR (v := .slice none 0 0) rfl
      have y6 := block_cell (j := 6) gR (v := .int .i64 0) rfl
      have z0 := block_free 0 gR
      have z1 := block_free 1 gR
      have z2 := block_free 2 gR
      have z3 := block_free 3 gR
      have z4 := block_free 4 gR
      have z5 := block_free 5 gR
      have z6 := block_free 6 gR
      have HP := Lib.hid (seven_put (.slice p n c) (.int .i64 (s : Nat)) (.slice tp n1 tc) (.int .i64 (F1 : Nat)) (.int .i64 (z : Nat)) (.slice lp ln lc) (.int .i64 (M : Nat)) gR)
      clear gA gR
      go_wp2_with fail
      refine bodyPost_ret (v := .tuple #[.agg (rdc p n c s tp n1 tc F1 z lp ln lc M), .int .i64 pe]) ?_ rfl ?_
      · exact results_rd rfl _ _ (w.heap.size + 1 + 1) _ _ rfl rfl HP.out.1 rfl
      · have hh := HERR.out _ _ (by rw [hwe]; omega) (HBW.out.trans (HB6.out.mono HBW.out.size)) (Nat.le_trans hs4 HB6.out.size) HP.out.2
        rw [hwe] at hh ⊢
        exact hh
  · have f0 : ((yk : Int) == 0) = false := by rw [beq_eq_false_iff_ne]; omega
    by_cases hk1 : yk = 1
    · have f1 : ((yk : Int) == 1) = true := by simp [hk1]
      have hE := HE.out
      rw [if_neg hk0, if_pos hk1] at hE
      clear hk0 hk1
      by_cases hbg : 65536 < ym
      · have hwe : we = 7 := by rw [hE, if_pos hbg]
        clear hE
        have gA := block_later H0.out HB24.out
        have gR := block_later H2.out HB24.out
        have b0 := block_cell (j := 0) gA (v := .slice p n c) rfl
        have b1 := block_cell (j := 1) gA (v := .int .i64 (s : Nat)) rfl
        have b2 := block_cell (j := 2) gA (v := .slice tp n1 tc) rfl
        have b3 := block_cell (j := 3) gA (v := .int .i64 (F1 : Nat)) rfl
        have b4 := block_cell (j := 4) gA (v := .int .i64 (z : Nat)) rfl
        have b5 := block_cell (j := 5) gA (v := .slice lp ln lc) rfl
        have b6 := block_cell (j := 6) gA (v := .int .i64 (M : Nat)) rfl
        have y0 := block_cell (j := 0) gR (v := .slice none 0 0) rfl
        have y1 := block_cell (j := 1) gR (v := .int .i64 0) rfl
        have y2 := block_cell (j := 2) gR (v := .slice none 0 0) rfl
        have y3 := block_cell (j := 3) gR (v := .int .i64 0) rfl
        have y4 := block_cell (j := 4) gR (v := .int .i64 0) rfl
        have y5 := block_cell (j := 5) gR (v := .slice none 0 0) rfl
        have y6 := block_cell (j := 6) gR (v := .int .i64 0) rfl
        have z0 := block_free 0 gR
        have z1 := block_free 1 gR
        have z2 := block_free 2 gR
        have z3 := block_free 3 gR
        have z4 := block_free 4 gR
        have z5 := block_free 5 gR
        have z6 := block_free 6 gR
        have HP := Lib.hid (seven_put (.slice p n c) (.int .i64 (s : Nat)) (.slice tp n1 tc) (.int .i64 (F1 : Nat)) (.int .i64 (z : Nat)) (.slice lp ln lc) (.int .i64 (M : Nat)) gR)
        clear gA gR
        go_wp2_with fail
        refine bodyPost_ret (v := .tuple #[.agg (rdc p n c s tp n1 tc F1 z lp ln lc M), .int .i64 7]) ?_ rfl ?_
        · exact results_rd rfl _ _ (w.heap.size + 1 + 1) _ _ rfl rfl HP.out.1 rfl
        · have hh := HERR.out _ _ (by rw [hwe]; omega) (HBW.out.trans (HB24.out.mono HBW.out.size)) (Nat.le_trans hs4 HB24.out.size) HP.out.2
          rw [hwe] at hh ⊢
          exact hh
      · by_cases hmo : (M : Int) < (n5 : Int) + (ym : Int)
        · have hwe : we = 4 := by rw [hE, if_neg hbg, if_pos hmo]
          clear hE
          have gA := block_later H0.out HB24.out
          have gR := block_later H2.out HB24.out
          have b0 := block_cell (j := 0) gA (v := .slice p n c) rfl
          have b1 := block_cell (j := 1) gA (v := .int .i64 (s : Nat)) rfl
          have b2 := block_cell (j := 2) gA (v := .slice tp n1 tc) rfl
          have b3 := block_cell (j := 3) gA (v := .int .i64 (F1 : Nat)) rfl
          have b4 := block_cell (j := 4) gA (v := .int .i64 (z : Nat)) rfl
          have b5 := block_cell (j := 5) gA (v := .slice lp ln lc) rfl
          have b6 := block_cell (j := 6) gA (v := .int .i64 (M : Nat)) rfl
          have y0 := block_cell (j := 0) gR (v := .slice none 0 0) rfl
          have y1 := block_cell (j := 1) gR (v := .int .i64 0) rfl
          have y2 := block_cell (j := 2) gR (v := .slice none 0 0) rfl
          have y3 := block_cell (j := 3) gR (v := .int .i64 0) rfl
          have y4 := block_cell (j := 4) gR (v := .int .i64 0) rfl
          have y5 := block_cell (j := 5) gR (v := .slice none 0 0) rfl
          have y6 := block_cell (j := 6) gR (v := .int .i64 0) rfl
          have z0 := block_free 0 gR
          have z1 := block_free 1 gR
          have z2 := block_free 2 gR
          have z3 := block_free 3 gR
          have z4 := block_free 4 gR
          have z5 := block_free 5 gR
          have z6 := block_free 6 gR
          have HP := Lib.hid (seven_put (.slice p n c) (.int .i64 (s : Nat)) (.slice tp n1 tc) (.int .i64 (F1 : Nat)) (.int .i64 (z : Nat)) (.slice lp ln lc) (.int .i64 (M : Nat)) gR)
          clear gA gR
          go_wp2_with fail
          refine bodyPost_ret (v := .tuple #[.agg (rdc p n c s tp n1 tc F1 z lp ln lc M), .int .i64 4]) ?_ rfl ?_
          · exact results_rd rfl _ _ (w.heap.size + 1 + 1) _ _ rfl rfl HP.out.1 rfl
          · have hh := HERR.out _ _ (by rw [hwe]; omega) (HBW.out.trans (HB24.out.mono HBW.out.size)) (Nat.le_trans hs4 HB24.out.size) HP.out.2
            rw [hwe] at hh ⊢
            exact hh
        · have hwe : we = 0 := by rw [hE, if_neg hbg, if_neg hmo]
          clear hE
          have u0 := block_cell (j := 5) (block_later H0.out HB24.out) (v := .slice lp ln lc) rfl
          have HROW : Hid (SlG ewd 4 wd0' ((w2.alloc (.cells #[.slice p' n c', .int .i64 (s : Nat)] 30)).alloc (.cells #[.slice tp' n5 tc', .int .i64 (F5 : Nat), .int .i64 (z : Nat)] 33)) lp ln lc AL) := Lib.hid (HAL.out.later (HBW.out.trans (HB24.out.mono HBW.out.size)))
          go_wp2_with (at_builtin; refine wpList_append_vals (by decide) Try.underlying34 infoWr rfl (by omega) rfl _ _ rfl (.slice none 0 0) 0 [] rfl (World.ownsRow_nil _ _ _ _) lp ln lc (flatG ewd AL) rfl (slg_news ewd_len (by decide) HROW.out).1 (slg_news ewd_len (by decide) HROW.out).2.1 (slg_news ewd_len (by decide) HROW.out).2.2 (flatG_all ewd_one AL) (by omega) ?_)
          intro p8 c8 W8 g1 g2 g3
          clear u0
          have hb8 : Below W1.heap.size W1 W8 := g2.below HB24.out HB24.out.size fun k hk => by cases hk
          have HB8 := Lib.hid hb8
          have HK8 : Hid (∀ k, (Value.slice p8 ln c8).ownBlock = some k → W1.heap.size ≤ k) := Lib.hid fun k hk => by
            have hk' := g3 k (by simpa using hk)
            rcases hk' with h | h
            · cases h
            · first | exact Nat.le_trans HB24.out.size h | (have h5 := HB24.out.size; simp at h5; omega)
          have HO8 : Hid (∀ o, (W8.alloc o).ownsRow 0 67 4 (.slice p8 ln c8) ln (flatG ewd AL)) := Lib.hid fun o => by
            have g1' : W8.ownsRow 0 67 4 (.slice p8 ln c8) ln (flatG ewd AL) := by simpa using g1
            exact row_keep g1' (Chg.of_below (S := fun _ => False) ((Below.refl _ _).alloc (Nat.le_refl _) o)) fun _ _ h => h
          have HB8o : Hid (∀ o, Below W1.heap.size W1 (W8.alloc o)) := Lib.hid fun o => hb8.alloc hb8.size o
          clear g1 g2 g3 hb8 HROW
          have w0 := block_cell (j := 0) (block_later H1.out HB8.out) (v := .int .i64 (yk : Nat)) rfl
          have w1 := block_cell (j := 1) (block_later H1.out HB8.out) (v := .int .i64 yi) rfl
          have w3 := block_cell (j := 2) (block_later H1.out HB8.out) (v := .slice yq ym ycq) rfl
          have w4 := block_cell (j := 3) (block_later H1.out HB8.out) (v := .int .i64 yn) rfl
          go_wp2_with (at_builtin; refine wpList_append_vals (by decide) Try.underlying34 infoWr rfl (by omega) rfl _ _ rfl (.slice p8 ln c8) ln (flatG ewd AL) rfl (HO8.out _) _ 1 1 [.int .i64 (yk : Nat), .int .i64 yi, .slice yq ym ycq, .int .i64 yn] rfl rfl (fun h => by cases h) (four_new W8.heap.size (by simp) (by simp) (by simp) (by simp)) (four_one yk yi (yq, ym, ycq) yn) (by omega) ?_)
          intro p9 c9 W9 g1 g2 g3
          clear w0 w1 w3 w4
          have hb9 : Below W1.heap.size W1 W9 := g2.below (HB8o.out _) (HB8o.out _).size HK8.out
          have HB9 := Lib.hid hb9
          have HK9 : Hid (∀ k, (Value.slice p9 (ln + 1) c9).ownBlock = some k → w.heap.size + 3 ≤ k) := Lib.hid fun k hk => by
            rcases g3 k hk with h | h
            · exact Nat.le_trans hs4 (HK8.out k h)
            · refine Nat.le_trans hs4 (Nat.le_trans HB8.out.size ?_)
              first | omega | (simp at h; omega)
          have HO9 := Lib.hid g1
          clear g1 g2 g3 hb9
          have gA := block_later H0.out HB9.out
          have gR := block_later H2.out HB9.out
          have b0 := block_cell (j := 0) gA (v := .slice p n c) rfl
          have b1 := block_cell (j := 1) gA (v := .int .i64 (s : Nat)) rfl
          have b2 := block_cell (j := 2) gA (v := .slice tp n1 tc) rfl
          have b3 := block_cell (j := 3) gA (v := .int .i64 (F1 : Nat)) rfl
          have b4 := block_cell (j := 4) gA (v := .int .i64 (z : Nat)) rfl
          have b5 := block_cell (j := 5) gA (v := .slice lp ln lc) rfl
          have b6 := block_cell (j := 6) gA (v := .int .i64 (M : Nat)) rfl
          have y0 := block_cell (j := 0) gR (v := .slice none 0 0) rfl
          have y1 := block_cell (j := 1) gR (v := .int .i64 0) rfl
          have y2 := block_cell (j := 2) gR (v := .slice none 0 0) rfl
          have y3 := block_cell (j := 3) gR (v := .int .i64 0) rfl
          have y4 := block_cell (j := 4) gR (v := .int .i64 0) rfl
          have y5 := block_cell (j := 5) gR (v := .slice none 0 0) rfl
          have y6 := block_cell (j := 6) gR (v := .int .i64 0) rfl
          have z0 := block_free 0 gR
          have z1 := block_free 1 gR
          have z2 := block_free 2 gR
          have z3 := block_free 3 gR
          have z4 := block_free 4 gR
          have z5 := block_free 5 gR
          have z6 := block_free 6 gR
          have HP := Lib.hid (seven_put (.slice p n c) (.int .i64 (s : Nat)) (.slice tp n1 tc) (.int .i64 (F1 : Nat)) (.int .i64 (z : Nat)) (.slice p9 (ln + 1) c9) (.int .i64 (M : Nat)) gR)
          clear gA gR
          go_wp2_with fail
          refine bodyPost_ret (v := .tuple #[.agg (rdc p n c s tp n1 tc F1 z p9 (ln + 1) c9 M), .int .i64 0]) ?_ rfl ?_
          · exact results_rd rfl _ _ (w.heap.size + 1 + 1) _ _ rfl rfl HP.out.1 rfl
          · have hh := HTAIL.out p9 c9 W9 _ hwe (HBW.out.trans (HB9.out.mono HBW.out.size)) (Nat.le_trans hs4 HB9.out.size) (by rw [flatG_append, flatG_one, HEW.out]; exact HO9.out) HK9.out HP.out.2
            exact hh
    · have f1 : ((yk : Int) == 1) = false := by rw [beq_eq_false_iff_ne]; omega
      have hwe : we = 0 := by rw [HE.out, if_neg hk0, if_neg hk1]
      clear hk0 hk1
      have u0 := block_cell (j := 5) (block_later H0.out HB24.out) (v := .slice lp ln lc) rfl
      have HROW : Hid (SlG ewd 4 wd0' ((w2.alloc (.cells #[.slice p' n c', .int .i64 (s : Nat)] 30)).alloc (.cells #[.slice tp' n5 tc', .int .i64 (F5 : Nat), .int .i64 (z : Nat)] 33)) lp ln lc AL) := Lib.hid (HAL.out.later (HBW.out.trans (HB24.out.mono HBW.out.size)))
      go_wp2_with (at_builtin; refine wpList_append_vals (by decide) Try.underlying34 infoWr rfl (by omega) rfl _ _ rfl (.slice none 0 0) 0 [] rfl (World.ownsRow_nil _ _ _ _) lp ln lc (flatG ewd AL) rfl (slg_news ewd_len (by decide) HROW.out).1 (slg_news ewd_len (by decide) HROW.out).2.1 (slg_news ewd_len (by decide) HROW.out).2.2 (flatG_all ewd_one AL) (by omega) ?_)
      intro p8 c8 W8 g1 g2 g3
      clear u0
      have hb8 : Below W1.heap.size W1 W8 := g2.below HB24.out HB24.out.size fun k hk => by cases hk
      have HB8 := Lib.hid hb8
      have HK8 : Hid (∀ k, (Value.slice p8 ln c8).ownBlock = some k → W1.heap.size ≤ k) := Lib.hid fun k hk => by
        have hk' := g3 k (by simpa using hk)
        rcases hk' with h | h
        · cases h
        · first | exact Nat.le_trans HB24.out.size h | (have h5 := HB24.out.size; simp at h5; omega)
      have HO8 : Hid (∀ o, (W8.alloc o).ownsRow 0 67 4 (.slice p8 ln c8) ln (flatG ewd AL)) := Lib.hid fun o => by
        have g1' : W8.ownsRow 0 67 4 (.slice p8 ln c8) ln (flatG ewd AL) := by simpa using g1
        exact row_keep g1' (Chg.of_below (S := fun _ => False) ((Below.refl _ _).alloc (Nat.le_refl _) o)) fun _ _ h => h
      have HB8o : Hid (∀ o, Below W1.heap.size W1 (W8.alloc o)) := Lib.hid fun o => hb8.alloc hb8.size o
      clear g1 g2 g3 hb8 HROW
      have w0 := block_cell (j := 0) (block_later H1.out HB8.out) (v := .int .i64 (yk : Nat)) rfl
      have w1 := block_cell (j := 1) (block_later H1.out HB8.out) (v := .int .i64 yi) rfl
      have w3 := block_cell (j := 2) (block_later H1.out HB8.out) (v := .slice yq ym ycq) rfl
      have w4 := block_cell (j := 3) (block_later H1.out HB8.out) (v := .int .i64 yn) rfl
      go_wp2_with (at_builtin; refine wpList_append_vals (by decide) Try.underlying34 infoWr rfl (by omega) rfl _ _ rfl (.slice p8 ln c8) ln (flatG ewd AL) rfl (HO8.out _) _ 1 1 [.int .i64 (yk : Nat), .int .i64 yi, .slice yq ym ycq, .int .i64 yn] rfl rfl (fun h => by cases h) (four_new W8.heap.size (by simp) (by simp) (by simp) (by simp)) (four_one yk yi (yq, ym, ycq) yn) (by omega) ?_)
      intro p9 c9 W9 g1 g2 g3
      clear w0 w1 w3 w4
      have hb9 : Below W1.heap.size W1 W9 := g2.below (HB8o.out _) (HB8o.out _).size HK8.out
      have HB9 := Lib.hid hb9
      have HK9 : Hid (∀ k, (Value.slice p9 (ln + 1) c9).ownBlock = some k → w.heap.size + 3 ≤ k) := Lib.hid fun k hk => by
        rcases g3 k hk with h | h
        · exact Nat.le_trans hs4 (HK8.out k h)
        · refine Nat.le_trans hs4 (Nat.le_trans HB8.out.size ?_)
          first | omega | (simp at h; omega)
      have HO9 := Lib.hid g1
      clear g1 g2 g3 hb9
      have gA := block_later H0.out HB9.out
      have gR := block_later H2.out HB9.out
      have b0 := block_cell (j := 0) gA (v := .slice p n c) rfl
      have b1 := block_cell (j := 1) gA (v := .int .i64 (s : Nat)) rfl
      have b2 := block_cell (j := 2) gA (v := .slice tp n1 tc) rfl
      have b3 := block_cell (j := 3) gA (v := .int .i64 (F1 : Nat)) rfl
      have b4 := block_cell (j := 4) gA (v := .int .i64 (z : Nat)) rfl
      have b5 := block_cell (j := 5) gA (v := .slice lp ln lc) rfl
      have b6 := block_cell (j := 6) gA (v := .int .i64 (M : Nat)) rfl
      have y0 := block_cell (j := 0) gR (v := .slice none 0 0) rfl
      have y1 := block_cell (j := 1) gR (v := .int .i64 0) rfl
      have y2 := block_cell (j := 2) gR (v := .slice none 0 0) rfl
      have y3 := block_cell (j := 3) gR (v := .int .i64 0) rfl
      have y4 := block_cell (j := 4) gR (v := .int .i64 0) rfl
      have y5 := block_cell (j := 5) gR (v := .slice none 0 0) rfl
      have y6 := block_cell (j := 6) gR (v := .int .i64 0) rfl
      have z0 := block_free 0 gR
      have z1 := block_free 1 gR
      have z2 := block_free 2 gR
      have z3 := block_free 3 gR
      have z4 := block_free 4 gR
      have z5 := block_free 5 gR
      have z6 := block_free 6 gR
      have HP := Lib.hid (seven_put (.slice p n c) (.int .i64 (s : Nat)) (.slice tp n1 tc) (.int .i64 (F1 : Nat)) (.int .i64 (z : Nat)) (.slice p9 (ln + 1) c9) (.int .i64 (M : Nat)) gR)
      clear gA gR
      go_wp2_with fail
      refine bodyPost_ret (v := .tuple #[.agg (rdc p n c s tp n1 tc F1 z p9 (ln + 1) c9 M), .int .i64 0]) ?_ rfl ?_
      · exact results_rd rfl _ _ (w.heap.size + 1 + 1) _ _ rfl rfl HP.out.1 rfl
      · have hh := HTAIL.out p9 c9 W9 _ hwe (HBW.out.trans (HB9.out.mono HBW.out.size)) (Nat.le_trans hs4 HB9.out.size) (by rw [flatG_append, flatG_one, HEW.out]; exact HO9.out) HK9.out HP.out.2
        exact hh
end Go.Proofs.Ytdkpjaobfohdfaa
