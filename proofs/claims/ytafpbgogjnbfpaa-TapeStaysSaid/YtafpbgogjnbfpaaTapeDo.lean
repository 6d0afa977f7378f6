/- An act done to a tape, and to the document's. -/
import Derived.Test.YtafpbgogjnbfpaaTapeAdd
import Derived.Test.YtafpbgogjnbfpaaTapeRefDrop
namespace Go.Proofs.Ytafpbgogjnbfpaa
open Go.RowKit Go.ChangeShapes Go.WideShapes
set_option linter.unusedVariables false
set_option linter.unusedSimpArgs false

/-- What an act leaves: the tape t', all of it in Q' (old or new); the document's r', apart from it. -/
def Did (w : World) (T : Nat) (Q : Nat → Prop) (a : Int) (s sr : Nat) (p : Option Addr) (r t' r' : TS) (e : Ending) (w' : World) : Prop :=
  ∃ p' c' mb', ∃ Q' : Nat → Prop, e = .returned (rv p' r'.B.length c' (r'.f * sr) sr) ∧ Tp w' T mb' Q' a s t' ∧ Rt w' p' c' r'.B ∧ Chg Q w w' ∧ (∀ k, Q' k → Q k ∨ w.heap.size ≤ k) ∧ (∀ k, Q' k → k < w'.heap.size) ∧
    (0 < r'.B.length → ∀ a', p' = some a' → ¬ Q' a'.block ∧ ((∃ a, p = some a ∧ a.block = a'.block ∧ 0 < r.B.length) ∨ w.heap.size ≤ a'.block))
theorem did_end {w W1 w1 w2 : World} {T R : Nat} {mb : Option Nat} {Q Q' : Nat → Prop} {a : Int} {s sr : Nat} {p p' : Option Addr} {c' : Nat} {r t' r' : TS} {a0 a1 a2 : Value} (hQlt : ∀ k, Q k → k < w.heap.size) (hb1 : Below w.heap.size w W1) (hR : w.heap.size ≤ R ∧ R < W1.heap.size)
    (hA : W1.heap[R]? = some (.cells #[a0, a1, a2] 29 (0, 0))) (hc1 : Chg Q W1 w1) (htp : Tp w1 T mb Q' a s t') (hq1 : ∀ k, Q' k → Q k ∨ W1.heap.size ≤ k) (hq2 : ∀ k, Q' k → k < w1.heap.size) (hpQ : 0 < r.B.length → ∀ a, p = some a → ¬ Q a.block ∧ a.block < w.heap.size)
    (hrt : Rt w2 p' c' r'.B) (hblk : 0 < r'.B.length → ∀ a', p' = some a' → (∃ a, p = some a ∧ a.block = a'.block ∧ 0 < r.B.length) ∨ w1.heap.size ≤ a'.block) (hb2 : Below w1.heap.size w1 w2) {F' n' : Nat} (hF : F' = r'.f * sr) (hn : n' = r'.B.length) :
    (w2.heap[R]? = some (.cells #[a0, a1, a2] 29 (0, 0)) ∧ (((w2.setCell ⟨R, 0, none⟩ (.slice p' n' c')).setCell ⟨R, 1, none⟩ (.int .i64 (F' : Nat))).setCell ⟨R, 2, none⟩ (.int .i64 (sr : Nat))).heap[R]? = some (.cells #[.slice p' n' c', .int .i64 (F' : Nat), .int .i64 (sr : Nat)] 29 (0, 0))) ∧
    Did w T Q a s sr p r t' r' (.returned (rv p' n' c' F' sr)) (((w2.setCell ⟨R, 0, none⟩ (.slice p' n' c')).setCell ⟨R, 1, none⟩ (.int .i64 (F' : Nat))).setCell ⟨R, 2, none⟩ (.int .i64 (sr : Nat))) := by
  subst hF hn
  have hRQ : ¬ Q R := fun h => by have := hQlt R h; omega
  have hRQ' : ¬ Q' R := fun h => by
    rcases hq1 R h with h' | h'
    · exact hRQ h'
    · omega
  have hA1 := (hc1.block R hR.2 hRQ).trans hA
  have hA2 := block_later hA1 hb2
  have hs1 := hb1.size
  have hs2 := hc1.size
  have hs3 := hb2.size
  have e1 := block_put 2 (.int .i64 (sr : Nat)) (block_put 1 (.int .i64 (r'.f * sr : Nat)) (block_put 0 (.slice p' r'.B.length c') hA2))
  have e3 : Chg (fun k => k = R) w2 (((w2.setCell ⟨R, 0, none⟩ (.slice p' r'.B.length c')).setCell ⟨R, 1, none⟩ (.int .i64 (r'.f * sr : Nat))).setCell ⟨R, 2, none⟩ (.int .i64 (sr : Nat))) := (((Chg.refl (fun k => k = R) w2).setCell ⟨R, 0, none⟩ _ fun _ => rfl).setCell ⟨R, 1, none⟩ _ fun _ => rfl).setCell ⟨R, 2, none⟩ _ fun _ => rfl
  refine ⟨⟨hA2, e1⟩, p', c', mb, Q', rfl, (htp.later hb2).keep e3 (fun k hk e => hRQ' (by rw [← e]; exact hk)), hrt.keep e3 fun h0 ad ha e => ?_, ?_, fun k hk => ?_, fun k hk => ?_, fun h0 ad ha => ⟨fun hq => ?_, ?_⟩⟩
  · rcases hblk h0 ad ha with ⟨a9, h9, h8, h7⟩ | h
    · have := (hpQ h7 a9 h9).2
      omega
    · omega
  · have h1 : Chg Q w W1 := Chg.of_below hb1
    have h2 := h1.trans hc1 fun k _ h => h
    have h3 := h2.trans (Chg.of_below (S := Q) hb2) fun k _ h => h
    exact h3.trans e3 fun k hk e => by omega
  · rcases hq1 k hk with h | h
    · exact .inl h
    · exact .inr (by omega)
  · have := hq2 k hk
    have := e3.size
    omega
  · rcases hblk h0 ad ha with ⟨a9, h9, h8, h7⟩ | h
    · obtain ⟨h5, h6⟩ := hpQ h7 a9 h9
      rw [h8] at h5 h6
      rcases hq1 _ hq with h' | h'
      · exact h5 h'
      · omega
    · have := hq2 _ hq
      omega
  · rcases hblk h0 ad ha with h | h
    · exact .inl h
    · exact .inr (by omega)
/-- The three blocks that it lays. -/
theorem do_three (w : World) (u0 u1 u2 v0 v1 v2 : Value) :
    ((((w.alloc (.cells #[u0, u1, u2] 29)).alloc (.cells #[v0, v1, v2] 33)).alloc (.cells #[.slice none 0 0, .int .i64 0, .int .i64 0] 29)).heap[w.heap.size]? = some (.cells #[u0, u1, u2] 29 (0, 0)) ∧
    (((w.alloc (.cells #[u0, u1, u2] 29)).alloc (.cells #[v0, v1, v2] 33)).alloc (.cells #[.slice none 0 0, .int .i64 0, .int .i64 0] 29)).heap[w.heap.size + 1]? = some (.cells #[v0, v1, v2] 33 (0, 0)) ∧
    (((w.alloc (.cells #[u0, u1, u2] 29)).alloc (.cells #[v0, v1, v2] 33)).alloc (.cells #[.slice none 0 0, .int .i64 0, .int .i64 0] 29)).heap[w.heap.size + 1 + 1]? = some (.cells #[.slice none 0 0, .int .i64 0, .int .i64 0] 29 (0, 0))) ∧
    Below w.heap.size w (((w.alloc (.cells #[u0, u1, u2] 29)).alloc (.cells #[v0, v1, v2] 33)).alloc (.cells #[.slice none 0 0, .int .i64 0, .int .i64 0] 29)) ∧
    (((w.alloc (.cells #[u0, u1, u2] 29)).alloc (.cells #[v0, v1, v2] 33)).alloc (.cells #[.slice none 0 0, .int .i64 0, .int .i64 0] 29)).heap.size = w.heap.size + 3 := by
  have hs : (w.alloc (.cells #[u0, u1, u2] 29)).heap.size = w.heap.size + 1 := by simp
  have hs2 : ((w.alloc (.cells #[u0, u1, u2] 29)).alloc (.cells #[v0, v1, v2] 33)).heap.size = w.heap.size + 1 + 1 := by simp
  have h1 := alloc_block w (.cells #[u0, u1, u2] 29)
  have h2 := alloc_block (w.alloc (.cells #[u0, u1, u2] 29)) (.cells #[v0, v1, v2] 33)
  have h3 := alloc_block ((w.alloc (.cells #[u0, u1, u2] 29)).alloc (.cells #[v0, v1, v2] 33)) (.cells #[.slice none 0 0, .int .i64 0, .int .i64 0] 29)
  rw [hs] at h2
  rw [hs2] at h3
  have b1 : Below (w.alloc (.cells #[u0, u1, u2] 29)).heap.size (w.alloc (.cells #[u0, u1, u2] 29)) ((w.alloc (.cells #[u0, u1, u2] 29)).alloc (.cells #[v0, v1, v2] 33)) := (Below.refl _ _).alloc (Nat.le_refl _) _
  have b2 : Below ((w.alloc (.cells #[u0, u1, u2] 29)).alloc (.cells #[v0, v1, v2] 33)).heap.size ((w.alloc (.cells #[u0, u1, u2] 29)).alloc (.cells #[v0, v1, v2] 33)) (((w.alloc (.cells #[u0, u1, u2] 29)).alloc (.cells #[v0, v1, v2] 33)).alloc (.cells #[.slice none 0 0, .int .i64 0, .int .i64 0] 29)) := (Below.refl _ _).alloc (Nat.le_refl _) _
  exact ⟨⟨block_later (block_later h1 b1) b2, block_later h2 b2, h3⟩, (((Below.refl _ _).alloc (Nat.le_refl _) _).alloc (by omega) _).alloc (by omega) _, by simp⟩
section
variable {w : World} {T : Nat} {mb : Option Nat} {Q : Nat → Prop} {a : Int} {s : Nat} {t : TS}
set_option maxHeartbeats 1000000 in
set_option maxRecDepth 100000 in
theorem do_drop (h : Tp w T mb Q a s t) (hQlt : ∀ k, Q k → k < w.heap.size) (p : Option Addr) (c sr : Nat) (r : TS) (hr : Rt w p c r.B) (hpQ : 0 < r.B.length → ∀ a, p = some a → ¬ Q a.block) (hsr : 64 ≤ sr ∧ sr ≤ 4096) (k : Nat) (hk : k < 256) (q : Option Addr) (m cq : Nat) (b : List Int) (x : Int) (hq : BL w q m cq b) (hqQ : 0 < m → ∀ a, q = some a → ¬ Q a.block)
    (hbig : t.f * s + t.B.length + m ≤ 1000000) (hbr : r.f * sr + r.B.length + m ≤ 1000000) (hkind : k % 4 = 2) : Calls Try.prog 11 #[.pointer (some ⟨T, 0, none⟩), rv p r.B.length c (r.f * sr) sr, .agg #[.int .u8 (k : Nat), .slice q m cq, .int .i64 x]] w (Did w T Q a s sr p r (dropT s t x) (dropT sr r x)) := by
  obtain ⟨⟨h4, h5, h6⟩, hbw, hsz⟩ := do_three w (.slice p r.B.length c) (.int .i64 (r.f * sr : Nat)) (.int .i64 (sr : Nat)) (.int .u8 (k : Nat)) (.slice q m cq) (.int .i64 x)
  have HPQ : Hid (0 < r.B.length → ∀ a, p = some a → ¬ Q a.block ∧ a.block < w.heap.size) := Lib.hid fun h0 ad ha => ⟨hpQ h0 ad ha, hr.lt h0 ad ha⟩
  have HQLT := Lib.hid hQlt
  have HR := Lib.hid (hr.later hbw)
  have HQQ := Lib.hid hqQ
  have HBQ := Lib.hid (SlG.later hq hbw)
  have HCALL := Lib.hid (tape_drop (h.later hbw) x (by omega))
  have HREF := Lib.hid fun (w1 : World) (hr1 : Rt w1 p c r.B) (hq1 : BL w1 q m cq b) => refdrop_any p c sr r x w1 hr1 hsr (by omega)
  have HTN : Hid (dropT s t x = dropT s t x) := Lib.hid rfl
  have H4 := Lib.hid h4
  have H5 := Lib.hid h5
  have H6 := Lib.hid h6
  have HBW := Lib.hid hbw
  have HSZ := Lib.hid hsz
  have hk4 : (k : Int) % 4 = ((k % 4 : Nat) : Int) := by omega
  have hk5 : (k : Int).tmod 4 = ((k % 4 : Nat) : Int) := by rw [Int.tmod_eq_emod_of_nonneg (by omega)]; exact hk4
  generalize hkk : k % 4 = kk at *
  have hw8 : IntKind.u8.wrap (kk : Int) = (kk : Int) := by rw [IntKind.wrap_u8]; omega
  have x0 := block_cell (j := 0) h4 (v := .slice p r.B.length c) rfl
  have x1 := block_cell (j := 1) h4 (v := .int .i64 (r.f * sr : Nat)) rfl
  have x2 := block_cell (j := 2) h4 (v := .int .i64 (sr : Nat)) rfl
  have y0 := block_cell (j := 0) h5 (v := .int .u8 (k : Nat)) rfl
  have y1 := block_cell (j := 1) h5 (v := .slice q m cq) rfl
  have y2 := block_cell (j := 2) h5 (v := .int .i64 x) rfl
  have hGONE := HPQ
  clear hGONE h4 h5 h6 hbw h hQlt hr hpQ hq hqQ hsz hkk
  unfold rv
  generalize hn : r.B.length = n at *
  have HN := Lib.hid hn
  generalize hF : r.f * sr = F at *
  have HF := Lib.hid hF
  generalize hX : w.heap.size = X at *
  have HX := Lib.hid hX
  generalize hW1 : ((w.alloc (.cells #[.slice p n c, .int .i64 (F : Nat), .int .i64 (sr : Nat)] 29)).alloc (.cells #[.int .u8 (k : Nat), .slice q m cq, .int .i64 x] 33)).alloc (.cells #[.slice none 0 0, .int .i64 0, .int .i64 0] 29) = W1 at *
  clear hn hF
  obtain rfl : kk = 2 := hkind
  go_enter Try.func11, Try.ntmps11
  go_wp2_with fail
  clear x0 x1 x2 y0 y1 y2
  refine HCALL.out.mono ?_
  rintro e w1 ⟨rfl, htp, hc1⟩
  have hXQ : ∀ j, X ≤ j → ¬ Q j := fun j hj h => by have := HQLT.out j h; omega
  have hsz := HSZ.out
  have h4 := (hc1.block X (block_lt H4.out) (hXQ X (Nat.le_refl _))).trans H4.out
  have h5 := (hc1.block (X + 1) (block_lt H5.out) (hXQ (X + 1) (by omega))).trans H5.out
  have x0 := block_cell (j := 0) h4 (v := .slice p n c) rfl
  have x1 := block_cell (j := 1) h4 (v := .int .i64 (F : Nat)) rfl
  have x2 := block_cell (j := 2) h4 (v := .int .i64 (sr : Nat)) rfl
  have y1 := block_cell (j := 1) h5 (v := .slice q m cq) rfl
  have y2 := block_cell (j := 2) h5 (v := .int .i64 x) rfl
  have hr1 : Rt w1 p c r.B := HR.out.keep hc1 fun h0 ad ha => (HPQ.out (by rw [← HN.out]; exact h0) ad ha).1
  have hq1 := BL.keep HBQ.out hc1 HQQ.out
  have HC1 := Lib.hid hc1
  have HTP := Lib.hid htp
  have hrf := HREF.out w1 hr1 hq1
  clear hc1 htp h4 h5 hr1 hq1
  go_wp2_with fail
  refine hrf.mono ?_
  rintro e w2 ⟨p', c', he, hrt, hblk, hb2⟩
  obtain ⟨n', hn'⟩ : ∃ n', n' = (dropT sr r x).B.length := ⟨_, rfl⟩
  obtain ⟨F', hF'⟩ : ∃ F', F' = (dropT sr r x).f * sr := ⟨_, rfl⟩
  rw [← hn', ← hF'] at he
  subst he
  subst hX
  obtain ⟨⟨hA2, hA3⟩, hdid⟩ := did_end (R := w.heap.size + 1 + 1) HQLT.out HBW.out ⟨by omega, by omega⟩ H6.out HC1.out HTP.out (fun k hk => .inl hk) (fun k hk => by have := HQLT.out k hk; have := HC1.out.size; omega) (by rw [HN.out]; exact HPQ.out) hrt hblk hb2 hF' hn'
  have z0 := block_cell (j := 0) hA2 (v := .slice none 0 0) rfl
  have z1 := block_cell (j := 1) hA2 (v := .int .i64 0) rfl
  have z2 := block_cell (j := 2) hA2 (v := .int .i64 0) rfl
  have f0 := block_free 0 hA2
  have f1 := block_free 1 hA2
  have f2 := block_free 2 hA2
  have HA3 := Lib.hid hA3
  have HDID := Lib.hid hdid
  clear hA2 hA3 hdid
  clear hF' hn'
  go_wp2_with fail
  refine bodyPost_ret (v := rv p' n' c' F' sr) ?_ rfl ?_
  rotate_left
  · exact HDID.out
  exact results_cell_row rfl _ _ (w.heap.size + 1 + 1) 29 _ (0, 0) _ rfl HA3.out Try.underlying29 rfl (by kernel_rfl)
set_option maxHeartbeats 1000000 in
set_option maxRecDepth 100000 in
theorem do_cut (h : Tp w T mb Q a s t) (hQlt : ∀ k, Q k → k < w.heap.size) (p : Option Addr) (c sr : Nat) (r : TS) (hr : Rt w p c r.B) (hpQ : 0 < r.B.length → ∀ a, p = some a → ¬ Q a.block) (hsr : 64 ≤ sr ∧ sr ≤ 4096) (k : Nat) (hk : k < 256) (q : Option Addr) (m cq : Nat) (b : List Int) (x : Int) (hq : BL w q m cq b) (hqQ : 0 < m → ∀ a, q = some a → ¬ Q a.block)
    (hbig : t.f * s + t.B.length + m ≤ 1000000) (hbr : r.f * sr + r.B.length + m ≤ 1000000) (hkind : k % 4 = 3) : Calls Try.prog 11 #[.pointer (some ⟨T, 0, none⟩), rv p r.B.length c (r.f * sr) sr, .agg #[.int .u8 (k : Nat), .slice q m cq, .int .i64 x]] w (Did w T Q a s sr p r (cutT s t x) (cutT sr r x)) := by
  obtain ⟨⟨h4, h5, h6⟩, hbw, hsz⟩ := do_three w (.slice p r.B.length c) (.int .i64 (r.f * sr : Nat)) (.int .i64 (sr : Nat)) (.int .u8 (k : Nat)) (.slice q m cq) (.int .i64 x)
  have HPQ : Hid (0 < r.B.length → ∀ a, p = some a → ¬ Q a.block ∧ a.block < w.heap.size) := Lib.hid fun h0 ad ha => ⟨hpQ h0 ad ha, hr.lt h0 ad ha⟩
  have HQLT := Lib.hid hQlt
  have HR := Lib.hid (hr.later hbw)
  have HQQ := Lib.hid hqQ
  have HBQ := Lib.hid (SlG.later hq hbw)
  have HCALL := Lib.hid (tape_cut (h.later hbw) x (by omega))
  have HREF := Lib.hid fun (w1 : World) (hr1 : Rt w1 p c r.B) (hq1 : BL w1 q m cq b) => refcut_any p c sr r x w1 hr1 (by omega)
  have HTN : Hid (cutT s t x = cutT s t x) := Lib.hid rfl
  have H4 := Lib.hid h4
  have H5 := Lib.hid h5
  have H6 := Lib.hid h6
  have HBW := Lib.hid hbw
  have HSZ := Lib.hid hsz
  have hk4 : (k : Int) % 4 = ((k % 4 : Nat) : Int) := by omega
  have hk5 : (k : Int).tmod 4 = ((k % 4 : Nat) : Int) := by rw [Int.tmod_eq_emod_of_nonneg (by omega)]; exact hk4
  generalize hkk : k % 4 = kk at *
  have hw8 : IntKind.u8.wrap (kk : Int) = (kk : Int) := by rw [IntKind.wrap_u8]; omega
  have x0 := block_cell (j := 0) h4 (v := .slice p r.B.length c) rfl
  have x1 := block_cell (j := 1) h4 (v := .int .i64 (r.f * sr : Nat)) rfl
  have x2 := block_cell (j := 2) h4 (v := .int .i64 (sr : Nat)) rfl
  have y0 := block_cell (j := 0) h5 (v := .int .u8 (k : Nat)) rfl
  have y1 := block_cell (j := 1) h5 (v := .slice q m cq) rfl
  have y2 := block_cell (j := 2) h5 (v := .int .i64 x) rfl
  have hGONE := HPQ
  clear hGONE h4 h5 h6 hbw h hQlt hr hpQ hq hqQ hsz hkk
  unfold rv
  generalize hn : r.B.length = n at *
  have HN := Lib.hid hn
  generalize hF : r.f * sr = F at *
  have HF := Lib.hid hF
  generalize hX : w.heap.size = X at *
  have HX := Lib.hid hX
  generalize hW1 : ((w.alloc (.cells #[.slice p n c, .int .i64 (F : Nat), .int .i64 (sr : Nat)] 29)).alloc (.cells #[.int .u8 (k : Nat), .slice q m cq, .int .i64 x] 33)).alloc (.cells #[.slice none 0 0, .int .i64 0, .int .i64 0] 29) = W1 at *
  clear hn hF
  obtain rfl : kk = 3 := hkind
  go_enter Try.func11, Try.ntmps11
  go_wp2_with fail
  clear x0 x1 x2 y0 y1 y2
  refine HCALL.out.mono ?_
  rintro e w1 ⟨rfl, htp, hc1⟩
  have hXQ : ∀ j, X ≤ j → ¬ Q j := fun j hj h => by have := HQLT.out j h; omega
  have hsz := HSZ.out
  have h4 := (hc1.block X (block_lt H4.out) (hXQ X (Nat.le_refl _))).trans H4.out
  have h5 := (hc1.block (X + 1) (block_lt H5.out) (hXQ (X + 1) (by omega))).trans H5.out
  have x0 := block_cell (j := 0) h4 (v := .slice p n c) rfl
  have x1 := block_cell (j := 1) h4 (v := .int .i64 (F : Nat)) rfl
  have x2 := block_cell (j := 2) h4 (v := .int .i64 (sr : Nat)) rfl
  have y1 := block_cell (j := 1) h5 (v := .slice q m cq) rfl
  have y2 := block_cell (j := 2) h5 (v := .int .i64 x) rfl
  have hr1 : Rt w1 p c r.B := HR.out.keep hc1 fun h0 ad ha => (HPQ.out (by rw [← HN.out]; exact h0) ad ha).1
  have hq1 := BL.keep HBQ.out hc1 HQQ.out
  have HC1 := Lib.hid hc1
  have HTP := Lib.hid htp
  have hrf := HREF.out w1 hr1 hq1
  clear hc1 htp h4 h5 hr1 hq1
  go_wp2_with fail
  refine hrf.mono ?_
  rintro e w2 ⟨p', c', he, hrt, hblk, hb2⟩
  obtain ⟨n', hn'⟩ : ∃ n', n' = (cutT sr r x).B.length := ⟨_, rfl⟩
  obtain ⟨F', hF'⟩ : ∃ F', F' = (cutT sr r x).f * sr := ⟨_, rfl⟩
  rw [← hn', ← hF'] at he
  subst he
  subst hX
  obtain ⟨⟨hA2, hA3⟩, hdid⟩ := did_end (R := w.heap.size + 1 + 1) HQLT.out HBW.out ⟨by omega, by omega⟩ H6.out HC1.out HTP.out (fun k hk => .inl hk) (fun k hk => by have := HQLT.out k hk; have := HC1.out.size; omega) (by rw [HN.out]; exact HPQ.out) hrt hblk hb2 hF' hn'
  have z0 := block_cell (j := 0) hA2 (v := .slice none 0 0) rfl
  have z1 := block_cell (j := 1) hA2 (v := .int .i64 0) rfl
  have z2 := block_cell (j := 2) hA2 (v := .int .i64 0) rfl
  have f0 := block_free 0 hA2
  have f1 := block_free 1 hA2
  have f2 := block_free 2 hA2
  have HA3 := Lib.hid hA3
  have HDID := Lib.hid hdid
  clear hA2 hA3 hdid
  clear hF' hn'
  go_wp2_with fail
  refine bodyPost_ret (v := rv p' n' c' F' sr) ?_ rfl ?_
  rotate_left
  · exact HDID.out
  exact results_cell_row rfl _ _ (w.heap.size + 1 + 1) 29 _ (0, 0) _ rfl HA3.out Try.underlying29 rfl (by kernel_rfl)
set_option maxHeartbeats 1000000 in
set_option maxRecDepth 100000 in
theorem do_add (h : Tp w T mb Q a s t) (hQlt : ∀ k, Q k → k < w.heap.size) (p : Option Addr) (c sr : Nat) (r : TS) (hr : Rt w p c r.B) (hpQ : 0 < r.B.length → ∀ a, p = some a → ¬ Q a.block) (hsr : 64 ≤ sr ∧ sr ≤ 4096) (k : Nat) (hk : k < 256) (q : Option Addr) (m cq : Nat) (b : List Int) (x : Int) (hq : BL w q m cq b) (hqQ : 0 < m → ∀ a, q = some a → ¬ Q a.block)
    (hbig : t.f * s + t.B.length + m ≤ 1000000) (hbr : r.f * sr + r.B.length + m ≤ 1000000) (hkind : ¬ k % 4 = 2 ∧ ¬ k % 4 = 3) : Calls Try.prog 11 #[.pointer (some ⟨T, 0, none⟩), rv p r.B.length c (r.f * sr) sr, .agg #[.int .u8 (k : Nat), .slice q m cq, .int .i64 x]] w (Did w T Q a s sr p r (appT t b) (appT r b)) := by
  obtain ⟨⟨h4, h5, h6⟩, hbw, hsz⟩ := do_three w (.slice p r.B.length c) (.int .i64 (r.f * sr : Nat)) (.int .i64 (sr : Nat)) (.int .u8 (k : Nat)) (.slice q m cq) (.int .i64 x)
  have HPQ : Hid (0 < r.B.length → ∀ a, p = some a → ¬ Q a.block ∧ a.block < w.heap.size) := Lib.hid fun h0 ad ha => ⟨hpQ h0 ad ha, hr.lt h0 ad ha⟩
  have HQLT := Lib.hid hQlt
  have HR := Lib.hid (hr.later hbw)
  have HQQ := Lib.hid hqQ
  have HBQ := Lib.hid (SlG.later hq hbw)
  have HCALL := Lib.hid (tape_add (h.later hbw) q m cq b (SlG.later hq hbw) hqQ hbig)
  have HREF := Lib.hid fun (w1 : World) (hr1 : Rt w1 p c r.B) (hq1 : BL w1 q m cq b) => refapp_any p c sr r q m cq b w1 hr1 hq1 (by omega)
  have HTN : Hid (appT t b = appT t b) := Lib.hid rfl
  have H4 := Lib.hid h4
  have H5 := Lib.hid h5
  have H6 := Lib.hid h6
  have HBW := Lib.hid hbw
  have HSZ := Lib.hid hsz
  have hk4 : (k : Int) % 4 = ((k % 4 : Nat) : Int) := by omega
  have hk5 : (k : Int).tmod 4 = ((k % 4 : Nat) : Int) := by rw [Int.tmod_eq_emod_of_nonneg (by omega)]; exact hk4
  generalize hkk : k % 4 = kk at *
  have hw8 : IntKind.u8.wrap (kk : Int) = (kk : Int) := by rw [IntKind.wrap_u8]; omega
  have x0 := block_cell (j := 0) h4 (v := .slice p r.B.length c) rfl
  have x1 := block_cell (j := 1) h4 (v := .int .i64 (r.f * sr : Nat)) rfl
  have x2 := block_cell (j := 2) h4 (v := .int .i64 (sr : Nat)) rfl
  have y0 := block_cell (j := 0) h5 (v := .int .u8 (k : Nat)) rfl
  have y1 := block_cell (j := 1) h5 (v := .slice q m cq) rfl
  have y2 := block_cell (j := 2) h5 (v := .int .i64 x) rfl
  have hGONE := HPQ
  clear hGONE h4 h5 h6 hbw h hQlt hr hpQ hq hqQ hsz hkk
  unfold rv
  generalize hn : r.B.length = n at *
  have HN := Lib.hid hn
  generalize hF : r.f * sr = F at *
  have HF := Lib.hid hF
  generalize hX : w.heap.size = X at *
  have HX := Lib.hid hX
  generalize hW1 : ((w.alloc (.cells #[.slice p n c, .int .i64 (F : Nat), .int .i64 (sr : Nat)] 29)).alloc (.cells #[.int .u8 (k : Nat), .slice q m cq, .int .i64 x] 33)).alloc (.cells #[.slice none 0 0, .int .i64 0, .int .i64 0] 29) = W1 at *
  clear hn hF
  obtain ⟨hk2, hk3⟩ := hkind
  have hk2' : ¬ (kk : Int) = 2 := by omega
  have hk3' : ¬ (kk : Int) = 3 := by omega
  go_enter Try.func11, Try.ntmps11
  go_wp2_with fail
  clear x0 x1 x2 y0 y1 y2
  refine HCALL.out.mono ?_
  rintro e w1 ⟨rfl, ⟨mb', htp0⟩, hc1⟩
  have htp := htp0.mono (R := fun k => (Q k ∨ W1.heap.size ≤ k) ∧ k < w1.heap.size) fun k hk hl => ⟨hk, hl⟩
  clear htp0
  have hXQ : ∀ j, X ≤ j → ¬ Q j := fun j hj h => by have := HQLT.out j h; omega
  have hsz := HSZ.out
  have h4 := (hc1.block X (block_lt H4.out) (hXQ X (Nat.le_refl _))).trans H4.out
  have h5 := (hc1.block (X + 1) (block_lt H5.out) (hXQ (X + 1) (by omega))).trans H5.out
  have x0 := block_cell (j := 0) h4 (v := .slice p n c) rfl
  have x1 := block_cell (j := 1) h4 (v := .int .i64 (F : Nat)) rfl
  have x2 := block_cell (j := 2) h4 (v := .int .i64 (sr : Nat)) rfl
  have y1 := block_cell (j := 1) h5 (v := .slice q m cq) rfl
  have y2 := block_cell (j := 2) h5 (v := .int .i64 x) rfl
  have hr1 : Rt w1 p c r.B := HR.out.keep hc1 fun h0 ad ha => (HPQ.out (by rw [← HN.out]; exact h0) ad ha).1
  have hq1 := BL.keep HBQ.out hc1 HQQ.out
  have HC1 := Lib.hid hc1
  have HTP := Lib.hid htp
  have hrf := HREF.out w1 hr1 hq1
  clear hc1 htp h4 h5 hr1 hq1
  go_wp2_with fail
  refine hrf.mono ?_
  rintro e w2 ⟨p', c', he, hrt, hblk, hb2⟩
  obtain ⟨n', hn'⟩ : ∃ n', n' = (appT r b).B.length := ⟨_, rfl⟩
  obtain ⟨F', hF'⟩ : ∃ F', F' = (appT r b).f * sr := ⟨_, rfl⟩
  rw [← hn', ← hF'] at he
  subst he
  subst hX
  obtain ⟨⟨hA2, hA3⟩, hdid⟩ := did_end (R := w.heap.size + 1 + 1) HQLT.out HBW.out ⟨by omega, by omega⟩ H6.out HC1.out HTP.out (fun k hk => hk.1) (fun k hk => hk.2) (by rw [HN.out]; exact HPQ.out) hrt hblk hb2 hF' hn'
  have z0 := block_cell (j := 0) hA2 (v := .slice none 0 0) rfl
  have z1 := block_cell (j := 1) hA2 (v := .int .i64 0) rfl
  have z2 := block_cell (j := 2) hA2 (v := .int .i64 0) rfl
  have f0 := block_free 0 hA2
  have f1 := block_free 1 hA2
  have f2 := block_free 2 hA2
  have HA3 := Lib.hid hA3
  have HDID := Lib.hid hdid
  clear hA2 hA3 hdid
  clear hF' hn'
  go_wp2_with fail
  refine bodyPost_ret (v := rv p' n' c' F' sr) ?_ rfl ?_
  rotate_left
  · exact HDID.out
  exact results_cell_row rfl _ _ (w.heap.size + 1 + 1) 29 _ (0, 0) _ rfl HA3.out Try.underlying29 rfl (by kernel_rfl)
theorem do_any (h : Tp w T mb Q a s t) (hQlt : ∀ k, Q k → k < w.heap.size) (p : Option Addr) (c sr : Nat) (r : TS) (hr : Rt w p c r.B) (hpQ : 0 < r.B.length → ∀ a, p = some a → ¬ Q a.block) (hsr : 64 ≤ sr ∧ sr ≤ 4096) (k : Nat) (hk : k < 256) (q : Option Addr) (m cq : Nat) (b : List Int) (x : Int) (hq : BL w q m cq b) (hqQ : 0 < m → ∀ a, q = some a → ¬ Q a.block)
    (hbig : t.f * s + t.B.length + m ≤ 1000000) (hbr : r.f * sr + r.B.length + m ≤ 1000000) : Calls Try.prog 11 #[.pointer (some ⟨T, 0, none⟩), rv p r.B.length c (r.f * sr) sr, .agg #[.int .u8 (k : Nat), .slice q m cq, .int .i64 x]] w (Did w T Q a s sr p r (actT s t k b x) (actT sr r k b x)) := by
  unfold actT
  by_cases h2 : k % 4 = 2
  · rw [if_pos h2, if_pos h2]
    exact do_drop h hQlt p c sr r hr hpQ hsr k hk q m cq b x hq hqQ hbig hbr h2
  · rw [if_neg h2, if_neg h2]
    by_cases h3 : k % 4 = 3
    · rw [if_pos h3, if_pos h3]
      exact do_cut h hQlt p c sr r hr hpQ hsr k hk q m cq b x hq hqQ hbig hbr h3
    · rw [if_neg h3, if_neg h3]
      exact do_add h hQlt p c sr r hr hpQ hsr k hk q m cq b x hq hqQ hbig hbr ⟨h2, h3⟩
end
end Go.Proofs.Ytafpbgogjnbfpaa
