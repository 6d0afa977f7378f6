/- An act done to a volume of the program's, and to the document's. -/
import Derived.Test.YtdocnmgbbfgdoaaVolDo
namespace Go.Proofs.Ytdocnmgbbfgdoaa
open Go.RowKit Go.ChangeShapes Go.WideShapes
set_option linter.unusedVariables false
set_option linter.unusedSimpArgs false

/-- The three blocks that do makes first. -/
theorem three_blocks (w : World) (a b c : Obj) : ((((w.alloc a).alloc b).alloc c).heap[w.heap.size]? = some a ∧ (((w.alloc a).alloc b).alloc c).heap[w.heap.size + 1]? = some b ∧ (((w.alloc a).alloc b).alloc c).heap[w.heap.size + 1 + 1]? = some c) ∧ Below w.heap.size w (((w.alloc a).alloc b).alloc c) ∧ (((w.alloc a).alloc b).alloc c).heap.size = w.heap.size + 1 + 1 + 1 := by
  have s1 : (w.alloc a).heap.size = w.heap.size + 1 := by simp
  have s2 : ((w.alloc a).alloc b).heap.size = w.heap.size + 1 + 1 := by simp
  have h1 := alloc_block w a
  have h2 := alloc_block (w.alloc a) b
  have h3 := alloc_block ((w.alloc a).alloc b) c
  have b2 : Below (w.alloc a).heap.size (w.alloc a) ((w.alloc a).alloc b) := (Below.refl _ _).alloc (Nat.le_refl _) _
  have b3 : Below ((w.alloc a).alloc b).heap.size ((w.alloc a).alloc b) (((w.alloc a).alloc b).alloc c) := (Below.refl _ _).alloc (Nat.le_refl _) _
  refine ⟨⟨block_later (block_later h1 b2) b3, ?_, ?_⟩, ((((Below.refl _ _).alloc (Nat.le_refl _) _).alloc (by simp) _).alloc (by simp; omega) _), by simp⟩
  · rw [← s1]; exact block_later h2 b3
  · rw [← s2]; exact h3
theorem cell_far2 {w : World} {R k j : Nat} {u v x : Value} (h : k ≠ R) (hc : w.cell? ⟨k, j, none⟩ = some x) : ((w.setCell ⟨R, 0, none⟩ u).setCell ⟨R, 1, none⟩ v).cell? ⟨k, j, none⟩ = some x := by
  rw [World.cell?_setCell_other _ _ _ _ (by intro e; cases e; exact h rfl), World.cell?_setCell_other _ _ _ _ (by intro e; cases e; exact h rfl)]
  exact hc
theorem Chg.undrew {S : Nat → Prop} {a b : World} {q : Nat} (h : Chg S (a.drewN q) b) : Chg S a b := ⟨h.os, h.tape, h.output, h.size, h.block⟩
/-- What do leaves. -/
def Did (w : World) (n0 n s B G : Nat) (V' : List (List Int)) (e : Ending) (w' : World) : Prop :=
  ∃ p' c', e = .returned (.tuple #[.agg #[.slice p' n c', .int .i64 (s : Nat)], .bool true]) ∧ RV w' (fun k => n0 ≤ k) p' c' s V' ∧ Vo w' B G s V' ∧ Chg (fun k => k = G) w w'
set_option maxHeartbeats 4000000 in
set_option maxRecDepth 100000 in
theorem do_torn (B G s n : Nat) (V : List (List Int)) (p : Option Addr) (c : Nat) (i x : Int) (q : Option Addr) (m cq : Nat) (b : List Int) (w : World) (n0 : Nat) (hn0 : n0 ≤ w.heap.size) (hG : G < n0) (hB : B < n0) (h : Vo w B G s V) (hV : RV w (fun k => n0 ≤ k) p c s V) (hn : V.length = n) (hb : BL w q m cq b) (hq : 0 < m → ∀ a, q = some a → a.block ≠ G) :
    Calls Try.prog 11 #[.pointer (some ⟨B, 0, none⟩), .agg #[.slice p n c, .int .i64 (s : Nat)], .agg #[.int .i64 i, .slice q m cq, .bool true, .int .i64 x]] w (Did w n0 n s B G (tearV s V i b (kp x s))) := by
  obtain ⟨⟨h4, h5, h6⟩, hbw, hsz⟩ := three_blocks w (.cells #[.slice p n c, .int .i64 (s : Nat)] 29) (.cells #[.int .i64 i, .slice q m cq, .bool true, .int .i64 x] 35) (.cells #[.slice none 0 0, .int .i64 0] 29)
  have hn4 : n ≤ 1024 := by rw [← hn]; exact h.n
  have HT := Lib.hid (reftear_any p c n s V i x q m cq b _ n0 (Nat.le_trans hn0 hbw.size) (hV.later hbw) hn hn4 h.s (SlG.later hb hbw))
  have H4 := Lib.hid h4
  have H5 := Lib.hid h5
  have H6 := Lib.hid h6
  have HBW := Lib.hid hbw
  have HVO := Lib.hid (h.later hbw)
  have HBL := Lib.hid (SlG.later hb hbw)
  have HQ := Lib.hid hq
  have HSZ := Lib.hid hsz
  have hGw : G < w.heap.size := Nat.lt_of_lt_of_le hG hn0
  clear h4 h5 h6 hbw h hV hb hq hsz hn
  go_enter Try.func11, Try.ntmps11
  go_wp2_with fail
  generalize hW1 : ((w.alloc (.cells #[.slice p n c, .int .i64 (s : Nat)] 29)).alloc (.cells #[.int .i64 i, .slice q m cq, .bool true, .int .i64 x] 35)).alloc (.cells #[.slice none 0 0, .int .i64 0] 29) = W1 at *
  clear hW1
  refine HT.out.mono ?_
  rintro e w2 ⟨p', c', rfl, hv2, hb2⟩
  have hb3 : Below w2.heap.size w2 (w2.alloc (.cells #[.slice p' n c', .int .i64 (s : Nat)] 29)) := (Below.refl _ _).alloc (Nat.le_refl _) _
  have hb13 := hb2.trans (hb3.mono hb2.size)
  have HA8 := Lib.hid (alloc_block w2 (.cells #[.slice p' n c', .int .i64 (s : Nat)] 29))
  have HA5 := Lib.hid (block_later H5.out hb13)
  have HA6 := Lib.hid (block_later H6.out hb13)
  have HV3 := Lib.hid (hv2.later hb3)
  have HB3 := Lib.hid (HBW.out.trans (hb13.mono HBW.out.size))
  have hvo3 := HVO.out.later hb13
  have hbl3 := SlG.later HBL.out hb13
  have HTP : Hid (∀ k, Calls Try.prog 16 #[.pointer (some ⟨B, 0, none⟩), .int .i64 i, .slice q m cq, .int .i64 x] ((w2.alloc (.cells #[.slice p' n c', .int .i64 (s : Nat)] 29)).drewN k) fun e w' => e = .returned (.int .i64 (tearE s V i b)) ∧ Vo w' B G s (tearV s V i b (kp x s)) ∧ Chg (fun k => k = G) ((w2.alloc (.cells #[.slice p' n c', .int .i64 (s : Nat)] 29)).drewN k) w') := Lib.hid fun k =>
    tear_any B G s V i x q m cq b _ (hvo3.keep ((Chg.refl (fun _ => False) _).drewN k) (fun h => h) (fun h => h)) (BL.keep hbl3 ((Chg.refl (fun _ => False) _).drewN k) fun _ _ _ h => h) HQ.out
  have HX8 : Hid (w.heap.size < w2.heap.size ∧ w.heap.size + 1 + 1 < w2.heap.size) := Lib.hid (by have := hb2.size; have := HSZ.out; omega)
  clear hv2 hb2 hb3 hb13 hvo3 hbl3 HT H4 H5 H6 HVO HBL HQ HSZ HBW
  generalize tearV s V i b (kp x s) = V' at *
  generalize tearE s V i b = e0 at *
  go_wp2_with fail
  generalize w2.alloc (.cells #[.slice p' n c', .int .i64 (s : Nat)] 29) = W3 at *
  generalize w2.heap.size = X8 at *
  have a80 := block_cell (j := 0) HA8.out (v := .slice p' n c') rfl
  have a81 := block_cell (j := 1) HA8.out (v := .int .i64 (s : Nat)) rfl
  have a50 := block_cell (j := 0) HA5.out (v := .int .i64 i) rfl
  have a51 := block_cell (j := 1) HA5.out (v := .slice q m cq) rfl
  have a53 := block_cell (j := 3) HA5.out (v := .int .i64 x) rfl
  have hne8 : X8 ≠ w.heap.size + 1 + 1 := by have := HX8.out; omega
  have hne5 : w.heap.size + 1 ≠ w.heap.size + 1 + 1 := by omega
  go_region_held3 (fun w' => w'.cell? ⟨X8, 0, none⟩ = some (.slice p' n c') ∧ w'.cell? ⟨X8, 1, none⟩ = some (.int .i64 (s : Nat)) ∧ w'.cell? ⟨w.heap.size + 1, 0, none⟩ = some (.int .i64 i) ∧ w'.cell? ⟨w.heap.size + 1, 1, none⟩ = some (.slice q m cq) ∧ w'.cell? ⟨w.heap.size + 1, 3, none⟩ = some (.int .i64 x)) (first | exact ⟨a80, a81, a50, a51, a53⟩ | exact ⟨f80, f81, f50, f51, f53⟩ | exact ⟨cell_far2 hne8 f80, cell_far2 hne8 f81, cell_far2 hne5 f50, cell_far2 hne5 f51, cell_far2 hne5 f53⟩) ((go_at_call 16; refine (HTP.out _).mono ?_; rintro e w5 ⟨rfl, hvo5, hch5⟩; have f80 := block_cell (j := 0) ((hch5.block X8 (block_lt HA8.out) (by have := HX8.out; omega)).trans HA8.out) (v := .slice p' n c') rfl; have f81 := block_cell (j := 1) ((hch5.block X8 (block_lt HA8.out) (by have := HX8.out; omega)).trans HA8.out) (v := .int .i64 (s : Nat)) rfl; have f50 := block_cell (j := 0) ((hch5.block (w.heap.size + 1) (block_lt HA5.out) (by omega)).trans HA5.out) (v := .int .i64 i) rfl; have f51 := block_cell (j := 1) ((hch5.block (w.heap.size + 1) (block_lt HA5.out) (by omega)).trans HA5.out) (v := .slice q m cq) rfl; have f53 := block_cell (j := 3) ((hch5.block (w.heap.size + 1) (block_lt HA5.out) (by omega)).trans HA5.out) (v := .int .i64 x) rfl; have h6 := (hch5.block (w.heap.size + 1 + 1) (block_lt HA6.out) (by omega)).trans HA6.out; have b60 := block_cell (j := 0) h6 (v := .slice none 0 0) rfl; have b61 := block_cell (j := 1) h6 (v := .int .i64 0) rfl; have g60 := block_free 0 h6; have g61 := block_free 1 h6))
  have HXX : Hid (((w5.setCell ⟨w.heap.size + 1 + 1, 0, none⟩ (.slice p' n c')).setCell ⟨w.heap.size + 1 + 1, 1, none⟩ (.int .i64 (s : Nat))).heap[w.heap.size + 1 + 1]? = some (.cells #[.slice p' n c', .int .i64 (s : Nat)] 29 (0, 0))) := Lib.hid (block_put 1 _ (block_put 0 _ h6))
  have HC : Hid (Chg (fun k => k = w.heap.size + 1 + 1) w5 ((w5.setCell ⟨w.heap.size + 1 + 1, 0, none⟩ (.slice p' n c')).setCell ⟨w.heap.size + 1 + 1, 1, none⟩ (.int .i64 (s : Nat)))) := Lib.hid (((Chg.refl (fun k => k = w.heap.size + 1 + 1) w5).setCell ⟨w.heap.size + 1 + 1, 0, none⟩ _ fun _ => rfl).setCell ⟨w.heap.size + 1 + 1, 1, none⟩ _ fun _ => rfl)
  have HTY := Lib.hid (not_ref h6)
  have HTS := Lib.hid (not_refs h6)
  have HV5 : Hid (RV w5 (fun k => n0 ≤ k) p' c' s V') := Lib.hid (HV3.out.keep hch5.undrew fun k hk e => by omega)
  have HO5 := Lib.hid hvo5
  have HC5 := Lib.hid hch5
  clear hvo5 hch5 h6 b60 b61 g60 g61 f80 f81 f50 f51 f53
  go_wp2_with fail
  refine bodyPost_ret (v := .tuple #[.agg #[.slice p' n c', .int .i64 (s : Nat)], .bool true]) ?_ rfl ?_
  · exact results_vol rfl _ _ (w.heap.size + 1 + 1) _ _ _ rfl rfl HXX.out rfl rfl
  · refine ⟨p', c', rfl, HV5.out.keep_typed HC.out (fun k _ h => HTS.out k h) (fun k _ h => HTY.out k h), HO5.out.keep HC.out (by omega) (by omega), ?_⟩
    have h1 := (Chg.of_below (S := fun k => k = G) HB3.out).trans (T := fun k => k = G) HC5.out.undrew fun _ _ h => h
    exact h1.trans HC.out fun k hk e => by omega
set_option maxHeartbeats 4000000 in
set_option maxRecDepth 100000 in
theorem do_put (B G s n : Nat) (V : List (List Int)) (p : Option Addr) (c : Nat) (i x : Int) (q : Option Addr) (m cq : Nat) (b : List Int) (w : World) (n0 : Nat) (hn0 : n0 ≤ w.heap.size) (hG : G < n0) (hB : B < n0) (h : Vo w B G s V) (hV : RV w (fun k => n0 ≤ k) p c s V) (hn : V.length = n) (hb : BL w q m cq b) (hq : 0 < m → ∀ a, q = some a → a.block ≠ G) :
    Calls Try.prog 11 #[.pointer (some ⟨B, 0, none⟩), .agg #[.slice p n c, .int .i64 (s : Nat)], .agg #[.int .i64 i, .slice q m cq, .bool false, .int .i64 x]] w (Did w n0 n s B G (tearV s V i b s)) := by
  obtain ⟨⟨h4, h5, h6⟩, hbw, hsz⟩ := three_blocks w (.cells #[.slice p n c, .int .i64 (s : Nat)] 29) (.cells #[.int .i64 i, .slice q m cq, .bool false, .int .i64 x] 35) (.cells #[.slice none 0 0, .int .i64 0] 29)
  have hn4 : n ≤ 1024 := by rw [← hn]; exact h.n
  have HT := Lib.hid (refput_any p c n s V i q m cq b _ n0 (Nat.le_trans hn0 hbw.size) (hV.later hbw) hn hn4 h.s (SlG.later hb hbw))
  have H4 := Lib.hid h4
  have H5 := Lib.hid h5
  have H6 := Lib.hid h6
  have HBW := Lib.hid hbw
  have HVO := Lib.hid (h.later hbw)
  have HBL := Lib.hid (SlG.later hb hbw)
  have HQ := Lib.hid hq
  have HSZ := Lib.hid hsz
  have hGw : G < w.heap.size := Nat.lt_of_lt_of_le hG hn0
  clear h4 h5 h6 hbw h hV hb hq hsz hn
  go_enter Try.func11, Try.ntmps11
  go_wp2_with fail
  generalize hW1 : ((w.alloc (.cells #[.slice p n c, .int .i64 (s : Nat)] 29)).alloc (.cells #[.int .i64 i, .slice q m cq, .bool false, .int .i64 x] 35)).alloc (.cells #[.slice none 0 0, .int .i64 0] 29) = W1 at *
  clear hW1
  refine HT.out.mono ?_
  rintro e w2 ⟨p', c', rfl, hv2, hb2⟩
  have hb3 : Below w2.heap.size w2 (w2.alloc (.cells #[.slice p' n c', .int .i64 (s : Nat)] 29)) := (Below.refl _ _).alloc (Nat.le_refl _) _
  have hb13 := hb2.trans (hb3.mono hb2.size)
  have HA8 := Lib.hid (alloc_block w2 (.cells #[.slice p' n c', .int .i64 (s : Nat)] 29))
  have HA5 := Lib.hid (block_later H5.out hb13)
  have HA6 := Lib.hid (block_later H6.out hb13)
  have HV3 := Lib.hid (hv2.later hb3)
  have HB3 := Lib.hid (HBW.out.trans (hb13.mono HBW.out.size))
  have hvo3 := HVO.out.later hb13
  have hbl3 := SlG.later HBL.out hb13
  have HTP : Hid (∀ k, Calls Try.prog 17 #[.pointer (some ⟨B, 0, none⟩), .int .i64 i, .slice q m cq] ((w2.alloc (.cells #[.slice p' n c', .int .i64 (s : Nat)] 29)).drewN k) fun e w' => e = .returned (.int .i64 (tearE s V i b)) ∧ Vo w' B G s (tearV s V i b s) ∧ Chg (fun k => k = G) ((w2.alloc (.cells #[.slice p' n c', .int .i64 (s : Nat)] 29)).drewN k) w') := Lib.hid fun k =>
    put_any B G s V i q m cq b _ (hvo3.keep ((Chg.refl (fun _ => False) _).drewN k) (fun h => h) (fun h => h)) (BL.keep hbl3 ((Chg.refl (fun _ => False) _).drewN k) fun _ _ _ h => h) HQ.out
  have HX8 : Hid (w.heap.size < w2.heap.size ∧ w.heap.size + 1 + 1 < w2.heap.size) := Lib.hid (by have := hb2.size; have := HSZ.out; omega)
  clear hv2 hb2 hb3 hb13 hvo3 hbl3 HT H4 H5 H6 HVO HBL HQ HSZ HBW
  generalize tearV s V i b s = V' at *
  generalize tearE s V i b = e0 at *
  go_wp2_with fail
  generalize w2.alloc (.cells #[.slice p' n c', .int .i64 (s : Nat)] 29) = W3 at *
  generalize w2.heap.size = X8 at *
  have a80 := block_cell (j := 0) HA8.out (v := .slice p' n c') rfl
  have a81 := block_cell (j := 1) HA8.out (v := .int .i64 (s : Nat)) rfl
  have a50 := block_cell (j := 0) HA5.out (v := .int .i64 i) rfl
  have a51 := block_cell (j := 1) HA5.out (v := .slice q m cq) rfl
  have a53 := block_cell (j := 3) HA5.out (v := .int .i64 x) rfl
  have hne8 : X8 ≠ w.heap.size + 1 + 1 := by have := HX8.out; omega
  have hne5 : w.heap.size + 1 ≠ w.heap.size + 1 + 1 := by omega
  go_region_held3 (fun w' => w'.cell? ⟨X8, 0, none⟩ = some (.slice p' n c') ∧ w'.cell? ⟨X8, 1, none⟩ = some (.int .i64 (s : Nat)) ∧ w'.cell? ⟨w.heap.size + 1, 0, none⟩ = some (.int .i64 i) ∧ w'.cell? ⟨w.heap.size + 1, 1, none⟩ = some (.slice q m cq) ∧ w'.cell? ⟨w.heap.size + 1, 3, none⟩ = some (.int .i64 x)) (first | exact ⟨a80, a81, a50, a51, a53⟩ | exact ⟨f80, f81, f50, f51, f53⟩ | exact ⟨cell_far2 hne8 f80, cell_far2 hne8 f81, cell_far2 hne5 f50, cell_far2 hne5 f51, cell_far2 hne5 f53⟩) ((go_at_call 17; refine (HTP.out _).mono ?_; rintro e w5 ⟨rfl, hvo5, hch5⟩; have f80 := block_cell (j := 0) ((hch5.block X8 (block_lt HA8.out) (by have := HX8.out; omega)).trans HA8.out) (v := .slice p' n c') rfl; have f81 := block_cell (j := 1) ((hch5.block X8 (block_lt HA8.out) (by have := HX8.out; omega)).trans HA8.out) (v := .int .i64 (s : Nat)) rfl; have f50 := block_cell (j := 0) ((hch5.block (w.heap.size + 1) (block_lt HA5.out) (by omega)).trans HA5.out) (v := .int .i64 i) rfl; have f51 := block_cell (j := 1) ((hch5.block (w.heap.size + 1) (block_lt HA5.out) (by omega)).trans HA5.out) (v := .slice q m cq) rfl; have f53 := block_cell (j := 3) ((hch5.block (w.heap.size + 1) (block_lt HA5.out) (by omega)).trans HA5.out) (v := .int .i64 x) rfl; have h6 := (hch5.block (w.heap.size + 1 + 1) (block_lt HA6.out) (by omega)).trans HA6.out; have b60 := block_cell (j := 0) h6 (v := .slice none 0 0) rfl; have b61 := block_cell (j := 1) h6 (v := .int .i64 0) rfl; have g60 := block_free 0 h6; have g61 := block_free 1 h6))
  have HXX : Hid (((w5.setCell ⟨w.heap.size + 1 + 1, 0, none⟩ (.slice p' n c')).setCell ⟨w.heap.size + 1 + 1, 1, none⟩ (.int .i64 (s : Nat))).heap[w.heap.size + 1 + 1]? = some (.cells #[.slice p' n c', .int .i64 (s : Nat)] 29 (0, 0))) := Lib.hid (block_put 1 _ (block_put 0 _ h6))
  have HC : Hid (Chg (fun k => k = w.heap.size + 1 + 1) w5 ((w5.setCell ⟨w.heap.size + 1 + 1, 0, none⟩ (.slice p' n c')).setCell ⟨w.heap.size + 1 + 1, 1, none⟩ (.int .i64 (s : Nat)))) := Lib.hid (((Chg.refl (fun k => k = w.heap.size + 1 + 1) w5).setCell ⟨w.heap.size + 1 + 1, 0, none⟩ _ fun _ => rfl).setCell ⟨w.heap.size + 1 + 1, 1, none⟩ _ fun _ => rfl)
  have HTY := Lib.hid (not_ref h6)
  have HTS := Lib.hid (not_refs h6)
  have HV5 : Hid (RV w5 (fun k => n0 ≤ k) p' c' s V') := Lib.hid (HV3.out.keep hch5.undrew fun k hk e => by omega)
  have HO5 := Lib.hid hvo5
  have HC5 := Lib.hid hch5
  clear hvo5 hch5 h6 b60 b61 g60 g61 f80 f81 f50 f51 f53
  go_wp2_with fail
  refine bodyPost_ret (v := .tuple #[.agg #[.slice p' n c', .int .i64 (s : Nat)], .bool true]) ?_ rfl ?_
  · exact results_vol rfl _ _ (w.heap.size + 1 + 1) _ _ _ rfl rfl HXX.out rfl rfl
  · refine ⟨p', c', rfl, HV5.out.keep_typed HC.out (fun k _ h => HTS.out k h) (fun k _ h => HTY.out k h), HO5.out.keep HC.out (by omega) (by omega), ?_⟩
    have h1 := (Chg.of_below (S := fun k => k = G) HB3.out).trans (T := fun k => k = G) HC5.out.undrew fun _ _ h => h
    exact h1.trans HC.out fun k hk e => by omega
/-- An act, whatever it is. -/
def actV (s : Nat) (V : List (List Int)) (i x : Int) (torn : Bool) (b : List Int) : List (List Int) := if torn = true then tearV s V i b (kp x s) else tearV s V i b s
theorem do_any (B G s n : Nat) (V : List (List Int)) (p : Option Addr) (c : Nat) (i x : Int) (torn : Bool) (q : Option Addr) (m cq : Nat) (b : List Int) (w : World) (n0 : Nat) (hn0 : n0 ≤ w.heap.size) (hG : G < n0) (hB : B < n0) (h : Vo w B G s V) (hV : RV w (fun k => n0 ≤ k) p c s V) (hn : V.length = n) (hb : BL w q m cq b) (hq : 0 < m → ∀ a, q = some a → a.block ≠ G) :
    Calls Try.prog 11 #[.pointer (some ⟨B, 0, none⟩), .agg #[.slice p n c, .int .i64 (s : Nat)], .agg #[.int .i64 i, .slice q m cq, .bool torn, .int .i64 x]] w (Did w n0 n s B G (actV s V i x torn b)) := by
  cases torn with
  | true => exact do_torn B G s n V p c i x q m cq b w n0 hn0 hG hB h hV hn hb hq
  | false => exact do_put B G s n V p c i x q m cq b w n0 hn0 hG hB h hV hn hb hq
theorem actV_len (s : Nat) (V : List (List Int)) (i x : Int) (torn : Bool) (b : List Int) : (actV s V i x torn b).length = V.length := by
  unfold actV
  split <;> exact tearV_len ..
end Go.Proofs.Ytdocnmgbbfgdoaa
