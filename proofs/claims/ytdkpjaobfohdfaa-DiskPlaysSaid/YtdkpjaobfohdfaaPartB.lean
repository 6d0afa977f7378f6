/- append onto a row of any kind, with where the new row lies (all layers). -/
/- A region that draws, walked by hand: a condition may be strengthened under way. -/
/- Sync, by the document. -/
/- New, by the document. -/
/- While the document's Crash runs: the loop's structure, over any volume and tape. -/
import Derived.Test.YtdkpjaobfohdfaaBase
import Derived.Maps.AppendAt
import Derived.Laws.AppendOwnNone
import Derived.Deep.RegionHeld
import Derived.Test.YtdkpjaobfohdfaaDiskRefShow
import Derived.Laws.ResultCell
import Derived.Test.YtdkpjaobfohdfaaPartM
namespace Go.Proofs.Ytdkpjaobfohdfaa
open Go.RowKit Go.ChangeShapes Go.WideShapes
set_option linter.unusedVariables false
set_option maxRecDepth 10000
set_option linter.unusedSimpArgs false

theorem row_keep {w w' : World} {T : TypeId} {k : Nat} {v : Value} {n : Nat} {xs : List Value} {S : Nat → Prop} (h : w.ownsRow 0 T k v n xs) (hc : Chg S w w') (hs : ∀ b, v.ownBlock = some b → ¬ S b) : w'.ownsRow 0 T k v n xs := by
  have hb : ∀ b, v.ownBlock = some b → w'.heap[b]? = w.heap[b]? := fun b hk => hc.block b (h.lt b hk).2 (hs b hk)
  refine ⟨h.1, ?_⟩
  rcases h.2 with hn | ⟨g, cap, cur, rfl, h1, h2, h3⟩
  · exact .inl hn
  · exact .inr ⟨g, cap, cur, rfl, h1, by rw [hb g rfl]; exact h2, h3⟩
/-- What append does: the row behind, and where it lies. -/
theorem run_append_vals {w : World} {T S ty : TypeId} {k bytes : Nat} {z : Value} (hk0 : 0 < k) (hu : Try.prog.underlying S = some (.slice T)) (hinfo : (Try.prog.info? T).map (fun i => (i.zero, i.size, i.bytes)) = some (some z, k, bytes)) (hz : z.cells.size = k) (hby : bytes ≤ 1000)
    {v : Value} {n : Nat} {xs : List Value} (hr : w.ownsRow 0 T k v n xs) {p : Option Addr} {m c : Nat} {news : List Value} (hl : news.length = m * k) (hnone : p = none → m = 0 ∧ c = 0) (hnews : ∀ ad, p = some ad → ∀ j u, news[j]? = some u → w.cell? (ad.add j) = some u) (h1 : ∀ u ∈ news, u.oneCell' = true) (hbig : n + m ≤ 1000000) :
    ∃ p' c' w', (Builtin.append_ #[S, S] ty #[v, .slice p m c]).run Try.prog w = .ok (.slice p' (n + m) c') w' ∧ w'.ownsRow 0 T k (.slice p' (n + m) c') (n + m) (xs ++ news) ∧ Chg (fun b => v.ownBlock = some b) w w' ∧
      (∀ b, (Value.slice p' (n + m) c').ownBlock = some b → v.ownBlock = some b ∨ w.heap.size ≤ b) := by
  obtain ⟨i, hi, hz0, hz1, hz2⟩ := info_parts hinfo
  cases p with
  | none =>
    obtain ⟨rfl, rfl⟩ := hnone rfl
    obtain rfl : news = [] := List.eq_nil_of_length_eq_zero (by omega)
    obtain ⟨p', c', rfl⟩ : ∃ p' c', v = .slice p' n c' := by
      rcases hr.2 with ⟨rfl, rfl⟩ | ⟨g, cap, cur, rfl, _⟩
      · exact ⟨_, _, rfl⟩
      · exact ⟨_, _, rfl⟩
    have hrun := run_append_owned_none (P := Try.prog) (w := w) 0 S ty T i k hu hi (.slice p' n c') n xs hr
    refine ⟨p', c', w, hrun, ?_, Chg.refl _ _, fun k hk => .inl hk⟩
    rw [List.append_nil, Nat.add_zero]; exact hr
  | some ad =>
    have hbb : (n + m) * bytes ≤ 1000000 * 1000 := Nat.mul_le_mul hbig hby
    obtain ⟨v', w', hrun, h1, h2, h3, h4⟩ := run_append_own_at (P := Try.prog) w 0 S ty T i z k bytes hu hi hz0 hz1 hz2 hz hk0 v n xs hr ad m c news hl (hnews ad rfl) h1 (by unfold maxLen; omega) (by omega) (Nat.zero_le _)
    obtain ⟨p', c', rfl⟩ : ∃ p' c', v' = .slice p' (n + m) c' := by
      rcases h1.2 with ⟨rfl, h0⟩ | ⟨g, cap, cur, rfl, _⟩
      · rw [h0]; exact ⟨_, _, rfl⟩
      · exact ⟨_, _, rfl⟩
    refine ⟨p', c', w', hrun, h1, Chg.mono (Chg.of_grown h2) (fun k _ h => h), fun k hk => ?_⟩
    rcases h4 with h4 | h4
    · exact .inl (h4 ▸ hk)
    · rw [h4] at hk
      cases hk
      exact .inr (Nat.le_refl _)
/-- append as one step of a region that draws its order. -/
theorem step_append_vals {w : World} {ops : Array Oper} {o : Oper} {a : Act} {K : Act → World → Prop} {Q : Exit → Act → World → Prop} {E : Prop} {T S : TypeId} {k bytes : Nat} {z : Value} (hk0 : 0 < k) (hu : Try.prog.underlying S = some (.slice T)) (hinfo : (Try.prog.info? T).map (fun i => (i.zero, i.size, i.bytes)) = some (some z, k, bytes)) (hz : z.cells.size = k) (hby : bytes ≤ 1000)
    (hgd : o.guard = none) (s x : Operand) (ho : o.op = .call { callee := .builtin .append, args := #[s, x], argTypes := #[S, S] })
    (v : Value) (n : Nat) (xs : List Value) (hs : a.eval s = v) (hr : w.ownsRow 0 T k v n xs) (p : Option Addr) (m c : Nat) (news : List Value) (hx : a.eval x = .slice p m c) (hl : news.length = m * k) (hnone : p = none → m = 0 ∧ c = 0) (hnews : ∀ ad, p = some ad → ∀ j u, news[j]? = some u → w.cell? (ad.add j) = some u) (h1 : ∀ u ∈ news, u.oneCell' = true) (hbig : n + m ≤ 1000000)
    (h : ∀ p' c' w', w'.ownsRow 0 T k (.slice p' (n + m) c') (n + m) (xs ++ news) → Chg (fun b => v.ownBlock = some b) w w' → (∀ b, (Value.slice p' (n + m) c').ownBlock = some b → v.ownBlock = some b ∨ w.heap.size ≤ b) → K (a.put o.dst (.slice p' (n + m) c')) w') :
    if Region.wanted o (yielded ops a.tmps) = true then Oper.wp Try.prog o a w K Q else E := by
  have hw : Region.wanted o (yielded ops a.tmps) = true := by simp [Region.wanted, hgd]
  rw [if_pos hw]
  obtain ⟨p', c', w', hrun, h1, h2, h3⟩ := run_append_vals (ty := o.type) hk0 hu hinfo hz hby hr hl hnone hnews h1 hbig
  unfold Oper.wp execOp
  simp only [ho, resolve, invoke, builtin, Sem.run_bind, Sem.run_pure, Result.andThen_ok, List.map_toArray, List.map_cons, List.map_nil, hs, hx, hrun]
  exact h p' c' w' h1 h2 h3
/-- append at the operation. -/
theorem wpList_append_vals {w : World} {ops : Array Oper} {rest : List Oper} {o : Oper} {a : Act} {Q : Exit → Act → World → Prop} {T S : TypeId} {k bytes : Nat} {z : Value} (hk0 : 0 < k) (hu : Try.prog.underlying S = some (.slice T)) (hinfo : (Try.prog.info? T).map (fun i => (i.zero, i.size, i.bytes)) = some (some z, k, bytes)) (hz : z.cells.size = k) (hby : bytes ≤ 1000)
    (hgd : o.guard = none) (s x : Operand) (ho : o.op = .call { callee := .builtin .append, args := #[s, x], argTypes := #[S, S] })
    (v : Value) (n : Nat) (xs : List Value) (hs : a.eval s = v) (hr : w.ownsRow 0 T k v n xs) (p : Option Addr) (m c : Nat) (news : List Value) (hx : a.eval x = .slice p m c) (hl : news.length = m * k) (hnone : p = none → m = 0 ∧ c = 0) (hnews : ∀ ad, p = some ad → ∀ j u, news[j]? = some u → w.cell? (ad.add j) = some u) (h1 : ∀ u ∈ news, u.oneCell' = true) (hbig : n + m ≤ 1000000)
    (h : ∀ p' c' w', w'.ownsRow 0 T k (.slice p' (n + m) c') (n + m) (xs ++ news) → Chg (fun b => v.ownBlock = some b) w w' → (∀ b, (Value.slice p' (n + m) c').ownBlock = some b → v.ownBlock = some b ∨ w.heap.size ≤ b) → wpList Try.prog ops Q rest (a.put o.dst (.slice p' (n + m) c')) w') :
    wpList Try.prog ops Q (o :: rest) a w := by
  refine wpList_plain hgd fun K hK => ?_
  obtain ⟨p', c', w', hrun, h1, h2, h3⟩ := run_append_vals (ty := o.type) hk0 hu hinfo hz hby hr hl hnone hnews h1 hbig
  unfold Oper.wp execOp
  simp only [ho, resolve, invoke, builtin, Sem.run_bind, Sem.run_pure, Result.andThen_ok, List.map_toArray, List.map_cons, List.map_nil, hs, hx, hrun]
  exact hK _ _ (h p' c' w' h1 h2 h3)
end Go.Proofs.Ytdkpjaobfohdfaa
namespace Go.Proofs.Ytdkpjaobfohdfaa
open Go.RowKit Go.ChangeShapes Go.WideShapes
set_option linter.unusedVariables false
theorem wpAnyH_less {P : Program} {md : Region.Mode} {ops : Array Oper} {Q : Exit → Act → World → Prop} {S S2 : World → Prop} (h : ∀ w, S2 w → S w) : ∀ (fuel : Nat) (listed : Array Bool) (a : Act) (w : World), wpAnyH P md ops Q S2 fuel listed a w → wpAnyH P md ops Q S fuel listed a w
  | 0, _, _, _, hh => hh
  | fuel + 1, _, _, _, hh => ⟨hh.1, fun i hi => wpOp_mono (fun a' w' h' => ⟨h w' h'.1, wpAnyH_less h fuel _ a' w' h'.2⟩) (hh.2 i hi)⟩
end Go.Proofs.Ytdkpjaobfohdfaa
namespace Go.Proofs.Ytdkpjaobfohdfaa
open Go.RowKit Go.ChangeShapes Go.WideShapes
set_option linter.unusedVariables false
set_option maxRecDepth 10000
set_option linter.unusedSimpArgs false

/-- What a call that hands back the document's disk says. -/
def RdGives (w : World) (Q : Nat → Prop) (d : DS) (e : Ending) (w' : World) : Prop :=
  ∃ p c tp tc lp lc, e = .returned (.agg (rdc p d.V.length c d.s tp d.t.B.length tc (d.t.f * d.z) d.z lp d.L.length lc d.M)) ∧ Rd w' Q p c tp tc lp lc d ∧ Below w.heap.size w w'
theorem refseen_any {p tp lp : Option Addr} {c tc lc : Nat} (d : DS) (w : World) (Q : Nat → Prop) (hQ : ∀ k, w.heap.size ≤ k → Q k) (h : Rd w Q p c tp tc lp lc d) (hbig : d.tot ≤ 1000000) :
    Calls Try.prog 28 #[.agg (rdc p d.V.length c d.s tp d.t.B.length tc (d.t.f * d.z) d.z lp d.L.length lc d.M)] w (RdDo w Q d.s d.z d.V.length d.sV d.sT) := by
  obtain ⟨⟨AL, hrow, hmap, hok⟩, hlq⟩ := h.td
  have h1 := seen_walk w Q hQ d.s d.z d.V.length d.L.length lc d.t.B.length (d.t.f * d.z) d.M p tp lp c tc AL d.V d.t d.tot h.n4 h.s4 h.z hbig h.rv rfl h.rt h.tq rfl rfl hrow hok (by rw [hmap]; exact Nat.le_refl _)
  rw [hmap] at h1
  exact h1
theorem RdDo.rnd0 {wr w5 : World} {Q : Nat → Prop} {s z n : Nat} {V : List (List Int)} {t : TS} {e : Ending} (h : RdDo wr Q s z n V t e w5) : Rnd wr Q s z n V t e w5 := by
  obtain ⟨p, c, tp, tc, rfl, h1, h2, h3, h4⟩ := h
  exact ⟨p, c, tp, tc, _, _, rfl, Lib.hid ⟨h1, h2, h3, rfl, rfl, h4⟩⟩
abbrev rdz : Array Value := #[.slice none 0 0, .int .i64 0, .slice none 0 0, .int .i64 0, .int .i64 0, .slice none 0 0, .int .i64 0]
/-- Seven cells of one block written. -/
theorem seven_put {W : World} {R : Nat} {T : TypeId} {a0 a1 a2 a3 a4 a5 a6 : Value} (x0 x1 x2 x3 x4 x5 x6 : Value) (h : W.heap[R]? = some (.cells #[a0, a1, a2, a3, a4, a5, a6] T (0, 0))) :
    (((((((W.setCell ⟨R, 0, none⟩ x0).setCell ⟨R, 1, none⟩ x1).setCell ⟨R, 2, none⟩ x2).setCell ⟨R, 3, none⟩ x3).setCell ⟨R, 4, none⟩ x4).setCell ⟨R, 5, none⟩ x5).setCell ⟨R, 6, none⟩ x6).heap[R]? = some (.cells #[x0, x1, x2, x3, x4, x5, x6] T (0, 0)) ∧
    Chg (fun k => k = R) W (((((((W.setCell ⟨R, 0, none⟩ x0).setCell ⟨R, 1, none⟩ x1).setCell ⟨R, 2, none⟩ x2).setCell ⟨R, 3, none⟩ x3).setCell ⟨R, 4, none⟩ x4).setCell ⟨R, 5, none⟩ x5).setCell ⟨R, 6, none⟩ x6) := by
  have g0 := block_put 0 x0 h
  simp only [List.setIfInBounds_toArray, List.set_cons_zero, List.set_cons_succ] at g0
  have g1 := block_put 1 x1 g0
  simp only [List.setIfInBounds_toArray, List.set_cons_zero, List.set_cons_succ] at g1
  have g2 := block_put 2 x2 g1
  simp only [List.setIfInBounds_toArray, List.set_cons_zero, List.set_cons_succ] at g2
  have g3 := block_put 3 x3 g2
  simp only [List.setIfInBounds_toArray, List.set_cons_zero, List.set_cons_succ] at g3
  have g4 := block_put 4 x4 g3
  simp only [List.setIfInBounds_toArray, List.set_cons_zero, List.set_cons_succ] at g4
  have g5 := block_put 5 x5 g4
  simp only [List.setIfInBounds_toArray, List.set_cons_zero, List.set_cons_succ] at g5
  have g6 := block_put 6 x6 g5
  simp only [List.setIfInBounds_toArray, List.set_cons_zero, List.set_cons_succ] at g6
  have c0 := (Chg.refl (fun k => k = R) W).setCell ⟨R, 0, none⟩ x0 fun _ => rfl
  have c1 := c0.setCell ⟨R, 1, none⟩ x1 fun _ => rfl
  have c2 := c1.setCell ⟨R, 2, none⟩ x2 fun _ => rfl
  have c3 := c2.setCell ⟨R, 3, none⟩ x3 fun _ => rfl
  have c4 := c3.setCell ⟨R, 4, none⟩ x4 fun _ => rfl
  have c5 := c4.setCell ⟨R, 5, none⟩ x5 fun _ => rfl
  have c6 := c5.setCell ⟨R, 6, none⟩ x6 fun _ => rfl
  exact ⟨g6, c6⟩
set_option maxHeartbeats 2000000 in
theorem refsync_any {p tp lp : Option Addr} {c tc lc : Nat} (d : DS) (w : World) (Q : Nat → Prop) (hQ : ∀ k, w.heap.size ≤ k → Q k) (h : Rd w Q p c tp tc lp lc d) (hbig : d.tot ≤ 1000000) :
    Calls Try.prog 22 #[.agg (rdc p d.V.length c d.s tp d.t.B.length tc (d.t.f * d.z) d.z lp d.L.length lc d.M)] w (RdGives w Q d.sync) := by
  obtain ⟨h0, h1, hbw⟩ := two_boxes w (rdc p d.V.length c d.s tp d.t.B.length tc (d.t.f * d.z) d.z lp d.L.length lc d.M) rdz 36 36
  have hsz : ((w.alloc (.cells (rdc p d.V.length c d.s tp d.t.B.length tc (d.t.f * d.z) d.z lp d.L.length lc d.M) 36)).alloc (.cells rdz 36)).heap.size = w.heap.size + 2 := by simp
  have HSE := Lib.hid (refseen_any d _ (fun k => Q k ∧ k ≠ w.heap.size + 1) (fun k hk => ⟨hQ k (by omega), by omega⟩) ((h.mono (R := fun k => Q k ∧ k ≠ w.heap.size + 1) fun k hk hl => ⟨hk, by omega⟩).later hbw) hbig)
  have H0 := Lib.hid h0
  have H1 := Lib.hid h1
  have HBW := Lib.hid hbw
  have HSZ := Lib.hid hsz
  have HZ := Lib.hid h.z
  have HN4 := Lib.hid h.n4
  have HS4 := Lib.hid h.s4
  have HD : Hid (d.sync.V = d.sV ∧ d.sync.t = d.sT ∧ d.sync.L = [] ∧ d.sync.s = d.s ∧ d.sync.z = d.z ∧ d.sync.M = d.M ∧ d.sV.length = d.V.length) := Lib.hid ⟨rfl, rfl, rfl, rfl, rfl, rfl, foldV_len ..⟩
  clear h0 h1 hbw hsz h
  generalize d.sync = D at *
  generalize hV : d.sV = SV at *
  generalize hT : d.sT = ST at *
  clear hV hT
  generalize d.V.length = n at *
  generalize d.t.B.length = n1 at *
  generalize d.t.f * d.z = F1 at *
  generalize d.L.length = ln at *
  generalize d.s = s at *
  generalize d.z = z at *
  generalize d.M = M at *
  go_enter Try.func22, Try.ntmps22
  go_wp2_with fail
  have hse := HSE.out.mono fun e w' h => RdDo.rnd0 h
  refine hse.mono ?_
  clear hse
  generalize (w.alloc (.cells (rdc p n c s tp n1 tc F1 z lp ln lc M) 36)).alloc (.cells rdz 36) = W1 at *
  rintro e w2 ⟨p', c', tp', tc', n5, F5, rfl, H5⟩
  have HNF : Hid (ST.B.length = n5 ∧ ST.f * z = F5) := Lib.hid ⟨H5.out.2.2.2.1, H5.out.2.2.2.2.1⟩
  have hv := H5.out.1
  have ht := H5.out.2.1
  have hq := H5.out.2.2.1
  have hb2 := H5.out.2.2.2.2.2
  clear H5 HSE
  have hb4 : Below w2.heap.size w2 ((w2.alloc (.cells #[.slice p' n c', .int .i64 (s : Nat)] 30)).alloc (.cells #[.slice tp' n5 tc', .int .i64 (F5 : Nat), .int .i64 (z : Nat)] 33)) := ((Below.refl _ _).alloc (Nat.le_refl _) _).alloc (by simp) _
  have hb24 := hb2.trans (hb4.mono hb2.size)
  have g0 := block_later H0.out hb24
  have g1 := block_later H1.out hb24
  have HV4 := Lib.hid (hv.later hb4)
  have HT4 := Lib.hid (ht.later hb4)
  have HQ4 := Lib.hid hq
  have HB4 := Lib.hid (HBW.out.trans (hb24.mono HBW.out.size))
  have x6 := block_cell (j := 6) g0 (v := .int .i64 (M : Nat)) rfl
  have HP := Lib.hid (seven_put (.slice p' n c') (.int .i64 (s : Nat)) (.slice tp' n5 tc') (.int .i64 (F5 : Nat)) (.int .i64 (z : Nat)) (.slice none 0 0) (.int .i64 (M : Nat)) g1)
  have y0 := block_cell (j := 0) g1 (v := .slice none 0 0) rfl
  have y1 := block_cell (j := 1) g1 (v := .int .i64 0) rfl
  have y2 := block_cell (j := 2) g1 (v := .slice none 0 0) rfl
  have y3 := block_cell (j := 3) g1 (v := .int .i64 0) rfl
  have y4 := block_cell (j := 4) g1 (v := .int .i64 0) rfl
  have y5 := block_cell (j := 5) g1 (v := .slice none 0 0) rfl
  have y6 := block_cell (j := 6) g1 (v := .int .i64 0) rfl
  have z0 := block_free 0 g1
  have z1 := block_free 1 g1
  have z2 := block_free 2 g1
  have z3 := block_free 3 g1
  have z4 := block_free 4 g1
  have z5 := block_free 5 g1
  have z6 := block_free 6 g1
  clear g0 g1 hv ht hq hb2 hb4 hb24
  go_wp2_with fail
  refine bodyPost_ret (v := .agg #[.slice p' n c', .int .i64 (s : Nat), .slice tp' n5 tc', .int .i64 (F5 : Nat), .int .i64 (z : Nat), .slice none 0 0, .int .i64 (M : Nat)]) ?_ rfl ?_
  · exact results_cell_row rfl _ _ (w.heap.size + 1) 36 _ (0, 0) _ rfl HP.out.1 Try.underlying36 rfl (by kernel_rfl)
  · obtain ⟨e1, e2, e3, e4, e5, e6, e7⟩ := HD.out
    have hb := HB4.out
    have hc := HP.out.2
    refine ⟨p', c', tp', tc', none, 0, ?_, ⟨?_, ?_, ?_, ?_, ?_, ?_, ?_⟩, hc.below hb hb.size fun k hk => by omega⟩
    · rw [e1, e2, e3, e4, e5, e6, e7, HNF.out.1, HNF.out.2]
      rfl
    · rw [e1, e4]
      exact (HV4.out.keep hc fun k hk hs => hk.2 hs).mono fun k hk _ => hk.1
    · rw [e2]
      exact HT4.out.keep hc fun h0 a ha hs => (HQ4.out h0 a ha).2 hs
    · rw [e2]
      exact fun h0 a ha => (HQ4.out h0 a ha).1
    · rw [e3]
      exact Td.nil _ _
    · rw [e1, e7]
      exact HN4.out
    · rw [e4]
      exact HS4.out
    · rw [e5]
      exact HZ.out
end Go.Proofs.Ytdkpjaobfohdfaa
namespace Go.Proofs.Ytdkpjaobfohdfaa
open Go.RowKit Go.ChangeShapes Go.WideShapes
set_option linter.unusedVariables false
set_option maxRecDepth 10000
set_option linter.unusedSimpArgs false

set_option maxHeartbeats 2000000 in
theorem refdnew_any (x y a : Int) (M : Nat) (hM : M ≤ 1048576) (w : World) : Calls Try.prog 7 #[.int .i64 x, .int .i64 y, .int .i64 a, .int .i64 (M : Nat)] w (RdGives w (fun k => w.heap.size ≤ k) (DS.new x y a (M : Nat))) := by
  have HNV := Lib.hid (fun w' => refnew_any x y w')
  have HNT := Lib.hid (fun w' => tref_new a w')
  have hk : kp (M : Int) 1048576 = M := by unfold kp; omega
  have HD : Hid (DS.new x y a (M : Nat) = ⟨M, a, cl a 64 4096, kp y 4096, zeroV (kp x 1024) (kp y 4096), ⟨0, []⟩, []⟩) := Lib.hid (by unfold DS.new; rw [hk])
  have h0 := alloc_block w (.cells rdz 36)
  have hb1 : Below w.heap.size w (w.alloc (.cells rdz 36)) := (Below.refl _ _).alloc (Nat.le_refl _) _
  have hsz : (w.alloc (.cells rdz 36)).heap.size = w.heap.size + 1 := by simp
  have HZ : Hid (64 ≤ cl a 64 4096 ∧ cl a 64 4096 ≤ 4096) := Lib.hid (by unfold cl; omega)
  have HX : Hid (kp x 1024 ≤ 1024) := Lib.hid (by have := kp_le x 1024 (by omega); omega)
  have HY : Hid (kp y 4096 ≤ 4096) := Lib.hid (by have := kp_le y 4096 (by omega); omega)
  have HL : Hid ((zeroV (kp x 1024) (kp y 4096)).length = kp x 1024) := Lib.hid (zeroV_len ..)
  generalize DS.new x y a (M : Nat) = D at *
  generalize kp x 1024 = n at *
  generalize kp y 4096 = s at *
  generalize cl a 64 4096 = z at *
  generalize zeroV n s = V at *
  have hd1 : decide ((M : Int) < 0) = false := decide_eq_false (by omega)
  have hd2 : decide ((1048576 : Int) < M) = false := decide_eq_false (by omega)
  have H0 := Lib.hid h0
  have HB1 := Lib.hid hb1
  have HSZ := Lib.hid hsz
  clear hk h0 hb1 hsz
  go_enter Try.func7, Try.ntmps7
  go_wp2_with fail
  refine (HNV.out _).mono ?_
  generalize w.alloc (.cells rdz 36) = W1 at *
  rintro e w2 ⟨p, c, rfl, hv, hb2⟩
  have HV2 := Lib.hid hv
  have HB2 := Lib.hid hb2
  clear hv hb2 HNV
  go_wp2_with fail
  refine (HNT.out _).mono ?_
  rintro e w3 ⟨rfl, hb3⟩
  unfold rv
  have hb23 := HB2.out.trans (hb3.mono HB2.out.size)
  have g0 := block_later H0.out hb23
  have HV3 := Lib.hid (HV2.out.later hb3)
  have HB3 := Lib.hid (HB1.out.trans (hb23.mono HB1.out.size))
  have HP := Lib.hid (seven_put (.slice p n c) (.int .i64 (s : Nat)) (.slice none 0 0) (.int .i64 0) (.int .i64 (z : Nat)) (.slice none 0 0) (.int .i64 (M : Nat)) g0)
  have y0 := block_cell (j := 0) g0 (v := .slice none 0 0) rfl
  have y1 := block_cell (j := 1) g0 (v := .int .i64 0) rfl
  have y2 := block_cell (j := 2) g0 (v := .slice none 0 0) rfl
  have y3 := block_cell (j := 3) g0 (v := .int .i64 0) rfl
  have y4 := block_cell (j := 4) g0 (v := .int .i64 0) rfl
  have y5 := block_cell (j := 5) g0 (v := .slice none 0 0) rfl
  have y6 := block_cell (j := 6) g0 (v := .int .i64 0) rfl
  have z0 := block_free 0 g0
  have z1 := block_free 1 g0
  have z2 := block_free 2 g0
  have z3 := block_free 3 g0
  have z4 := block_free 4 g0
  have z5 := block_free 5 g0
  have z6 := block_free 6 g0
  clear g0 hb23 hb3 HNT
  go_wp2_with fail
  refine bodyPost_ret (v := .agg #[.slice p n c, .int .i64 (s : Nat), .slice none 0 0, .int .i64 0, .int .i64 (z : Nat), .slice none 0 0, .int .i64 (M : Nat)]) ?_ rfl ?_
  · exact results_cell_row rfl _ _ w.heap.size 36 _ (0, 0) _ rfl HP.out.1 Try.underlying36 rfl (by kernel_rfl)
  · have hb := HB3.out
    have hc := HP.out.2
    have hs := HSZ.out
    have hl := HL.out
    rw [HD.out]
    refine ⟨p, c, none, 0, none, 0, ?_, ⟨(HV3.out.keep hc fun k hk hs => by omega).mono fun k hk _ => by omega, Rt.nil _, fun h => absurd h (Nat.lt_irrefl 0), Td.nil _ _, ?_, HY.out, HZ.out⟩, hc.below hb hb.size fun k hk => by omega⟩
    · show _ = Ending.returned (.agg (rdc p V.length c s none 0 0 (0 * z) z none 0 0 M))
      rw [hl, Nat.zero_mul]
      rfl
    · show V.length ≤ 1024
      rw [hl]
      exact HX.out
end Go.Proofs.Ytdkpjaobfohdfaa
namespace Go.Proofs.Ytdkpjaobfohdfaa
open Go.RowKit Go.ChangeShapes Go.WideShapes
set_option linter.unusedVariables false
set_option maxRecDepth 10000
set_option linter.unusedSimpArgs false

/-- A : the first of four blocks: the disk, the result, the volume, the tape; V, t: what the last two have by now. -/
structure Ce (w wr : World) (Q : Nat → Prop) (A s z n ln lc : Nat) (dc : Array Value) (lp : Option Addr) (AL : List Wd) (V : List (List Int)) (t : TS) (pj tpj : Option Addr) (cj tcj nj Fj : Nat) : Prop where
  bD : wr.heap[A]? = some (.cells dc 36 (0, 0))
  bR : wr.heap[A + 1]? = some (.cells rdz 36 (0, 0))
  b3 : wr.heap[A + 1 + 1]? = some (.cells #[.slice pj n cj, .int .i64 (s : Nat)] 30 (0, 0))
  b4 : wr.heap[A + 1 + 1 + 1]? = some (.cells #[.slice tpj nj tcj, .int .i64 (Fj : Nat), .int .i64 (z : Nat)] 33 (0, 0))
  rv : RV wr (fun k => Q k ∧ ¬ (A ≤ k ∧ k < A + 4)) pj cj s V
  rt : Rt wr tpj tcj t.B
  tq : 0 < t.B.length → ∀ a, tpj = some a → Q a.block ∧ ¬ (A ≤ a.block ∧ a.block < A + 4)
  hn : t.B.length = nj
  hF : t.f * z = Fj
  row : SlG ewd 4 wd0' wr lp ln lc AL
  lq : 0 < ln → ∀ a, lp = some a → ¬ (A ≤ a.block ∧ a.block < A + 4)
  ok : ∀ y ∈ AL, y.ok wr (fun k => Q k ∧ ¬ (A ≤ k ∧ k < A + 4))
  below : Below w.heap.size w wr
  size : A + 4 ≤ wr.heap.size
  hA : w.heap.size = A
  hV : V.length = n
/-- The write that is next. -/
theorem Ce.next {w wr : World} {Q : Nat → Prop} {A s z n ln lc : Nat} {dc : Array Value} {lp : Option Addr} {AL : List Wd} {V : List (List Int)} {t : TS} {j : Nat} {pj tpj : Option Addr} {cj tcj nj Fj : Nat} (h : Ce w wr Q A s z n ln lc dc lp AL V t pj tpj cj tcj nj Fj)
    (hj : j < ln) (hQ : ∀ k, w.heap.size ≤ k → Q k) (hn4 : n ≤ 1024) (hs4 : s ≤ 4096) (hz : 64 ≤ z ∧ z ≤ 4096) (hbig : t.len z + wts ((AL.map Wd.x).drop j) ≤ 1000000) (x : Int) :
    ∃ (y : Wd) (b off : Nat), lp = some ⟨b, off, none⟩ ∧ wr.cell? ⟨b, off + j * 4, none⟩ = some (.int .i64 (y.k : Nat)) ∧ wr.cell? ⟨b, off + j * 4 + 1, none⟩ = some (.int .i64 y.i) ∧ wr.cell? ⟨b, off + j * 4 + 2, none⟩ = some (.slice y.q y.m y.cq) ∧ wr.cell? ⟨b, off + j * 4 + 3, none⟩ = some (.int .i64 y.n) ∧
      (∀ k, Calls Try.prog 46 #[.agg #[.slice pj n cj, .int .i64 (s : Nat)], .agg #[.slice tpj nj tcj, .int .i64 (Fj : Nat), .int .i64 (z : Nat)], .agg #[.int .i64 (y.k : Nat), .int .i64 y.i, .slice y.q y.m y.cq, .int .i64 y.n], .int .i64 x] (wr.drewN k) (Rnd wr (fun k => Q k ∧ ¬ (A ≤ k ∧ k < A + 4)) s z n (dwVx s x V y.x) (dwTx z x t y.x))) ∧
      (AL.map Wd.x).drop j = y.x :: (AL.map Wd.x).drop (j + 1) ∧ (AL.map Wd.x).take (j + 1) = (AL.map Wd.x).take j ++ [y.x] := by
  have hl := h.row.len
  have hjl : j < AL.length := by omega
  have hjm : j < (AL.map Wd.x).length := by rw [List.length_map]; omega
  obtain ⟨b, off, rfl, hlt, hc⟩ := h.row.cell (by omega)
  obtain ⟨e1, e2⟩ := take_next (AL.map Wd.x) j hjm
  have hy : AL.getD j wd0' = AL[j] := by rw [List.getD, List.getElem?_eq_getElem hjl]; rfl
  have hx : (AL.map Wd.x)[j] = (AL[j]).x := List.getElem_map ..
  have hok := h.ok _ (List.getElem_mem hjl)
  have hs := h.size
  rw [hx] at e1 e2
  have hw : wts ((AL.map Wd.x).drop j) = (AL[j]).x.wt + wts ((AL.map Wd.x).drop (j + 1)) := by rw [e2, wts_cons]
  refine ⟨AL[j], b, off, rfl, hc j hj 0 _ (by rw [hy]; rfl), hc j hj 1 _ (by rw [hy]; rfl), hc j hj 2 _ (by rw [hy]; rfl), hc j hj 3 _ (by rw [hy]; rfl), fun k => ?_, e2, e1⟩
  have hb : Below wr.heap.size wr (wr.drewN k) := below_drewN (Below.refl _ _) k
  rw [← h.hn, ← h.hF]
  have hsz := hb.size
  exact (rdo_any pj tpj cj tcj n s z _ _ AL[j] x (wr.drewN k) _ (fun k hk => ⟨hQ k (by have := h.hA; omega), by omega⟩) (h.rv.later hb) h.hV hn4 hs4 hz (h.rt.later hb) h.tq (hok.later hb) (by omega)).mono fun e w5 h => RdDo.rnd h
/-- One more is done. -/
theorem Ce.step {w wr w5 W' : World} {Q : Nat → Prop} {A s z n ln lc : Nat} {dc : Array Value} {lp : Option Addr} {AL : List Wd} {V V2 : List (List Int)} {t t2 : TS} {pj tpj : Option Addr} {cj tcj nj Fj : Nat} (h : Ce w wr Q A s z n ln lc dc lp AL V t pj tpj cj tcj nj Fj)
    {p5 tp5 : Option Addr} {c5 tc5 n5 F5 : Nat} (h5 : Hid (RV w5 (fun k => Q k ∧ ¬ (A ≤ k ∧ k < A + 4)) p5 c5 s V2 ∧ Rt w5 tp5 tc5 t2.B ∧ (0 < t2.B.length → ∀ a, tp5 = some a → Q a.block ∧ ¬ (A ≤ a.block ∧ a.block < A + 4)) ∧ t2.B.length = n5 ∧ t2.f * z = F5 ∧ Below wr.heap.size wr w5)) (hV2 : V2.length = V.length)
    (h3 : W'.heap[A + 1 + 1]? = some (.cells #[.slice p5 n c5, .int .i64 (s : Nat)] 30 (0, 0))) (h4 : W'.heap[A + 1 + 1 + 1]? = some (.cells #[.slice tp5 n5 tc5, .int .i64 (F5 : Nat), .int .i64 (z : Nat)] 33 (0, 0))) (hc : Chg (fun k => k = A + 1 + 1 ∨ k = A + 1 + 1 + 1) w5 W') :
    Ce w W' Q A s z n ln lc dc lp AL V2 t2 p5 tp5 c5 tc5 n5 F5 := by
  obtain ⟨hrv, hrt, htq, hn5, hF5, hb⟩ := h5.out
  have hs := h.size
  have hA := h.hA
  have hb5 := hb.size
  have hall : Chg (fun k => k = A + 1 + 1 ∨ k = A + 1 + 1 + 1) wr W' := (Chg.of_below (S := fun k => k = A + 1 + 1 ∨ k = A + 1 + 1 + 1) hb).trans hc fun _ _ h => h
  refine ⟨(hall.block _ (by omega) (by omega)).trans h.bD, (hall.block _ (by omega) (by omega)).trans h.bR, h3, h4, hrv.keep hc fun k hk hs => by omega, hrt.keep hc fun h0 a ha hs => by have := (htq h0 a ha).2; omega, htq, hn5, hF5, ?_, h.lq, ?_, ?_, ?_, hA, by rw [hV2]; exact h.hV⟩
  · exact h.row.turn hall.size fun h0 a ha hlt => hall.block _ hlt (by have := h.lq h0 a ha; omega)
  · exact fun y hy => (h.ok y hy).keep hall fun k hk hs => by omega
  · exact hall.below h.below h.below.size fun k hk => by omega
  · have := hall.size; omega
end Go.Proofs.Ytdkpjaobfohdfaa
