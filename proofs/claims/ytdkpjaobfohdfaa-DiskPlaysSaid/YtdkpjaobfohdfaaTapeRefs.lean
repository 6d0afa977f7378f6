/- The document's tape, by value: Append, Cut. -/
import Derived.Test.YtdkpjaobfohdfaaTapeRef
import Derived.StillTailTactics
namespace Go.Proofs.Ytdkpjaobfohdfaa
open Go.RowKit Go.ChangeShapes Go.WideShapes
set_option linter.unusedVariables false
set_option maxRecDepth 10000
set_option linter.unusedSimpArgs false

/-- What a call that hands back the document's tape says. -/
def RefGives (w : World) (p : Option Addr) (s : Nat) (t t' : TS) (e : Ending) (w' : World) : Prop := ∃ p' c', e = .returned (rv p' t'.B.length c' (t'.f * s) s) ∧ Rt w' p' c' t'.B ∧ (0 < t'.B.length → ∀ a', p' = some a' → (∃ a, p = some a ∧ a.block = a'.block ∧ 0 < t.B.length) ∨ w.heap.size ≤ a'.block) ∧ Below w.heap.size w w'
/-- The result's block, written. -/
theorem ref_end {w W2 : World} {R : Nat} {a0 a1 a2 : Value} (hb : Below w.heap.size w W2) (hR : w.heap.size ≤ R) (hA : W2.heap[R]? = some (.cells #[a0, a1, a2] 33 (0, 0))) (v0 v1 v2 : Value) :
    (((W2.setCell ⟨R, 0, none⟩ v0).setCell ⟨R, 1, none⟩ v1).setCell ⟨R, 2, none⟩ v2).heap[R]? = some (.cells #[v0, v1, v2] 33 (0, 0)) ∧ Below w.heap.size w (((W2.setCell ⟨R, 0, none⟩ v0).setCell ⟨R, 1, none⟩ v1).setCell ⟨R, 2, none⟩ v2) ∧ Chg (fun k => k = R) W2 (((W2.setCell ⟨R, 0, none⟩ v0).setCell ⟨R, 1, none⟩ v1).setCell ⟨R, 2, none⟩ v2) := by
  have hc : Chg (fun k => k = R) W2 (((W2.setCell ⟨R, 0, none⟩ v0).setCell ⟨R, 1, none⟩ v1).setCell ⟨R, 2, none⟩ v2) := (((Chg.refl (fun k => k = R) W2).setCell ⟨R, 0, none⟩ _ fun _ => rfl).setCell ⟨R, 1, none⟩ _ fun _ => rfl).setCell ⟨R, 2, none⟩ _ fun _ => rfl
  exact ⟨block_put 2 _ (block_put 1 _ (block_put 0 _ hA)), hc.below hb hb.size fun k hk => by omega, hc⟩
/-- The two blocks that such a call lays. -/
theorem ref_two (w : World) (u0 u1 u2 : Value) : ((w.alloc (.cells #[u0, u1, u2] 33)).alloc (.cells #[.slice none 0 0, .int .i64 0, .int .i64 0] 33)).heap[w.heap.size]? = some (.cells #[u0, u1, u2] 33 (0, 0)) ∧
    ((w.alloc (.cells #[u0, u1, u2] 33)).alloc (.cells #[.slice none 0 0, .int .i64 0, .int .i64 0] 33)).heap[w.heap.size + 1]? = some (.cells #[.slice none 0 0, .int .i64 0, .int .i64 0] 33 (0, 0)) ∧
    Below w.heap.size w ((w.alloc (.cells #[u0, u1, u2] 33)).alloc (.cells #[.slice none 0 0, .int .i64 0, .int .i64 0] 33)) := by
  have hs : (w.alloc (.cells #[u0, u1, u2] 33)).heap.size = w.heap.size + 1 := by simp
  have h2 := alloc_block (w.alloc (.cells #[u0, u1, u2] 33)) (.cells #[.slice none 0 0, .int .i64 0, .int .i64 0] 33)
  rw [hs] at h2
  exact ⟨block_later (alloc_block w _) ((Below.refl _ _).alloc (Nat.le_refl _) _), h2, ((Below.refl _ _).alloc (Nat.le_refl _) _).alloc (by omega) _⟩
theorem RowB.not_ref {w : World} {p : Option Addr} {n c R : Nat} {L : List Int} {cs : Array Value} {zz : Nat × Nat} (h : RowB w (.slice p n c) n L) (hR : w.heap[R]? = some (.cells cs 33 zz)) : ∀ k, (Value.slice p n c).ownBlock = some k → ¬ k = R := by
  intro k hk e
  rcases h.own.2 with ⟨h3, _⟩ | ⟨g3, c3, cur3, h3, _, h4, _⟩
  · rw [h3] at hk
    cases hk
  · rw [h3] at hk
    cases hk
    have e' : g3 = R := e
    rw [e', hR] at h4
    cases h4
set_option maxHeartbeats 1000000 in
theorem refapp_any (p : Option Addr) (c s : Nat) (t : TS) (q : Option Addr) (m cq : Nat) (b : List Int) (w : World) (h : Rt w p c t.B) (hq : BL w q m cq b) (hbig : t.B.length + m ≤ 1000000) :
    Calls Try.prog 59 #[rv p t.B.length c (t.f * s) s, .slice q m cq] w (RefGives w p s t (appT t b)) := by
  obtain ⟨h0, h1, hb1⟩ := ref_two w (.slice p t.B.length c) (.int .i64 (t.f * s : Nat)) (.int .i64 (s : Nat))
  have HBL := Lib.hid (h.later hb1).bl
  have HQ := Lib.hid (SlG.later hq hb1)
  have HA := Lib.hid h0
  have HZ := Lib.hid h1
  have HB1 := Lib.hid hb1
  have HAPP : Hid (appT t b = ⟨t.f, t.B ++ b⟩) := Lib.hid rfl
  have HM := Lib.hid hq.len
  clear h0 h1 hb1 h hq
  generalize hn : t.B.length = n at *
  have HN := Lib.hid hn
  generalize hF : t.f * s = F at *
  have HF := Lib.hid hF
  generalize hW1 : (w.alloc (.cells #[.slice p n c, .int .i64 (F : Nat), .int .i64 (s : Nat)] 33)).alloc (.cells #[.slice none 0 0, .int .i64 0, .int .i64 0] 33) = W1 at *
  have HR0 := Lib.hid (RowB.nil W1)
  have hX0 : Hid (w.heap.size = w.heap.size) := Lib.hid rfl
  have x0 := block_cell (j := 0) HA.out (v := .slice p n c) rfl
  clear hn hF
  unfold rv
  go_enter Try.func59, Try.ntmps59
  have HQ9 : Hid (∀ w3, Chg (fun k => (Value.slice none 0 0).ownBlock = some k) W1 w3 → BL w3 q m cq b) := Lib.hid fun w3 hc => BL.keep HQ.out hc fun _ _ _ e => by cases e
  go_wp2_with (first
    | (at_builtin; (try simp only [hW1]); refine wpList_append_rb rfl _ _ rfl _ _ _ rfl HR0.out _ n c t.B rfl HBL.out (by omega) ?_; intro p3 c3 w3 hr3 hc3 hl3 hn3; rw [Nat.zero_add] at hr3 hl3)
    | (at_builtin; refine wpList_append_rb rfl _ _ rfl (.slice p3 n c3) n ([] ++ t.B) rfl hr3 q m cq b rfl (HQ9.out w3 hc3) hbig ?_; intro p4 c4 w4 hr4 hc4 hl4 hn4; have hb3 : Below W1.heap.size W1 w3 := hc3.below (Below.refl _ _) (Nat.le_refl _) (fun k hk => by cases hk); have hb4 : Below W1.heap.size W1 w4 := hc4.below hb3 hb3.size (fun k hk => by rcases hl3 k hk with h | h; cases h; exact h); have y1 := block_cell (j := 1) (block_later HA.out hb4) (v := .int .i64 (F : Nat)) rfl; have y2 := block_cell (j := 2) (block_later HA.out hb4) (v := .int .i64 (s : Nat)) rfl; have z0 := block_cell (j := 0) (block_later HZ.out hb4) (v := .slice none 0 0) rfl; have z1 := block_cell (j := 1) (block_later HZ.out hb4) (v := .int .i64 0) rfl; have z2 := block_cell (j := 2) (block_later HZ.out hb4) (v := .int .i64 0) rfl; have f0 := block_free 0 (block_later HZ.out hb4); have f1 := block_free 1 (block_later HZ.out hb4); have f2 := block_free 2 (block_later HZ.out hb4))
    | fail)
  have hfin := ref_end (HB1.out.trans (hb4.mono HB1.out.size)) (Nat.le_succ w.heap.size) (block_later HZ.out hb4) (.slice p4 (n + m) c4) (.int .i64 (F : Nat)) (.int .i64 (s : Nat))
  obtain ⟨e1, e2, e3⟩ := hfin
  have HE1 := Lib.hid e1
  have hl4' : (t.B ++ b).length = n + m := by rw [List.length_append, HN.out, HM.out]
  refine bodyPost_ret (v := rv p4 (n + m) c4 F s) ?_ rfl ?_
  · exact results_cell_row rfl _ _ (w.heap.size + 1) 33 _ (0, 0) _ rfl HE1.out Try.underlying33 rfl (by kernel_rfl)
  · have hr5 := hr4.keep e3 fun k hk => hr4.not_ref (block_later HZ.out hb4) k hk
    rw [List.nil_append] at hr5
    obtain ⟨p', c', he, hbl, hown, hg⟩ := hr5.sl
    cases he
    refine ⟨p4, c4, ?_, ⟨?_, fun ad ha => ?_⟩, fun h0 ad ha => .inr ?_, e2⟩
    · rw [HAPP.out]
      show _ = Ending.returned (rv p4 (t.B ++ b).length c4 (t.f * s) s)
      rw [hl4', HF.out]
    · rw [HAPP.out]
      show BL _ p4 (t.B ++ b).length c4 (t.B ++ b)
      rw [hl4']
      exact hbl
    · subst ha
      rcases hr5.own.2 with ⟨h3, _⟩ | ⟨g3, c3', cur3, h3, _⟩
      · cases h3
      · cases h3
        rfl
    · have hk := hown ad ha
      have h1 := HB1.out.size
      rcases hl4 _ hk with h | h
      · rcases hl3 _ h with h' | h'
        · cases h'
        · omega
      · have := hb3.size
        omega
end Go.Proofs.Ytdkpjaobfohdfaa
