/- A tape and the document's beside it, through acts. -/
import Derived.Test.YtafpbgogjnbfpaaTapeOpen
import Derived.Test.YtafpbgogjnbfpaaTapeSame
namespace Go.Proofs.Ytafpbgogjnbfpaa
open Go.RowKit Go.ChangeShapes Go.WideShapes
set_option linter.unusedVariables false
set_option linter.unusedSimpArgs false

/-- A tape, and the document's beside it, at block X9; all since w. -/
structure Pl (w W : World) (T : Nat) (mb : Option Nat) (Q : Nat → Prop) (a : Int) (s X9 : Nat) (p : Option Addr) (c : Nat) (t : TS) : Prop where
  tp : Tp W T mb Q a s t
  rt : Rt W p c t.B
  blk : W.heap[X9]? = some (.cells #[.slice p t.B.length c, .int .i64 (t.f * s : Nat), .int .i64 (s : Nat)] 29 (0, 0))
  below : Below w.heap.size w W
  lo : w.heap.size ≤ X9
  q : ∀ k, Q k → w.heap.size ≤ k ∧ k < W.heap.size
  apart : 0 < t.B.length → ∀ a, p = some a → ¬ Q a.block
  px : 0 < t.B.length → ∀ a, p = some a → a.block ≠ X9
  nq : ¬ Q X9
theorem Pl.later {w W W' : World} {T : Nat} {mb : Option Nat} {Q : Nat → Prop} {a : Int} {s X9 : Nat} {p : Option Addr} {c : Nat} {t : TS} (h : Pl w W T mb Q a s X9 p c t) (hb : Below W.heap.size W W') : Pl w W' T mb Q a s X9 p c t :=
  ⟨h.tp.later hb, h.rt.later hb, block_later h.blk hb, h.below.trans (hb.mono h.below.size), h.lo, fun k hk => ⟨(h.q k hk).1, Nat.lt_of_lt_of_le (h.q k hk).2 hb.size⟩, h.apart, h.px, h.nq⟩
theorem Pl.drewN {w W : World} {T : Nat} {mb : Option Nat} {Q : Nat → Prop} {a : Int} {s X9 : Nat} {p : Option Addr} {c : Nat} {t : TS} (h : Pl w W T mb Q a s X9 p c t) (q : Nat) : Pl w (W.drewN q) T mb Q a s X9 p c t := h.later (below_drewN (Below.refl _ _) q)
/-- Behind an act: ahead of the store, and behind it. -/
theorem Pl.act {w W w5 : World} {T q : Nat} {mb : Option Nat} {Q : Nat → Prop} {a : Int} {s X9 : Nat} {p : Option Addr} {c : Nat} {t t' : TS} {e : Ending} (h : Pl w W T mb Q a s X9 p c t) (hd : Did (W.drewN q) T Q a s s p t t' t' e w5) :
    ∃ p' c' n' F', ∃ mb', ∃ Q' : Nat → Prop, e = .returned (rv p' n' c' F' s) ∧
      (w5.cell? ⟨X9, 0, none⟩ = some (.slice p t.B.length c) ∧ w5.cell? ⟨X9, 1, none⟩ = some (.int .i64 (t.f * s : Nat)) ∧ w5.cell? ⟨X9, 2, none⟩ = some (.int .i64 (s : Nat)) ∧ w5.frozen? ⟨X9, 0, none⟩ = false ∧ w5.frozen? ⟨X9, 1, none⟩ = false ∧ w5.frozen? ⟨X9, 2, none⟩ = false) ∧ Hid (n' = t'.B.length) ∧ Hid (F' = t'.f * s) ∧
      Hid (Pl w (((w5.setCell ⟨X9, 0, none⟩ (.slice p' n' c')).setCell ⟨X9, 1, none⟩ (.int .i64 (F' : Nat))).setCell ⟨X9, 2, none⟩ (.int .i64 (s : Nat))) T mb' Q' a s X9 p' c' t') := by
  obtain ⟨p', c', mb', Q', he, htp, hrt, hc, hq1, hq2, hap⟩ := hd
  have hc' : Chg Q W w5 := hc.undrew
  have hX := block_lt h.blk
  have h9 := (hc'.block X9 hX h.nq).trans h.blk
  have hs : (W.drewN q).heap.size = W.heap.size := rfl
  have hbs := h.below.size
  have hlo := h.lo
  have hcs := hc'.size
  have hC : Chg (fun k => k = X9) w5 (((w5.setCell ⟨X9, 0, none⟩ (.slice p' t'.B.length c')).setCell ⟨X9, 1, none⟩ (.int .i64 (t'.f * s : Nat))).setCell ⟨X9, 2, none⟩ (.int .i64 (s : Nat))) := (((Chg.refl (fun k => k = X9) w5).setCell ⟨X9, 0, none⟩ _ fun _ => rfl).setCell ⟨X9, 1, none⟩ _ fun _ => rfl).setCell ⟨X9, 2, none⟩ _ fun _ => rfl
  have hnq : ¬ Q' X9 := fun h' => by
    rcases hq1 X9 h' with h2 | h2
    · exact h.nq h2
    · rw [hs] at h2
      omega
  have hpx : 0 < t'.B.length → ∀ a, p' = some a → a.block ≠ X9 := fun h0 ad ha => by
    rcases (hap h0 ad ha).2 with ⟨a2, h2, h3, h4⟩ | h2
    · rw [← h3]
      exact h.px h4 a2 h2
    · rw [hs] at h2
      omega
  refine ⟨p', c', _, _, mb', Q', he, ⟨block_cell h9 rfl, block_cell h9 rfl, block_cell h9 rfl, block_free 0 h9, block_free 1 h9, block_free 2 h9⟩, Lib.hid rfl, Lib.hid rfl, Lib.hid ⟨htp.keep hC (fun k hk e => hnq (by rw [← e]; exact hk)), hrt.keep hC hpx, block_put 2 _ (block_put 1 _ (block_put 0 _ h9)), ?_, h.lo, fun k hk => ⟨?_, ?_⟩, fun h0 ad ha => (hap h0 ad ha).1, hpx, hnq⟩⟩
  · have h5 := hc'.below h.below hbs fun k hk => (h.q k hk).1
    exact hC.below h5 h5.size fun k hk => by omega
  · rcases hq1 k hk with h2 | h2
    · exact (h.q k h2).1
    · rw [hs] at h2
      omega
  · have := hq2 k hk
    have := hC.size
    omega
/-- The beginning. -/
theorem pl_start {w W2 : World} {a : Int} {s : Nat} (hs : s = cl a 64 4096) (hb : Below (w.alloc (.cells #[.int .i64 a, .int .i64 0, .int .i64 0, .map none] 47)).heap.size (w.alloc (.cells #[.int .i64 a, .int .i64 0, .int .i64 0, .map none] 47)) W2) :
    Pl w (W2.alloc (.cells #[.slice none 0 0, .int .i64 0, .int .i64 (s : Nat)] 29)) w.heap.size none (fun k => k = w.heap.size) a s W2.heap.size none 0 ⟨0, []⟩ := by
  have hs1 : (w.alloc (.cells #[.int .i64 a, .int .i64 0, .int .i64 0, .map none] 47)).heap.size = w.heap.size + 1 := by simp
  have hb1 : Below w.heap.size w (w.alloc (.cells #[.int .i64 a, .int .i64 0, .int .i64 0, .map none] 47)) := (Below.refl _ _).alloc (Nat.le_refl _) _
  have hbx : Below W2.heap.size W2 (W2.alloc (.cells #[.slice none 0 0, .int .i64 0, .int .i64 (s : Nat)] 29)) := (Below.refl _ _).alloc (Nat.le_refl _) _
  have hsz := hb.size
  have hsx := hbx.size
  have htp : Tp (w.alloc (.cells #[.int .i64 a, .int .i64 0, .int .i64 0, .map none] 47)) w.heap.size none (fun k => k = w.heap.size) a s ⟨0, []⟩ := by
    rw [hs]
    exact (new_tape w a).mono fun k h1 h2 => by rw [hs1] at h2; omega
  refine ⟨(htp.later hb).later hbx, Rt.nil _, ?_, (hb1.trans (hb.mono hb1.size)).trans (hbx.mono (by omega)), by omega, fun k hk => ⟨by omega, by omega⟩, (fun h => by simp at h), (fun h => by simp at h), by omega⟩
  have := alloc_block W2 (.cells #[.slice none 0 0, .int .i64 0, .int .i64 (s : Nat)] 29)
  simpa using this
/-- What an act of the list does, wherever the world stands. -/
theorem Pl.calls {w W : World} {T : Nat} {mb : Option Nat} {Q : Nat → Prop} {a : Int} {s X9 : Nat} {p : Option Addr} {c : Nat} {t : TS} (h : Pl w W T mb Q a s X9 p c t) {y : Ac} (hy : BL w y.q y.m y.cq y.b ∧ y.k < 256) (hm : y.m ≤ 600) (hbig : t.f * s + t.B.length ≤ 24000) (q : Nat) :
    Calls Try.prog 11 #[.pointer (some ⟨T, 0, none⟩), rv p t.B.length c (t.f * s) s, .agg #[.int .u8 (y.k : Nat), .slice y.q y.m y.cq, .int .i64 y.x]] (W.drewN q) (Did (W.drewN q) T Q a s s p t (actT s t y.k y.b y.x) (actT s t y.k y.b y.x)) := by
  have h' := h.drewN q
  have hbl : BL (W.drewN q) y.q y.m y.cq y.b := SlG.later hy.1 h'.below
  refine do_any h'.tp (fun k hk => (h'.q k hk).2) p c s t h'.rt h'.apart h'.tp.s_in y.k hy.2 y.q y.m y.cq y.b y.x hbl (fun h0 ad ha hq => ?_) (by omega) (by omega)
  obtain ⟨b, off, he, hlt, _⟩ := BL.at hy.1 h0
  rw [he] at ha
  cases ha
  have h9 : w.heap.size ≤ b := (h'.q _ hq).1
  omega
end Go.Proofs.Ytafpbgogjnbfpaa
