/- One tape, through acts, with nothing of the document's beside it. -/
import Derived.Test.YtafpbgogjnbfpaaTapeDuo
namespace Go.Proofs.Ytafpbgogjnbfpaa
open Go.RowKit Go.ChangeShapes Go.WideShapes
set_option linter.unusedVariables false
set_option linter.unusedSimpArgs false

/-- What is there behind an act has the bytes that it had. -/
theorem act_stays {s : Nat} (hs : 0 < s) (t : TS) (k : Nat) (b : List Int) (n : Int) : t.f * s ≤ (actT s t k b n).f * s ∧ ∀ i, (actT s t k b n).f * s ≤ i → i < t.f * s + t.B.length → i < (actT s t k b n).f * s + (actT s t k b n).B.length → (actT s t k b n).B.getD (i - (actT s t k b n).f * s) 0 = t.B.getD (i - t.f * s) 0 := by
  unfold actT
  split
  · obtain ⟨_, _, h3, _⟩ := gone_spec hs t n
    have e1 : (dropT s t n).f * s = t.f * s + gone s t n * s := h3
    have e2 : (dropT s t n).B = t.B.drop (gone s t n * s) := rfl
    rw [e1, e2]
    refine ⟨by omega, fun i h1 h2 h4 => ?_⟩
    rw [List.getD, List.getD, List.getElem?_drop, show gone s t n * s + (i - (t.f * s + gone s t n * s)) = i - t.f * s by omega]
  · split
    · have e1 : (cutT s t n).f = t.f := rfl
      have e2 : (cutT s t n).B = t.B.take (left' s t n) := rfl
      have e3 := cut_len s t n
      rw [e1]
      refine ⟨Nat.le_refl _, fun i h1 h2 h4 => ?_⟩
      rw [e3] at h4
      rw [e2, List.getD, List.getD, List.getElem?_take, if_pos (by omega)]
    · have e1 : (appT t b).f = t.f := rfl
      have e2 : (appT t b).B = t.B ++ b := rfl
      rw [e1, e2]
      refine ⟨Nat.le_refl _, fun i h1 h2 h4 => ?_⟩
      rw [List.getD, List.getD, List.getElem?_append_left (by omega)]
theorem bytes_all (s : Nat) (t : TS) : bytesT s t (-1) = t.B := by
  have : fromT s t (-1) = 0 := by unfold fromT; omega
  unfold bytesT
  rw [this, List.drop_zero]
/-- A tape, all of it since w. -/
structure Solo (w W : World) (T : Nat) (mb : Option Nat) (Q : Nat → Prop) (a : Int) (s : Nat) (t : TS) : Prop where
  tp : Tp W T mb Q a s t
  below : Below w.heap.size w W
  q : ∀ k, Q k → w.heap.size ≤ k ∧ k < W.heap.size
theorem Solo.later {w W W' : World} {T : Nat} {mb : Option Nat} {Q : Nat → Prop} {a : Int} {s : Nat} {t : TS} (h : Solo w W T mb Q a s t) (hb : Below W.heap.size W W') : Solo w W' T mb Q a s t :=
  ⟨h.tp.later hb, h.below.trans (hb.mono h.below.size), fun k hk => ⟨(h.q k hk).1, Nat.lt_of_lt_of_le (h.q k hk).2 hb.size⟩⟩
theorem solo_start (w : World) (a : Int) : Solo w (w.alloc (.cells #[.int .i64 a, .int .i64 0, .int .i64 0, .map none] 47)) w.heap.size none (fun k => k = w.heap.size) a (cl a 64 4096) ⟨0, []⟩ := by
  have hs1 : (w.alloc (.cells #[.int .i64 a, .int .i64 0, .int .i64 0, .map none] 47)).heap.size = w.heap.size + 1 := by simp
  exact ⟨(new_tape w a).mono fun k h1 h2 => by rw [hs1] at h2; omega, (Below.refl _ _).alloc (Nat.le_refl _) _, fun k hk => ⟨by omega, by omega⟩⟩
/-- Behind an act; nothing else turned. -/
theorem Solo.act {w W w5 : World} {T : Nat} {mb : Option Nat} {Q : Nat → Prop} {a : Int} {s sr : Nat} {p : Option Addr} {r r' t t' : TS} {e : Ending} (h : Solo w W T mb Q a s t) (hd : Did W T Q a s sr p r t' r' e w5) :
    ∃ v mb', ∃ Q' : Nat → Prop, e = .returned v ∧ Hid (Solo w w5 T mb' Q' a s t') ∧ Hid (Chg Q W w5) := by
  obtain ⟨p', c', mb', Q', he, htp, hrt, hc, hq1, hq2, hap⟩ := hd
  have hws := h.below.size
  refine ⟨_, mb', Q', he, Lib.hid ⟨htp, hc.below h.below hws fun k hk => (h.q k hk).1, fun k hk => ⟨?_, hq2 k hk⟩⟩, Lib.hid hc⟩
  rcases hq1 k hk with h2 | h2
  · exact (h.q k h2).1
  · omega
theorem Solo.calls {w W : World} {T : Nat} {mb : Option Nat} {Q : Nat → Prop} {a : Int} {s : Nat} {t : TS} (h : Solo w W T mb Q a s t) {y : Ac} (hy : BL w y.q y.m y.cq y.b ∧ y.k < 256) (hm : y.m ≤ 600) (hbig : t.f * s + t.B.length ≤ 24600) :
    Calls Try.prog 11 #[.pointer (some ⟨T, 0, none⟩), .agg #[.slice none 0 0, .int .i64 0, .int .i64 64], .agg #[.int .u8 (y.k : Nat), .slice y.q y.m y.cq, .int .i64 y.x]] W fun e w5 => ∃ v mb', ∃ Q' : Nat → Prop, e = .returned v ∧ Hid (Solo w w5 T mb' Q' a s (actT s t y.k y.b y.x)) ∧ Hid (Chg Q W w5) := by
  have hc := do_any h.tp (fun k hk => (h.q k hk).2) none 0 64 ⟨0, []⟩ (Rt.nil W) (fun h0 ad ha => by cases ha) ⟨by omega, by omega⟩ y.k hy.2 y.q y.m y.cq y.b y.x (SlG.later hy.1 h.below) (fun h0 ad ha hq => by
    obtain ⟨b, off, he, hlt, _⟩ := BL.at hy.1 h0
    rw [he] at ha
    cases ha
    have h9 : w.heap.size ≤ b := (h.q _ hq).1
    omega) (by omega) (by show 0 * 64 + 0 + y.m ≤ 1000000; omega)
  exact Calls.mono hc fun e w5 hd => h.act hd
end Go.Proofs.Ytafpbgogjnbfpaa
