/- A tape and its copy, each with the document's beside it. -/
import Derived.Test.YtafpbgogjnbfpaaTapePl
import Derived.Test.YtafpbgogjnbfpaaTapeCopies
namespace Go.Proofs.Ytafpbgogjnbfpaa
open Go.RowKit Go.ChangeShapes Go.WideShapes
set_option linter.unusedVariables false
set_option linter.unusedSimpArgs false

/-- A row's block lies in the world. -/
theorem Rt.inw {w : World} {p : Option Addr} {c : Nat} {B : List Int} (h : Rt w p c B) (h0 : 0 < B.length) : ∀ a, p = some a → a.block < w.heap.size := fun a ha => by
  obtain ⟨b, off, he, hl, _⟩ := BL.at h.bl h0
  rw [he] at ha
  cases ha
  exact hl
/-- Behind the copy. -/
structure Duo (w W : World) (T : Nat) (mb : Option Nat) (Q : Nat → Prop) (U : Nat) (mu : Option Nat) (R : Nat → Prop) (a : Int) (s X9 : Nat) (p : Option Addr) (c : Nat) (t : TS) : Prop where
  tp : Tp W T mb Q a s t
  tu : Tp W U mu R a s t
  rt : Rt W p c t.B
  blk : W.heap[X9]? = some (.cells #[.slice p t.B.length c, .int .i64 (t.f * s : Nat), .int .i64 (s : Nat)] 29 (0, 0))
  below : Below w.heap.size w W
  q : ∀ k, Q k → w.heap.size ≤ k ∧ k < W.heap.size
  r : ∀ k, R k → w.heap.size ≤ k ∧ k < W.heap.size
  qr : ∀ k, Q k → ¬ R k
  pq : 0 < t.B.length → ∀ a, p = some a → ¬ Q a.block ∧ ¬ R a.block
  nq : ¬ Q X9 ∧ ¬ R X9
theorem Pl.copied {w W W' : World} {T U : Nat} {mb mu : Option Nat} {Q : Nat → Prop} {a : Int} {s X9 : Nat} {p : Option Addr} {c : Nat} {t : TS} (h : Pl w W T mb Q a s X9 p c t) (hu : Tp W' U mu (fun k => W.heap.size ≤ k) a s t) (hb : Below W.heap.size W W') :
    Duo w W' T mb Q U mu (fun k => W.heap.size ≤ k ∧ k < W'.heap.size) a s X9 p c t := by
  have h' := h.later hb
  have hs := h.below.size
  have h9 := block_lt h.blk
  exact ⟨h'.tp, hu.mono fun k h1 h2 => ⟨h1, h2⟩, h'.rt, h'.blk, h'.below, h'.q, fun k hk => ⟨by omega, hk.2⟩, fun k hk hr => by have := (h.q k hk).2; omega,
    fun h0 ad ha => ⟨h.apart h0 ad ha, fun hr => by have := h.rt.inw h0 ad ha; omega⟩, h.nq, fun hr => by omega⟩
/-- Behind the act on the first one. -/
structure Duo1 (w W : World) (T : Nat) (mb : Option Nat) (Q : Nat → Prop) (U : Nat) (mu : Option Nat) (R : Nat → Prop) (a : Int) (s X9 : Nat) (p : Option Addr) (c : Nat) (t : TS) (XA : Nat) (pa : Option Addr) (ca : Nat) (ta : TS) : Prop where
  tp : Tp W T mb Q a s ta
  tu : Tp W U mu R a s t
  rt : Rt W p c t.B
  blk : W.heap[X9]? = some (.cells #[.slice p t.B.length c, .int .i64 (t.f * s : Nat), .int .i64 (s : Nat)] 29 (0, 0))
  ra : Rt W pa ca ta.B
  bla : W.heap[XA]? = some (.cells #[.slice pa ta.B.length ca, .int .i64 (ta.f * s : Nat), .int .i64 (s : Nat)] 29 (0, 0))
  below : Below w.heap.size w W
  r : ∀ k, R k → w.heap.size ≤ k ∧ k < W.heap.size
  qr : ∀ k, Q k → ¬ R k
  pq : 0 < t.B.length → ∀ a, p = some a → ¬ R a.block
  pa : 0 < ta.B.length → ∀ a, pa = some a → ¬ R a.block
  nq : ¬ R X9 ∧ ¬ R XA
theorem Duo.act {w W w5 : World} {T U : Nat} {mb mu : Option Nat} {Q R : Nat → Prop} {a : Int} {s X9 : Nat} {p : Option Addr} {c : Nat} {t ta : TS} {e : Ending} (h : Duo w W T mb Q U mu R a s X9 p c t) (hd : Did W T Q a s s p t ta ta e w5) :
    ∃ p' n' c' F', ∃ mb', ∃ Q' : Nat → Prop, e = .returned (rv p' n' c' F' s) ∧ Hid (n' = ta.B.length) ∧ Hid (F' = ta.f * s) ∧
      Hid (Duo1 w (w5.alloc (.cells #[.slice p' n' c', .int .i64 (F' : Nat), .int .i64 (s : Nat)] 29)) T mb' Q' U mu R a s X9 p c t w5.heap.size p' c' ta) := by
  obtain ⟨p', c', mb', Q', he, htp, hrt, hc, hq1, hq2, hap⟩ := hd
  have hbx : Below w5.heap.size w5 (w5.alloc (.cells #[.slice p' ta.B.length c', .int .i64 (ta.f * s : Nat), .int .i64 (s : Nat)] 29)) := (Below.refl _ _).alloc (Nat.le_refl _) _
  have hcs := hc.size
  have hbs := hbx.size
  have hws := h.below.size
  have h5 := hc.below h.below hws fun k hk => (h.q k hk).1
  refine ⟨p', _, c', _, mb', Q', he, Lib.hid rfl, Lib.hid rfl, Lib.hid ⟨htp.later hbx, (h.tu.keep hc fun k hr hq => h.qr k hq hr).later hbx, (h.rt.keep hc fun h0 ad ha => (h.pq h0 ad ha).1).later hbx, block_later ((hc.block X9 (block_lt h.blk) h.nq.1).trans h.blk) hbx, hrt.later hbx, alloc_block _ _, h5.trans (hbx.mono h5.size), fun k hk => ?_, fun k hk hr => ?_, fun h0 ad ha => (h.pq h0 ad ha).2, fun h0 ad ha hr => ?_, h.nq.2, fun hr => ?_⟩⟩
  · have := h.r k hk
    omega
  · rcases hq1 k hk with h2 | h2
    · exact h.qr k h2 hr
    · have := (h.r k hr).2
      omega
  · rcases (hap h0 ad ha).2 with ⟨a2, h2, h3, h4⟩ | h2
    · rw [← h3] at hr
      exact (h.pq h4 a2 h2).2 hr
    · have := (h.r _ hr).2
      omega
  · have := (h.r _ hr).2
    omega
/-- Behind both acts. -/
structure Duo2 (w W : World) (T : Nat) (mb : Option Nat) (Q : Nat → Prop) (U : Nat) (mu : Option Nat) (R : Nat → Prop) (a : Int) (s XA : Nat) (pa : Option Addr) (ca : Nat) (ta : TS) (XB : Nat) (pb : Option Addr) (cb : Nat) (tb : TS) : Prop where
  tp : Tp W T mb Q a s ta
  tu : Tp W U mu R a s tb
  ra : Rt W pa ca ta.B
  bla : W.heap[XA]? = some (.cells #[.slice pa ta.B.length ca, .int .i64 (ta.f * s : Nat), .int .i64 (s : Nat)] 29 (0, 0))
  rb : Rt W pb cb tb.B
  blb : W.heap[XB]? = some (.cells #[.slice pb tb.B.length cb, .int .i64 (tb.f * s : Nat), .int .i64 (s : Nat)] 29 (0, 0))
  below : Below w.heap.size w W
theorem Duo2.later {w W W' : World} {T U XA XB : Nat} {mb mu : Option Nat} {Q R : Nat → Prop} {a : Int} {s ca cb : Nat} {pa pb : Option Addr} {ta tb : TS} (h : Duo2 w W T mb Q U mu R a s XA pa ca ta XB pb cb tb) (hb : Below W.heap.size W W') : Duo2 w W' T mb Q U mu R a s XA pa ca ta XB pb cb tb :=
  ⟨h.tp.later hb, h.tu.later hb, h.ra.later hb, block_later h.bla hb, h.rb.later hb, block_later h.blb hb, h.below.trans (hb.mono h.below.size)⟩
theorem Duo1.act {w W w5 : World} {T U : Nat} {mb mu : Option Nat} {Q R : Nat → Prop} {a : Int} {s X9 : Nat} {p : Option Addr} {c : Nat} {t ta tb : TS} {XA : Nat} {pa : Option Addr} {ca : Nat} {e : Ending} (h : Duo1 w W T mb Q U mu R a s X9 p c t XA pa ca ta) (hd : Did W U R a s s p t tb tb e w5) :
    ∃ p' n' c' F', ∃ mb', ∃ R' : Nat → Prop, e = .returned (rv p' n' c' F' s) ∧ Hid (n' = tb.B.length) ∧ Hid (F' = tb.f * s) ∧
      Hid (Duo2 w (w5.alloc (.cells #[.slice p' n' c', .int .i64 (F' : Nat), .int .i64 (s : Nat)] 29)) T mb Q U mb' R' a s XA pa ca ta w5.heap.size p' c' tb) := by
  obtain ⟨p', c', mb', R', he, htp, hrt, hc, hq1, hq2, hap⟩ := hd
  have hbx : Below w5.heap.size w5 (w5.alloc (.cells #[.slice p' tb.B.length c', .int .i64 (tb.f * s : Nat), .int .i64 (s : Nat)] 29)) := (Below.refl _ _).alloc (Nat.le_refl _) _
  have hws := h.below.size
  have h5 := hc.below h.below hws fun k hk => (h.r k hk).1
  exact ⟨p', _, c', _, mb', R', he, Lib.hid rfl, Lib.hid rfl, Lib.hid ⟨(h.tp.keep hc h.qr).later hbx, htp.later hbx, (h.ra.keep hc h.pa).later hbx, block_later ((hc.block XA (block_lt h.bla) h.nq.2).trans h.bla) hbx, hrt.later hbx, alloc_block _ _, h5.trans (hbx.mono h5.size)⟩⟩
/-- The two acts as calls. -/
theorem Duo.calls {w W : World} {T U : Nat} {mb mu : Option Nat} {Q R : Nat → Prop} {a : Int} {s X9 : Nat} {p : Option Addr} {c : Nat} {t : TS} (h : Duo w W T mb Q U mu R a s X9 p c t) {y : Ac} (hy : BL w y.q y.m y.cq y.b ∧ y.k < 256) (hm : y.m ≤ 600) (hbig : t.f * s + t.B.length ≤ 24000) :
    Calls Try.prog 11 #[.pointer (some ⟨T, 0, none⟩), rv p t.B.length c (t.f * s) s, .agg #[.int .u8 (y.k : Nat), .slice y.q y.m y.cq, .int .i64 y.x]] W (Did W T Q a s s p t (actT s t y.k y.b y.x) (actT s t y.k y.b y.x)) := by
  refine do_any h.tp (fun k hk => (h.q k hk).2) p c s t h.rt (fun h0 ad ha => (h.pq h0 ad ha).1) h.tp.s_in y.k hy.2 y.q y.m y.cq y.b y.x (SlG.later hy.1 h.below) (fun h0 ad ha hq => ?_) (by omega) (by omega)
  obtain ⟨b, off, he, hlt, _⟩ := BL.at hy.1 h0
  rw [he] at ha
  cases ha
  have h9 : w.heap.size ≤ b := (h.q _ hq).1
  omega
theorem Duo1.calls {w W : World} {T U : Nat} {mb mu : Option Nat} {Q R : Nat → Prop} {a : Int} {s X9 : Nat} {p : Option Addr} {c : Nat} {t ta : TS} {XA : Nat} {pa : Option Addr} {ca : Nat} (h : Duo1 w W T mb Q U mu R a s X9 p c t XA pa ca ta) {y : Ac} (hy : BL w y.q y.m y.cq y.b ∧ y.k < 256) (hm : y.m ≤ 600) (hbig : t.f * s + t.B.length ≤ 24000) :
    Calls Try.prog 11 #[.pointer (some ⟨U, 0, none⟩), rv p t.B.length c (t.f * s) s, .agg #[.int .u8 (y.k : Nat), .slice y.q y.m y.cq, .int .i64 y.x]] W (Did W U R a s s p t (actT s t y.k y.b y.x) (actT s t y.k y.b y.x)) := by
  refine do_any h.tu (fun k hk => (h.r k hk).2) p c s t h.rt (fun h0 ad ha => h.pq h0 ad ha) h.tu.s_in y.k hy.2 y.q y.m y.cq y.b y.x (SlG.later hy.1 h.below) (fun h0 ad ha hq => ?_) (by omega) (by omega)
  obtain ⟨b, off, he, hlt, _⟩ := BL.at hy.1 h0
  rw [he] at ha
  cases ha
  have h9 : w.heap.size ≤ b := (h.r _ hq).1
  omega
/-- Two acts in a row of their own. -/
theorem two_acts (W : World) (x y : Ac) (hx : BL W x.q x.m x.cq x.b ∧ x.k < 256) (hy : BL W y.q y.m y.cq y.b ∧ y.k < 256) : AL (W.alloc (.cells #[.int .u8 (x.k : Nat), .slice x.q x.m x.cq, .int .i64 x.x, .int .u8 (y.k : Nat), .slice y.q y.m y.cq, .int .i64 y.x] 33)) (some ⟨W.heap.size, 0, none⟩) 2 2 [x, y] := by
  have hb : Below W.heap.size W (W.alloc (.cells #[.int .u8 (x.k : Nat), .slice x.q x.m x.cq, .int .i64 x.x, .int .u8 (y.k : Nat), .slice y.q y.m y.cq, .int .i64 y.x] 33)) := (Below.refl _ _).alloc (Nat.le_refl _) _
  have hk := alloc_block W (.cells #[.int .u8 (x.k : Nat), .slice x.q x.m x.cq, .int .i64 x.x, .int .u8 (y.k : Nat), .slice y.q y.m y.cq, .int .i64 y.x] 33)
  refine ⟨⟨rfl, Nat.le_refl _, by unfold maxLen; omega, (fun h => by cases h), fun _ => ⟨_, 0, rfl, block_lt hk, fun j hj i v hv => ?_⟩⟩, fun z hz => ?_⟩
  · have hi : i < 3 := (List.getElem?_eq_some_iff.1 hv).1
    refine block_cell hk ?_
    rcases (by omega : j = 0 ∨ j = 1) with rfl | rfl <;> rcases (by omega : i = 0 ∨ i = 1 ∨ i = 2) with rfl | rfl | rfl <;> exact hv
  · simp only [List.mem_cons, List.not_mem_nil, or_false] at hz
    rcases hz with rfl | rfl
    · exact ⟨SlG.later hx.1 hb, hx.2⟩
    · exact ⟨SlG.later hy.1 hb, hy.2⟩
/-- One act in a row of its own. -/
theorem one_act (W : World) (x : Ac) (hx : BL W x.q x.m x.cq x.b ∧ x.k < 256) : AL (W.alloc (.cells #[.int .u8 (x.k : Nat), .slice x.q x.m x.cq, .int .i64 x.x] 33)) (some ⟨W.heap.size, 0, none⟩) 1 1 [x] := by
  have hb : Below W.heap.size W (W.alloc (.cells #[.int .u8 (x.k : Nat), .slice x.q x.m x.cq, .int .i64 x.x] 33)) := (Below.refl _ _).alloc (Nat.le_refl _) _
  have hk := alloc_block W (.cells #[.int .u8 (x.k : Nat), .slice x.q x.m x.cq, .int .i64 x.x] 33)
  refine ⟨⟨rfl, Nat.le_refl _, by unfold maxLen; omega, (fun h => by cases h), fun _ => ⟨_, 0, rfl, block_lt hk, fun j hj i v hv => ?_⟩⟩, fun z hz => ?_⟩
  · have hi : i < 3 := (List.getElem?_eq_some_iff.1 hv).1
    refine block_cell hk ?_
    obtain rfl : j = 0 := by omega
    rcases (by omega : i = 0 ∨ i = 1 ∨ i = 2) with rfl | rfl | rfl <;> exact hv
  · simp only [List.mem_cons, List.not_mem_nil, or_false] at hz
    subst hz
    exact ⟨SlG.later hx.1 hb, hx.2⟩
end Go.Proofs.Ytafpbgogjnbfpaa
