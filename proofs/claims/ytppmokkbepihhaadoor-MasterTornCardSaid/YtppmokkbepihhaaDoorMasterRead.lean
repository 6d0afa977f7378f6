/- What a master's bytes say, whether or not it may be. -/
import Derived.Test.YtppmokkbepihhaaDoorMasterTorn
import Derived.Test.YtppmokkbepihhaaDoorWireZw
import Derived.Deep.RegionWith
namespace Go.Proofs.YtppmokkbepihhaaDoor
open Go.RowKit Go.ChangeShapes Go.WideShapes
set_option linter.unusedVariables false
set_option linter.unusedSimpArgs false
set_option maxRecDepth 10000

/-- A master that is being read: the reader in block B, the result's box R, the master's box Y. -/
structure Mq (W w : World) (N B R Y : Nat) (S : St) (cs : Array Value) : Prop where
  z : Zw w N B S
  y : w.heap[Y]? = some (.cells cs 24 (0, 0))
  res : w.heap[R]? = some (.cells #[.int .u64 0, .int .u8 0, .int .i64 0, .int .i64 0, .int .i64 0] 24 (0, 0))
  below : Below W.heap.size W w
  ord : W.heap.size ≤ R ∧ R < B ∧ B < N ∧ N ≤ Y
theorem Mq.low {W w w' : World} {N B R Y : Nat} {S S' : St} {cs : Array Value} (h : Mq W w N B R Y S cs) (hz : Zw w' N B S') (hc : Chg (fun k => k = B) w w') : Mq W w' N B R Y S' cs := by
  have ho := h.ord
  exact ⟨hz, (hc.block Y (block_lt h.y) (by omega)).trans h.y, (hc.block R (block_lt h.res) (by omega)).trans h.res, hc.below h.below h.below.size fun k hk => by omega, ho⟩
theorem Mq.put {W w : World} {N B R Y : Nat} {S : St} {cs : Array Value} (h : Mq W w N B R Y S cs) (j : Nat) (v : Value) : Mq W (w.setCell ⟨Y, j, none⟩ v) N B R Y S (cs.setIfInBounds j v) := by
  have ho := h.ord
  have hc : Chg (fun k => k = Y) w (w.setCell ⟨Y, j, none⟩ v) := (Chg.refl _ _).setCell _ _ fun _ => rfl
  exact ⟨h.z.later (hc.mono fun k _ hk => by omega), block_put j v h.y, (hc.block R (block_lt h.res) (by omega)).trans h.res, hc.below h.below h.below.size fun k hk => by omega, ho⟩
theorem Mq.drew {W w : World} {N B R Y : Nat} {S : St} {cs : Array Value} (h : Mq W w N B R Y S cs) (q : Nat) : Mq W (w.drewN q) N B R Y S cs :=
  ⟨h.z.later ((Chg.refl _ _).drewN q), h.y, h.res, below_drewN h.below q, h.ord⟩
theorem mtwo (w : World) (c0 c1 : Array Value) (t0 t1 : TypeId) : Below w.heap.size w ((w.alloc (.cells c0 t0)).alloc (.cells c1 t1)) ∧ ((w.alloc (.cells c0 t0)).alloc (.cells c1 t1)).heap[w.heap.size + 1]? = some (.cells c1 t1 (0, 0)) := by
  have hs : (w.alloc (.cells c0 t0)).heap.size = w.heap.size + 1 := by simp
  have h2 := alloc_block (w.alloc (.cells c0 t0)) (.cells c1 t1)
  rw [hs] at h2
  exact ⟨((Below.refl _ _).alloc (Nat.le_refl _) _).alloc (by omega) _, h2⟩
/-- A block that holds 45 bytes, as a slice of them. -/
theorem sl_block {w : World} {X : Nat} {L : List Nat} {t : TypeId} (h : w.heap[X]? = some (.cells (vL L).toArray t (0, 0))) (hl : L.length = 45) (hlt : ∀ x ∈ L, x < 256) : Sl w (some ⟨X, 0, none⟩) 45 45 L := by
  rw [← vB_zi] at h
  have := BL.of_row (n := 45) (off := 0) (c := 45) (w := w) h (by rw [zi_len, hl]; omega) (Nat.le_refl _) (by unfold maxLen; omega)
  rw [List.drop_zero, List.take_of_length_le (by rw [zi_len, hl]; omega)] at this
  exact (this.sl hlt).1
theorem Mq.drew1 {W w : World} {N B R Y : Nat} {S : St} {cs : Array Value} (h : Mq W w N B R Y S cs) : Mq W w.drew N B R Y S cs := h.drew 1
/-- A master's block, cell by cell. -/
theorem mcells {w : World} {B : Nat} {a b c d e : Value} {T : TypeId} (h : w.heap[B]? = some (.cells #[a, b, c, d, e] T (0, 0))) : w.cell? ⟨B, 0, none⟩ = some a ∧ w.cell? ⟨B, 1, none⟩ = some b ∧ w.cell? ⟨B, 2, none⟩ = some c ∧ w.cell? ⟨B, 3, none⟩ = some d ∧ w.cell? ⟨B, 4, none⟩ = some e :=
  ⟨block_cell h rfl, block_cell h rfl, block_cell h rfl, block_cell h rfl, block_cell h rfl⟩
theorem mfree {w : World} {B : Nat} {cs : Array Value} {T : TypeId} (h : w.heap[B]? = some (.cells cs T (0, 0))) : w.frozen? ⟨B, 0, none⟩ = false ∧ w.frozen? ⟨B, 1, none⟩ = false ∧ w.frozen? ⟨B, 2, none⟩ = false ∧ w.frozen? ⟨B, 3, none⟩ = false ∧ w.frozen? ⟨B, 4, none⟩ = false :=
  ⟨block_free 0 h, block_free 1 h, block_free 2 h, block_free 3 h, block_free 4 h⟩
theorem mstored {w : World} {B : Nat} {a b c d e a' b' c' d' e' : Value} {T : TypeId} (h : w.heap[B]? = some (.cells #[a, b, c, d, e] T (0, 0))) :
    (((((w.setCell ⟨B, 0, none⟩ a').setCell ⟨B, 1, none⟩ b').setCell ⟨B, 2, none⟩ c').setCell ⟨B, 3, none⟩ d').setCell ⟨B, 4, none⟩ e').heap[B]? = some (.cells #[a', b', c', d', e'] T (0, 0)) :=
  block_put 4 e' (block_put 3 d' (block_put 2 c' (block_put 1 b' (block_put 0 a' h))))
theorem mkept {W w : World} {B : Nat} (h : Below W.heap.size W w) (hB : W.heap.size ≤ B) (a' b' c' d' e' : Value) : Below W.heap.size W (((((w.setCell ⟨B, 0, none⟩ a').setCell ⟨B, 1, none⟩ b').setCell ⟨B, 2, none⟩ c').setCell ⟨B, 3, none⟩ d').setCell ⟨B, 4, none⟩ e') :=
  ((((h.setCell hB _).setCell hB _).setCell hB _).setCell hB _).setCell hB _
set_option maxHeartbeats 2000000 in
theorem mread_any (L : List Nat) (hl : L.length = 45) (hlt : ∀ x ∈ L, x < 256) (w : World) :
    Calls Tryd.prog 25 #[.agg (vL L).toArray] w fun e w' => e = .returned (.tuple #[.agg #[.int .u64 (((dM L).g : Nat) : Int), .int .u8 (((dM L).a : Nat) : Int), .int .i64 (sgn (dM L).r), .int .i64 (sgn (dM L).t), .int .i64 (sgn (dM L).s)], .int .u32 ((dS L : Nat) : Int)]) ∧ Below w.heap.size w w' := by
  obtain ⟨n1, n2, n3, n4, n5, n6, n7⟩ := read_nums L (by omega)
  have hok := dM_ok hlt
  have hs32 := dS_lt hlt
  generalize hd : dM L = m at *
  have HD := Lib.hid hd
  clear hd
  obtain ⟨g, a, r, t, s⟩ := m
  have ha := hok.a
  replace ha : a < 256 := ha
  generalize hS : dS L = sm at *
  have HS := Lib.hid hS
  clear hS hok n7
  have N1 := Lib.hid n1
  have N2 := Lib.hid n2
  have N3 := Lib.hid n3
  have N4 := Lib.hid n4
  have N5 := Lib.hid n5
  have N6 := Lib.hid n6
  clear n1 n2 n3 n4 n5 n6
  obtain ⟨hb0, hr1⟩ := mtwo w (vL L).toArray #[.int .u64 0, .int .u8 0, .int .i64 0, .int .i64 0, .int .i64 0] 53 24
  have hbl := alloc_block w (.cells (vL L).toArray 53)
  have hsl : Sl ((w.alloc (.cells (vL L).toArray 53)).alloc (.cells #[.int .u64 0, .int .u8 0, .int .i64 0, .int .i64 0, .int .i64 0] 24)) (some ⟨w.heap.size, 0, none⟩) 45 45 L :=
    (sl_block hbl hl hlt).later ((Below.refl _ _).alloc (Nat.le_refl _) _)
  have HSL := Lib.hid hsl
  have HB0 := Lib.hid hb0
  have HR1 := Lib.hid hr1
  have HA1 : Hid ((a : Int) % 256 = (a : Int)) := Lib.hid (by omega)
  have eu1 : IntKind.u8.wrap (a : Int) = (a : Int) := by simp [IntKind.wrap, IntKind.bits, IntKind.signed]; omega
  clear hb0 hr1 hbl hsl
  go_enter Tryd.func25, Tryd.ntmps25
  go_wp2_with fail
  refine (read_any _ 45 45 L _ HSL.out (by omega)).mono ?_
  rintro e w2 ⟨B, p, c, rfl, hB, hrd, hp, hb2⟩
  have HQ0 : Hid (Mq w (w2.alloc (.cells #[.int .u64 0, .int .u8 0, .int .i64 0, .int .i64 0, .int .i64 0] 24)) w2.heap.size B (w.heap.size + 1) w2.heap.size (0, L) #[.int .u64 0, .int .u8 0, .int .i64 0, .int .i64 0, .int .i64 0]) := Lib.hid (by
    have hbn : Below w2.heap.size w2 (w2.alloc (.cells #[.int .u64 0, .int .u8 0, .int .i64 0, .int .i64 0, .int .i64 0] 24)) := (Below.refl _ _).alloc (Nat.le_refl _) _
    have hz : Zw w2 w2.heap.size B (0, L) := ⟨⟨p, c, hrd, fun a ha => (hp a ha).2⟩, hrd.lt, Nat.le_refl _, by show L.length ≤ 1000; omega, hlt⟩
    have hs := HB0.out.size
    have hs1 : w.heap.size + 1 < B := Nat.lt_of_lt_of_le (block_lt HR1.out) hB
    exact ⟨hz.below hbn, alloc_block _ _, block_later (block_later HR1.out hb2) hbn, HB0.out.trans ((hb2.trans (hbn.mono hb2.size)).mono hs), by omega, hs1, hrd.lt, Nat.le_refl _⟩)
  obtain ⟨X, hX⟩ : ∃ X, w.heap.size = X := ⟨_, rfl⟩
  obtain ⟨Y, hY⟩ : ∃ Y, w2.heap.size = Y := ⟨_, rfl⟩
  rw [hX, hY] at HQ0
  clear hB hrd hp hb2 HR1 HB0 HSL
  go_wp2_with fail
  have HHX := Lib.hid hX
  have HHY := Lib.hid hY
  clear hX hY
  refine (zw_num HQ0.out.z 8).mono ?_
  rintro e w4 ⟨rfl, hz, hc⟩
  rw [N1.out] at hz ⊢
  have HQ1 := Lib.hid (HQ0.out.low hz hc)
  have y0 := block_cell (j := 0) HQ1.out.y (v := .int .u64 0) rfl
  have f0 := block_free 0 HQ1.out.y
  have HP1 := Lib.hid (HQ1.out.put 0 (.int .u64 ((g : Int))))
  clear hz hc HQ0
  go_wp2_with fail
  clear y0 f0 HQ1
  refine (zw_num HP1.out.z 1).mono ?_
  rintro e w5 ⟨rfl, hz, hc⟩
  rw [N2.out] at hz ⊢
  have HQ2 := Lib.hid (HP1.out.low hz hc)
  have y1 := block_cell (j := 1) HQ2.out.y (v := .int .u8 0) rfl
  have f1 := block_free 1 HQ2.out.y
  have HP2 := Lib.hid (HQ2.out.put 1 (.int .u8 ((a : Int))))
  clear hz hc HP1
  go_wp2_with fail
  clear y1 f1 HQ2
  refine (zw_int HP2.out.z).mono ?_
  rintro e w6 ⟨rfl, hz, hc⟩
  rw [N3.out] at hz ⊢
  have HQ3 := Lib.hid (HP2.out.low hz hc)
  have y2 := block_cell (j := 2) HQ3.out.y (v := .int .i64 0) rfl
  have f2 := block_free 2 HQ3.out.y
  have HP3 := Lib.hid (HQ3.out.put 2 (.int .i64 (sgn r)))
  clear hz hc HP2
  go_wp2_with fail
  clear y2 f2 HQ3
  refine (zw_int HP3.out.z).mono ?_
  rintro e w7 ⟨rfl, hz, hc⟩
  rw [N4.out] at hz ⊢
  have HQ4 := Lib.hid (HP3.out.low hz hc)
  have y3 := block_cell (j := 3) HQ4.out.y (v := .int .i64 0) rfl
  have f3 := block_free 3 HQ4.out.y
  have HP4 := Lib.hid (HQ4.out.put 3 (.int .i64 (sgn t)))
  clear hz hc HP3
  go_wp2_with fail
  clear y3 f3 HQ4
  refine (zw_int HP4.out.z).mono ?_
  rintro e w8 ⟨rfl, hz, hc⟩
  rw [N5.out] at hz ⊢
  have HQ5 := Lib.hid (HP4.out.low hz hc)
  have y4 := block_cell (j := 4) HQ5.out.y (v := .int .i64 0) rfl
  have f4 := block_free 4 HQ5.out.y
  have HP5 := Lib.hid (HQ5.out.put 4 (.int .i64 (sgn s)))
  clear hz hc HP4
  go_wp2_with fail
  clear y4 f4 HQ5
  have HZ := Lib.hid (HP5.out.drew1)
  obtain ⟨y0, y1, y2, y3, y4⟩ := mcells HZ.out.y
  clear HP5
  generalize w8.setCell ⟨Y, 4, none⟩ (.int .i64 (sgn s)) = W9 at *
  have hs32' : IntKind.u32.wrap (sm : Int) = (sm : Int) := by simp [IntKind.wrap, IntKind.bits, IntKind.signed]; omega
  go_region_with (first | (go_simp; go_at_call 35; refine (zw_num HZ.out.z 4).mono ?_; rintro e w9 ⟨rfl, hz, hc⟩; rw [N6.out] at hz ⊢; have HQ9 := Lib.hid (HZ.out.low hz hc); obtain ⟨z0, z1, z2, z3, z4⟩ := mcells HQ9.out.y; obtain ⟨r0, r1, r2, r3, r4⟩ := mcells HQ9.out.res; obtain ⟨q0, q1, q2, q3, q4⟩ := mfree HQ9.out.res; clear hz hc))
  all_goals
    have HF := Lib.hid (mstored (a' := .int .u64 (g : Int)) (b' := .int .u8 (a : Int)) (c' := .int .i64 (sgn r)) (d' := .int .i64 (sgn t)) (e' := .int .i64 (sgn s)) HQ9.out.res)
    have HG := Lib.hid (mkept HQ9.out.below HQ9.out.ord.1 (.int .u64 (g : Int)) (.int .u8 (a : Int)) (.int .i64 (sgn r)) (.int .i64 (sgn t)) (.int .i64 (sgn s)))
    clear z0 z1 z2 z3 z4 r0 r1 r2 r3 r4 q0 q1 q2 q3 q4 y0 y1 y2 y3 y4
    generalize (((((w9.setCell ⟨X + 1, 0, none⟩ (.int .u64 (g : Int))).setCell ⟨X + 1, 1, none⟩ (.int .u8 (a : Int))).setCell ⟨X + 1, 2, none⟩ (.int .i64 (sgn r))).setCell ⟨X + 1, 3, none⟩ (.int .i64 (sgn t))).setCell ⟨X + 1, 4, none⟩ (.int .i64 (sgn s))) = WF at *
    go_wp2_with fail
    refine bodyPost_ret (v := .tuple #[.agg #[.int .u64 (g : Int), .int .u8 (a : Int), .int .i64 (sgn r), .int .i64 (sgn t), .int .i64 (sgn s)], .int .u32 (sm : Int)]) ?_ rfl ⟨rfl, HG.out⟩
    exact results_mm rfl _ _ (X + 1) _ rfl _ rfl rfl HF.out
end Go.Proofs.YtppmokkbepihhaaDoor
