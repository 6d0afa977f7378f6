/-
  VolMends answers true of any acts and any two acts, and writes nothing that was there. No condition.
PLAIN4
-/
import Derived.Test.YtdocnmgbbfgdoaaRows
import Derived.Test.YtdocnmgbbfgdoaaVolOpen
import Derived.Test.YtdocnmgbbfgdoaaVolWorks
import Derived.Test.YtdocnmgbbfgdoaaVolSame
import Derived.Deep.RegionHeld3
import Derived.WalkKit
import Derived.ProofKit
import Derived.OpenShut
import Derived.ShutString
import Derived.ChangeOld
import Derived.Below
namespace Go.Proofs.Ytdocnmgbbfgdoaa.volMends
open Go.ChangeShapes Go.WideShapes Go.ChangeAt Go.RowKit
open Go.ChangeMaps (open_string shut_string)
set_option linter.unusedVariables false

theorem own : ownKnob Try.prog.godebug = none := by kernel_rfl
theorem laidOut : laidOutB Try.prog = true := by kernel_rfl
theorem tearV_pos {s : Nat} {V : List (List Int)} {i : Int} {b : List Int} {t : Nat} (h : (0 ≤ i ∧ i < V.length) ∧ b.length ≤ s) : tearV s V i b t = V.set i.toNat (tearL (V.getD i.toNat []) b t) := if_pos h
theorem tearV_neg {s : Nat} {V : List (List Int)} {i : Int} {b : List Int} {t : Nat} (h : ¬ ((0 ≤ i ∧ i < V.length) ∧ b.length ≤ s)) : tearV s V i b t = V := if_neg h
/-- What is put whole does not hang on what was torn. -/
theorem mends (s : Nat) (V : List (List Int)) (i : Int) (a b : List Int) (t : Nat) (h : ∀ y ∈ V, y.length = s) (ht : t ≤ s) (he : tearE s V i b = 0) : tearV s (tearV s V i a t) i b s = tearV s V i b s := by
  have hc : (0 ≤ i ∧ i < V.length) ∧ b.length ≤ s := by
    unfold tearE at he
    split at he
    · omega
    · split at he
      · omega
      · omega
  have hl := getD_len h (i := i.toNat) (by omega)
  have hc2 : (0 ≤ i ∧ i < (tearV s V i a t).length) ∧ b.length ≤ s := by rw [tearV_len]; exact hc
  rw [tearV_pos hc2, tearV_pos hc]
  by_cases ha : (0 ≤ i ∧ i < V.length) ∧ a.length ≤ s
  · rw [tearV_pos ha]
    have hx : (tearL (V.getD i.toNat []) a t).length = s := by rw [tear_len _ _ _ (by omega)]; exact hl
    rw [getD_set (by omega), if_pos rfl, List.set_set]
    have := tear_whole (tearL (V.getD i.toNat []) a t) (V.getD i.toNat []) b (by omega) (by omega)
    rw [hx, hl] at this
    rw [this]
  · rw [tearV_neg ha]
theorem tearE_len (s : Nat) (V V' : List (List Int)) (i : Int) (b : List Int) (h : V.length = V'.length) : tearE s V i b = tearE s V' i b := by
  unfold tearE
  rw [h]
theorem two_acts (W : World) (x y : Ac) (hx : BL W x.q x.m x.cq x.b) (hy : BL W y.q y.m y.cq y.b) : AL (W.alloc (.cells #[.int .i64 x.i, .slice x.q x.m x.cq, .bool x.torn, .int .i64 x.x, .int .i64 y.i, .slice y.q y.m y.cq, .bool y.torn, .int .i64 y.x] 35)) (some ⟨W.heap.size, 0, none⟩) 2 2 [x, y] := by
  have hb : Below W.heap.size W (W.alloc (.cells #[.int .i64 x.i, .slice x.q x.m x.cq, .bool x.torn, .int .i64 x.x, .int .i64 y.i, .slice y.q y.m y.cq, .bool y.torn, .int .i64 y.x] 35)) := (Below.refl _ _).alloc (Nat.le_refl _) _
  have hk := alloc_block W (.cells #[.int .i64 x.i, .slice x.q x.m x.cq, .bool x.torn, .int .i64 x.x, .int .i64 y.i, .slice y.q y.m y.cq, .bool y.torn, .int .i64 y.x] 35)
  refine ⟨⟨rfl, Nat.le_refl _, by unfold maxLen; omega, (fun h => by cases h), fun _ => ⟨_, 0, rfl, block_lt hk, fun j hj i v hv => ?_⟩⟩, fun z hz => ?_⟩
  · have hi : i < 4 := (List.getElem?_eq_some_iff.1 hv).1
    refine block_cell hk ?_
    rcases (by omega : j = 0 ∨ j = 1) with rfl | rfl <;> rcases (by omega : i = 0 ∨ i = 1 ∨ i = 2 ∨ i = 3) with rfl | rfl | rfl | rfl <;> exact hv
  · simp only [List.mem_cons, List.not_mem_nil, or_false] at hz
    rcases hz with rfl | rfl
    · exact SlG.later hx hb
    · exact SlG.later hy hb
/-- An act in a block of its own. -/
def AB (W : World) (k : Nat) (y : Ac) : Prop := W.heap[k]? = some (.cells #[.int .i64 y.i, .slice y.q y.m y.cq, .bool y.torn, .int .i64 y.x] 35 (0, 0))
/-- Three volumes side by side, and the document's. -/
structure Tri (w W : World) (X1 XU XW X9 n0 : Nat) (ya yb : Ac) (p : Option Addr) (c : Nat) (V Vv Vu : List (List Int)) : Prop where
  v : Vo W X1 (X1 + 1) 40 Vv
  u : Vo W XU (XU + 1) 40 Vu
  was : Vo W XW (XW + 1) 40 V
  rv : RV W (fun k => n0 ≤ k ∧ k < XU) p c 40 V
  blk : W.heap[X9]? = some (.cells #[.slice p 5 c, .int .i64 40] 29 (0, 0))
  a4 : AB W w.heap.size ya
  a5 : AB W (w.heap.size + 1) yb
  below : Below w.heap.size w W
  lo : w.heap.size + 1 < X1 ∧ X1 + 1 < n0 ∧ n0 ≤ X9 ∧ X9 < XU ∧ XU + 1 < XW
theorem Tri.later {w W W' : World} {X1 XU XW X9 n0 : Nat} {ya yb : Ac} {p : Option Addr} {c : Nat} {V Vv Vu : List (List Int)} (h : Tri w W X1 XU XW X9 n0 ya yb p c V Vv Vu) (hb : Below W.heap.size W W') : Tri w W' X1 XU XW X9 n0 ya yb p c V Vv Vu :=
  ⟨h.v.later hb, h.u.later hb, h.was.later hb, h.rv.later hb, block_later h.blk hb, block_later h.a4 hb, block_later h.a5 hb, h.below.trans (hb.mono h.below.size), h.lo⟩
theorem Tri.putV {w W W' : World} {X1 XU XW X9 n0 : Nat} {ya yb : Ac} {p : Option Addr} {c : Nat} {V Vv Vu Vn : List (List Int)} (h : Tri w W X1 XU XW X9 n0 ya yb p c V Vv Vu) (hv : Vo W' X1 (X1 + 1) 40 Vn) (hc : Chg (fun k => k = X1 + 1) W W') : Tri w W' X1 XU XW X9 n0 ya yb p c V Vn Vu := by
  have hlo := h.lo
  refine ⟨hv, h.u.keep hc (by omega) (by omega), h.was.keep hc (by omega) (by omega), h.rv.keep hc fun k hk e => by omega, (hc.block _ (block_lt h.blk) (by omega)).trans h.blk, (hc.block _ (block_lt h.a4) (by omega)).trans h.a4, (hc.block _ (block_lt h.a5) (by omega)).trans h.a5, hc.below h.below h.below.size fun k hk => by omega, hlo⟩
theorem Tri.putU {w W W' : World} {X1 XU XW X9 n0 : Nat} {ya yb : Ac} {p : Option Addr} {c : Nat} {V Vv Vu Vn : List (List Int)} (h : Tri w W X1 XU XW X9 n0 ya yb p c V Vv Vu) (hv : Vo W' XU (XU + 1) 40 Vn) (hc : Chg (fun k => k = XU + 1) W W') : Tri w W' X1 XU XW X9 n0 ya yb p c V Vv Vn := by
  have hlo := h.lo
  refine ⟨h.v.keep hc (by omega) (by omega), hv, h.was.keep hc (by omega) (by omega), h.rv.keep hc fun k hk e => by omega, (hc.block _ (block_lt h.blk) (by omega)).trans h.blk, (hc.block _ (block_lt h.a4) (by omega)).trans h.a4, (hc.block _ (block_lt h.a5) (by omega)).trans h.a5, hc.below h.below h.below.size fun k hk => by omega, hlo⟩
/-- What came in lies apart from what is made later. -/
theorem BL.far {w : World} {q : Option Addr} {m cq : Nat} {b : List Int} (h : BL w q m cq b) (g : Nat) (hg : w.heap.size ≤ g) : 0 < m → ∀ a, q = some a → a.block ≠ g := fun h0 a ha => by
  obtain ⟨b', off, he, hbl, _⟩ := h.at h0
  rw [he] at ha
  cases ha
  show b' ≠ g
  omega

set_option maxHeartbeats 1000000 in
set_option maxRecDepth 100000 in
theorem walk (a0 : Option Addr) (len0 cap0 : Nat) (L0 : List Ac) (a1 : Array Value) (a2 : Array Value) (w : World) (w0 : AL w a0 len0 cap0 L0 ∧ ∀ y ∈ L0, AnyA y) (w1 : ActIn w a1) (w2 : ActIn w a2) :
    Calls Try.prog 5 #[.slice a0 len0 cap0, .agg a1, .agg a2] w fun e w' => e = .returned (.bool true) ∧ Below w.heap.size w w' := by
  obtain ⟨hA, _⟩ := w0
  obtain ⟨ya, rfl, hba⟩ := w1
  obtain ⟨yb, rfl, hbb⟩ := w2
  have hb0 : Below w.heap.size w ((w.alloc (.cells (ac ya).toArray 35)).alloc (.cells (ac yb).toArray 35)) := ((Below.refl _ _).alloc (Nat.le_refl _) _).alloc (by simp) _
  have HA := Lib.hid (hA.later hb0)
  have HBA := Lib.hid hba
  have HBB := Lib.hid hbb
  have HB0 := Lib.hid hb0
  have hs1 : (w.alloc (.cells (ac ya).toArray 35)).heap.size = w.heap.size + 1 := by simp
  have h4 := block_later (alloc_block w (.cells (ac ya).toArray 35)) ((Below.refl _ _).alloc (Nat.le_refl _) (.cells (ac yb).toArray 35))
  have h5 := alloc_block (w.alloc (.cells (ac ya).toArray 35)) (.cells (ac yb).toArray 35)
  rw [hs1] at h5
  have H4 := Lib.hid h4
  have H5 := Lib.hid h5
  have HAW := Lib.hid hA
  clear hA hba hbb hb0 h4 h5 hs1
  unfold ac at *
  have hf := few_any a0 len0 cap0 L0 _ HA.out
  go_enter Try.func5, Try.ntmps5
  go_wp2_with fail
  refine hf.mono ?_
  rintro e w' ⟨⟨tf, rfl, hlen⟩, rfl⟩
  cases tf with
  | false =>
    go_wp2_with fail
    refine (vol_works _).mono ?_
    rintro e W3 ⟨rfl, hb3⟩
    have HB3 := Lib.hid (HB0.out.trans (hb3.mono HB0.out.size))
    clear hb3
    go_wp2_with fail
    go_ret
    exact ⟨rfl, HB3.out⟩
  | true =>
    have hl30 := hlen rfl
    clear hf hlen
    go_wp2_with fail
    have hw0s : ((w.alloc (.cells #[.int .i64 ya.i, .slice ya.q ya.m ya.cq, .bool ya.torn, .int .i64 ya.x] 35)).alloc (.cells #[.int .i64 yb.i, .slice yb.q yb.m yb.cq, .bool yb.torn, .int .i64 yb.x] 35)).heap.size = w.heap.size + 1 + 1 := by simp
    have HS0 := Lib.hid hw0s
    clear hw0s
    generalize hW0 : (w.alloc (.cells #[.int .i64 ya.i, .slice ya.q ya.m ya.cq, .bool ya.torn, .int .i64 ya.x] 35)).alloc (.cells #[.int .i64 yb.i, .slice yb.q yb.m yb.cq, .bool yb.torn, .int .i64 yb.x] 35) = W0 at *
    clear hW0
    have h2a := two_acts W0 ya yb (SlG.later HBA.out HB0.out) (SlG.later HBB.out HB0.out)
    rw [HS0.out] at h2a
    have hf2 := few_any _ 2 2 _ _ h2a
    have hb1 : Below W0.heap.size W0 (W0.alloc (.cells #[.int .i64 ya.i, .slice ya.q ya.m ya.cq, .bool ya.torn, .int .i64 ya.x, .int .i64 yb.i, .slice yb.q yb.m yb.cq, .bool yb.torn, .int .i64 yb.x] 35)) := (Below.refl _ _).alloc (Nat.le_refl _) _
    have HB1 := Lib.hid (HB0.out.trans (hb1.mono HB0.out.size))
    have H41 := Lib.hid (block_later H4.out hb1)
    have H51 := Lib.hid (block_later H5.out hb1)
    have HS1 : Hid (w.heap.size + 1 + 1 ≤ (W0.alloc (.cells #[.int .i64 ya.i, .slice ya.q ya.m ya.cq, .bool ya.torn, .int .i64 ya.x, .int .i64 yb.i, .slice yb.q yb.m yb.cq, .bool yb.torn, .int .i64 yb.x] 35)).heap.size) := Lib.hid (by have := hb1.size; have := HS0.out; omega)
    clear hb1 h2a HB0 HA H4 H5
    refine hf2.mono ?_
    rintro e w1 ⟨⟨tf, rfl, _⟩, rfl⟩
    generalize W0.alloc (.cells #[.int .i64 ya.i, .slice ya.q ya.m ya.cq, .bool ya.torn, .int .i64 ya.x, .int .i64 yb.i, .slice yb.q yb.m yb.cq, .bool yb.torn, .int .i64 yb.x] 35) = W1 at *
    clear hf2 HS0
    cases tf with
    | false =>
      go_wp2_with fail
      refine (vol_works _).mono ?_
      rintro e W3 ⟨rfl, hb3⟩
      have HB3 := Lib.hid (HB1.out.trans (hb3.mono HB1.out.size))
      clear hb3
      go_wp2_with fail
      go_ret
      exact ⟨rfl, HB3.out⟩
    | true =>
      go_wp2_with fail
      have hnew := new_any 5 40 W1
      rw [show kp 5 1024 = 5 by rfl, show kp 40 4096 = 40 by rfl] at hnew
      refine hnew.mono ?_
      rintro e W2 ⟨rfl, hv2, hb2⟩
      have hrn := refnew_any 5 40 W2
      rw [show kp 5 1024 = 5 by rfl, show kp 40 4096 = 40 by rfl] at hrn
      have HV2 := Lib.hid hv2
      have HB2 := Lib.hid hb2
      clear hnew hv2 hb2
      go_wp2_with fail
      refine hrn.mono ?_
      rintro e W3 ⟨p1, c1, rfl, hr3, hb3⟩
      have hbx : Below W3.heap.size W3 (W3.alloc (.cells #[.slice p1 5 c1, .int .i64 40] 29)) := (Below.refl _ _).alloc (Nat.le_refl _) _
      have hb24 := hb3.trans (hbx.mono hb3.size)
      have hpl : Pl w (W3.alloc (.cells #[.slice p1 5 c1, .int .i64 40] 29)) W1.heap.size W3.heap.size W2.heap.size 5 40 p1 c1 (zeroV 5 40) :=
        ⟨HV2.out.later hb24, hr3.later hbx, alloc_block _ _, zeroV_len 5 40, HB1.out.trans ((HB2.out.trans (hb24.mono HB2.out.size)).mono HB1.out.size), HB1.out.size, block_lt HV2.out.row, hb3.size⟩
      have hb14 := HB2.out.trans (hb24.mono HB2.out.size)
      have HPL := Lib.hid hpl
      have H44 := Lib.hid (block_later H41.out hb14)
      have H54 := Lib.hid (block_later H51.out hb14)
      clear hrn hr3 hb3 hbx hb24 hpl hb14 HB1 H41 H51 HV2 HB2
      go_wp2_with fail
      generalize W3.alloc (.cells #[.slice p1 5 c1, .int .i64 40] 29) = W4 at *
      generalize W1.heap.size = X1 at *
      generalize W3.heap.size = X9 at *
      generalize W2.heap.size = n0 at *
      go_loopw [9] (fun i wr => ∃ (j : Nat) (p : Option Addr) (c : Nat) (V : List (List Int)), j ≤ len0 ∧ i = .int .i64 (j : Nat) ∧ Hid (Pl w wr X1 X9 n0 5 40 p c V) ∧ Hid (wr.heap[w.heap.size]? = some (.cells #[.int .i64 ya.i, .slice ya.q ya.m ya.cq, .bool ya.torn, .int .i64 ya.x] 35 (0, 0))) ∧ Hid (wr.heap[w.heap.size + 1]? = some (.cells #[.int .i64 yb.i, .slice yb.q yb.m yb.cq, .bool yb.torn, .int .i64 yb.x] 35 (0, 0)))) (fun i _ => len0 - (intOf i).toNat)
      case atStart => exact ⟨0, _, _, _, Nat.zero_le _, rfl, HPL, H44, H54⟩
      case round =>
        obtain ⟨j, p, c, V, hj, rfl, HP, HA4, HA5⟩ := hrel
        have x0 := block_cell (j := 0) HP.out.blk (v := .slice p 5 c) rfl
        have x1 := block_cell (j := 1) HP.out.blk (v := .int .i64 40) rfl
        have hlo := HP.out.lo
        have hx1 := HS1.out
        by_cases hlt : j < len0
        · have hlt' : (j : Int) < len0 := by omega
          obtain ⟨ab, ao, rfl, _, ⟨d0', d1', d2', d3'⟩, hab⟩ := (HAW.out.later HP.out.below).at hlt
          have hab0 : BL w (L0.getD j a0).q (L0.getD j a0).m (L0.getD j a0).cq (L0.getD j a0).b := by
            obtain ⟨_, _, _, _, _, h⟩ := HAW.out.at hlt
            exact h
          have hqne : 0 < (L0.getD j a0).m → ∀ a, (L0.getD j a0).q = some a → a.block ≠ X1 + 1 := fun h0 a ha => by
            obtain ⟨b, off, he, hbl, _⟩ := BL.at hab0 h0
            rw [he] at ha
            cases ha
            show b ≠ X1 + 1
            omega
          have HC : Hid (∀ k, Calls Try.prog 11 #[.pointer (some ⟨X1, 0, none⟩), .agg #[.slice p 5 c, .int .i64 40], .agg #[.int .i64 (L0.getD j a0).i, .slice (L0.getD j a0).q (L0.getD j a0).m (L0.getD j a0).cq, .bool (L0.getD j a0).torn, .int .i64 (L0.getD j a0).x]] (wr.drewN k) (Did (wr.drewN k) n0 5 40 X1 (X1 + 1) (actV 40 V (L0.getD j a0).i (L0.getD j a0).x (L0.getD j a0).torn (L0.getD j a0).b))) := Lib.hid fun k =>
            do_any X1 (X1 + 1) 40 5 V p c _ _ _ _ _ _ _ (wr.drewN k) n0 (by have := block_lt HP.out.blk; show n0 ≤ wr.heap.size; omega) hlo.2.1 (by omega) (HP.out.drewN k).vo (HP.out.drewN k).rv HP.out.len (BL.keep hab ((Chg.refl (fun _ => False) _).drewN k) fun _ _ _ h => h) hqne
          have HVL : Hid ((actV 40 V (L0.getD j a0).i (L0.getD j a0).x (L0.getD j a0).torn (L0.getD j a0).b).length = 5) := Lib.hid (by rw [actV_len]; exact HP.out.len)
          generalize actV 40 V (L0.getD j a0).i (L0.getD j a0).x (L0.getD j a0).torn (L0.getD j a0).b = V' at *
          generalize (L0.getD j a0).i = yi at *
          generalize (L0.getD j a0).q = yq at *
          generalize (L0.getD j a0).m = ym at *
          generalize (L0.getD j a0).cq = yc at *
          generalize (L0.getD j a0).torn = yt at *
          generalize (L0.getD j a0).x = yx at *
          clear hab hab0 hqne
          have n4 : w.heap.size ≠ X1 + 1 := by omega
          have n5 : w.heap.size + 1 ≠ X1 + 1 := by omega
          have n49 : w.heap.size ≠ X9 := by omega
          have n59 : w.heap.size + 1 ≠ X9 := by omega
          have HK4 : Hid (∀ k w5 u v, Chg (fun k => k = X1 + 1) (wr.drewN k) w5 → ((w5.setCell ⟨X9, 0, none⟩ u).setCell ⟨X9, 1, none⟩ v).heap[w.heap.size]? = some (.cells #[.int .i64 ya.i, .slice ya.q ya.m ya.cq, .bool ya.torn, .int .i64 ya.x] 35 (0, 0)) ∧ ((w5.setCell ⟨X9, 0, none⟩ u).setCell ⟨X9, 1, none⟩ v).heap[w.heap.size + 1]? = some (.cells #[.int .i64 yb.i, .slice yb.q yb.m yb.cq, .bool yb.torn, .int .i64 yb.x] 35 (0, 0))) := Lib.hid fun k w5 u v hc =>
            ⟨(Below.heap_setCell _ _ _ _ n49).trans ((Below.heap_setCell _ _ _ _ n49).trans ((hc.undrew.block _ (block_lt HA4.out) n4).trans HA4.out)), (Below.heap_setCell _ _ _ _ n59).trans ((Below.heap_setCell _ _ _ _ n59).trans ((hc.undrew.block _ (block_lt HA5.out) n5).trans HA5.out))⟩
          clear n4 n5 n49 n59
          go_wp2_with fail
          go_region_law (first
            | (go_simp; go_at_call 11; refine (HC.out _).mono ?_; rintro e w5 ⟨p', c', rfl, hr5, hv5, hc5⟩; obtain ⟨⟨z0, z1, z2, z3⟩, hpn⟩ := HP.out.act (p' := p') (c' := c') hr5 hv5 hc5 HVL.out; have hk45 := HK4.out _ _ (.slice p' 5 c') (.int .i64 40) hc5))
          all_goals
            have HPN := Lib.hid hpn
            have HK1 := Lib.hid hk45.1
            have HK2 := Lib.hid hk45.2
            clear hpn hr5 hv5 hc5 z0 z1 z2 z3 hk45
            go_wp2_with fail
            go_roundw
            case rel => exact ⟨j + 1, _, _, _, by omega, by go_num, HPN, HK1, HK2⟩
            case measure => simp [intOf]; omega
        · obtain rfl : len0 = j := by omega
          have hcp := copy_any X1 (X1 + 1) 40 V wr HP.out.vo
          obtain ⟨Wb, hWb⟩ : ∃ Wb, Wb = wr := ⟨_, rfl⟩
          subst hWb
          clear x0 x1
          go_wp2_with fail
          refine hcp.mono ?_
          rintro e W5 ⟨rfl, hu5, hb5⟩
          have hcp2 := copy_any X1 (X1 + 1) 40 V W5 (HP.out.vo.later hb5)
          clear hcp
          go_wp2_with fail
          refine hcp2.mono ?_
          rintro e W6 ⟨rfl, hw6, hb6⟩
          have htri : Tri w W6 X1 Wb.heap.size W5.heap.size X9 n0 ya yb p c V V V := by
            have s1 := block_lt hu5.row
            have s9 := block_lt HP.out.blk
            exact ⟨(HP.out.vo.later hb5).later hb6, hu5.later hb6, hw6, ((HP.out.rv.mono (fun k hk hl => ⟨hk, hl⟩)).later hb5).later hb6, block_later (block_later HP.out.blk hb5) hb6, block_later (block_later HA4.out hb5) hb6, block_later (block_later HA5.out hb5) hb6, (HP.out.below.trans (hb5.mono HP.out.below.size)).trans (hb6.mono (Nat.le_trans HP.out.below.size hb5.size)), by omega⟩
          have HLV := Lib.hid HP.out.len
          have HTRI := Lib.hid htri
          clear hcp2 hu5 hb5 hw6 hb6 htri HP HA4 HA5
          generalize Wb.heap.size = XU at *
          generalize W5.heap.size = XW at *
          have hte := tear_any X1 (X1 + 1) 40 V yb.i ya.x ya.q ya.m ya.cq ya.b W6 HTRI.out.v (SlG.later HBA.out HTRI.out.below) (BL.far HBA.out _ (by omega))
          have b0 := block_cell (j := 0) HTRI.out.a5 (v := .int .i64 yb.i) rfl
          have c1' := block_cell (j := 1) HTRI.out.a4 (v := .slice ya.q ya.m ya.cq) rfl
          have c3' := block_cell (j := 3) HTRI.out.a4 (v := .int .i64 ya.x) rfl
          go_wp2_with fail
          refine hte.mono ?_
          rintro e W7 ⟨rfl, hv7, hc7⟩
          have HT7 := Lib.hid (HTRI.out.putV hv7 hc7)
          clear hte hv7 hc7 HTRI b0 c1' c3'
          generalize hVt : tearV 40 V yb.i ya.b (kp ya.x (40 : Nat)) = Vt at *
          have HVT := Lib.hid hVt
          clear hVt
          have HPV : Hid (∀ k, Calls Try.prog 17 #[.pointer (some ⟨X1, 0, none⟩), .int .i64 yb.i, .slice yb.q yb.m yb.cq] (W7.drewN k) fun e w' => e = .returned (.int .i64 (tearE 40 Vt yb.i yb.b)) ∧ Tri w w' X1 XU XW X9 n0 ya yb p c V (tearV 40 Vt yb.i yb.b 40) V) := Lib.hid fun k =>
            (put_any X1 (X1 + 1) 40 Vt yb.i yb.q yb.m yb.cq yb.b _ (HT7.out.later (below_drewN (Below.refl _ _) k)).v (SlG.later HBB.out (HT7.out.later (below_drewN (Below.refl _ _) k)).below) (BL.far HBB.out _ (by omega))).mono fun e w' ⟨h1, h2, h3⟩ => ⟨h1, (HT7.out.later (below_drewN (Below.refl _ _) k)).putV h2 h3⟩
          have HPU : Hid (∀ W8, Tri w W8 X1 XU XW X9 n0 ya yb p c V (tearV 40 Vt yb.i yb.b 40) V → Calls Try.prog 17 #[.pointer (some ⟨XU, 0, none⟩), .int .i64 yb.i, .slice yb.q yb.m yb.cq] W8 fun e w' => e = .returned (.int .i64 (tearE 40 V yb.i yb.b)) ∧ Tri w w' X1 XU XW X9 n0 ya yb p c V (tearV 40 Vt yb.i yb.b 40) (tearV 40 V yb.i yb.b 40)) := Lib.hid fun W8 h8 =>
            (put_any XU (XU + 1) 40 V yb.i yb.q yb.m yb.cq yb.b _ h8.u (SlG.later HBB.out h8.below) (BL.far HBB.out _ (by have := h8.lo; omega))).mono fun e w' ⟨h1, h2, h3⟩ => ⟨h1, h8.putU h2 h3⟩
          have HPV1 : Hid (Calls Try.prog 17 #[.pointer (some ⟨X1, 0, none⟩), .int .i64 yb.i, .slice yb.q yb.m yb.cq] W7.drew fun e w' => e = .returned (.int .i64 (tearE 40 Vt yb.i yb.b)) ∧ Tri w w' X1 XU XW X9 n0 ya yb p c V (tearV 40 Vt yb.i yb.b 40) V) := Lib.hid (HPV.out 1)
          clear HPV
          have b0 := block_cell (j := 0) HT7.out.a5 (v := .int .i64 yb.i) rfl
          have b1 := block_cell (j := 1) HT7.out.a5 (v := .slice yb.q yb.m yb.cq) rfl
          go_wp2_with fail
          go_region_held3 (fun w' => w'.cell? ⟨w.heap.size + 1, 0, none⟩ = some (.int .i64 yb.i) ∧ w'.cell? ⟨w.heap.size + 1, 1, none⟩ = some (.slice yb.q yb.m yb.cq)) (first | exact ⟨b0, b1⟩ | exact ⟨f0, f1⟩ | exact ⟨g0, g1⟩) (first | (go_at_call 17; (with_reducible refine HPV1.out.mono ?_); rintro e w7 ⟨rfl, ht7⟩; have f0 := block_cell (j := 0) ht7.a5 (v := .int .i64 yb.i) rfl; have f1 := block_cell (j := 1) ht7.a5 (v := .slice yb.q yb.m yb.cq) rfl) | (go_at_call 17; (with_reducible refine (HPU.out _ ht7).mono ?_); rintro e w8 ⟨rfl, ht8⟩; have g0 := block_cell (j := 0) ht8.a5 (v := .int .i64 yb.i) rfl; have g1 := block_cell (j := 1) ht8.a5 (v := .slice yb.q yb.m yb.cq) rfl))
          all_goals
            have hE : tearE 40 Vt yb.i yb.b = tearE 40 V yb.i yb.b := tearE_len 40 Vt V yb.i yb.b (by rw [← HVT.out, tearV_len])
            rw [hE]
            have HEQ : Hid (tearE 40 V yb.i yb.b = 0 → tearV 40 Vt yb.i yb.b 40 = tearV 40 V yb.i yb.b 40) := Lib.hid fun he => by
              rw [← HVT.out]
              exact mends 40 V yb.i ya.b yb.b _ ht8.was.len (by unfold kp; omega) he
            have hlp : (tearV 40 Vt yb.i yb.b 40).length = 5 := by rw [tearV_len, ← HVT.out, tearV_len]; exact HLV.out
            have HLP := Lib.hid hlp
            clear hE hlp
            generalize tearE 40 V yb.i yb.b = e0 at *
            generalize tearV 40 Vt yb.i yb.b 40 = Vp at *
            generalize tearV 40 V yb.i yb.b 40 = Up at *
            have hsm := same_any XW (XW + 1) 40 5 V _ p c w8 ht8.was ht8.rv HLV.out
            have x0 := block_cell (j := 0) ht8.blk (v := .slice p 5 c) rfl
            have x1 := block_cell (j := 1) ht8.blk (v := .int .i64 40) rfl
            have HT8 := Lib.hid ht8
            clear ht8 ht7 f0 f1 g0 g1 b0 b1 HPV1 HPU
            go_wp2_with fail
            refine hsm.mono ?_
            rintro e W9 ⟨rfl, hb9⟩
            have HT9 := Lib.hid (HT8.out.later hb9)
            clear hsm hb9 x0 x1 HT8
            go_wp2_with fail
            go_loopw [14] (fun i wr => ∃ j : Nat, j ≤ 5 ∧ i = .int .i64 (j : Nat) ∧ Hid (Below W9.heap.size W9 wr)) (fun i _ => 5 - (intOf i).toNat)
            case atStart => exact ⟨0, by omega, rfl, Lib.hid (Below.refl _ _)⟩
            case round =>
              obtain ⟨j, hj5, rfl, HBr⟩ := hrel
              by_cases hlt : j < 5
              · have hlt' : (j : Int) < 5 := by omega
                by_cases he : e0 = 0
                · subst he
                  have hVU := HEQ.out rfl
                  subst hVU
                  have HT := Lib.hid (HT9.out.later HBr.out)
                  have HC1 : Hid (Calls Try.prog 18 #[.pointer (some ⟨X1, 0, none⟩), .int .i64 (j : Nat)] wr.drew fun e w' => ∃ p c, e = .returned (.slice p 40 c) ∧ BL w' p 40 c (Vp.getD j []) ∧ Below wr.heap.size wr w') := Lib.hid ((block_any X1 (X1 + 1) 40 Vp j wr.drew (HT.out.later (Below.refl _ _).drew).v (by rw [HLP.out]; exact hlt)).mono fun e w' ⟨p, c, h1, h2, h3⟩ => ⟨p, c, h1, h2, below_undrew (q := 1) h3⟩)
                  have HC2 : Hid (∀ w5, Below wr.heap.size wr w5 → Calls Try.prog 18 #[.pointer (some ⟨XU, 0, none⟩), .int .i64 (j : Nat)] w5 fun e w' => ∃ p c, e = .returned (.slice p 40 c) ∧ BL w' p 40 c (Vp.getD j []) ∧ Below w5.heap.size w5 w') := Lib.hid fun w5 hb => block_any XU (XU + 1) 40 Vp j w5 (HT.out.later hb).u (by rw [HLP.out]; exact hlt)
                  generalize hst : strOfNums (Vp.getD j []) = st at *
                  have HST := Lib.hid hst
                  clear hst
                  have hb0 : Below wr.heap.size wr wr.drew := (Below.refl _ _).drew
                  have HB0' := Lib.hid hb0
                  clear hb0
                  go_wp2_with fail
                  go_region_held (fun w' => Hid (Below wr.heap.size wr w')) (first | exact HB0' | exact HB5 | exact HB6) (first | (go_at_call 18; (with_reducible refine HC1.out.mono ?_); rintro e w5 ⟨P5, C5, rfl, hl5, hbw5⟩; have HB5 := Lib.hid hbw5; have g5 := conv_bl hl5; rw [HST.out] at g5) | (go_at_call 18; (with_reducible refine (HC2.out _ HB5.out).mono ?_); rintro e w6 ⟨P6, C6, rfl, hl6, hbw6⟩; have HB6 := Lib.hid (HB5.out.trans (hbw6.mono HB5.out.size)); have g6 := conv_bl hl6; have g56 := conv_bl (SlG.later hl5 hbw6); rw [HST.out] at g6 g56))
                  all_goals
                    have HBn := Lib.hid (HBr.out.trans (HB6.out.mono HBr.out.size))
                    clear hl5 hbw5 HB5 g5 hl6 hbw6 HB6 g6 g56
                    go_wp2_with fail
                    go_roundw
                    case rel => exact ⟨j + 1, by omega, by go_num, HBn⟩
                    case measure => simp [intOf]; omega
                · have hq : ((e0 : Int) == 0) = false := by rw [beq_eq_false_iff_ne]; exact he
                  go_wp2_with fail
                  refine wp_region_after (by kernel_rfl) (by kernel_rfl) ?_
                  repeat (go_big_quiet_step (fail))
                  refine wpQuiet_nil ?_
                  intro w4 hw'
                  obtain ⟨⟨wq, h6⟩, hw''⟩ := hw'
                  subst hw''
                  have HBn := Lib.hid (HBr.out.trans (h6.mono HBr.out.size))
                  clear h6
                  go_wp2_with fail
                  go_roundw
                  case rel => exact ⟨j + 1, by omega, by go_num, HBn⟩
                  case measure => simp [intOf]; omega
              · obtain rfl : j = 5 := by omega
                go_wp2_with fail
                refine (vol_works _).mono ?_
                rintro e Wz ⟨rfl, hbz⟩
                have HTZ := Lib.hid ((HT9.out.later HBr.out).later hbz)
                clear hbz
                go_wp2_with fail
                go_ret
                exact ⟨rfl, HTZ.out.below⟩

set_option maxRecDepth 100000 in
theorem lifted (os : Os) (started : os.Started) (H : Type) (enc : TypeId × Value → H) :
    ReturnsInHanded {} Try.checked os 5 .any (Rows.volMendsSpec.pre6 enc Try.prog Try.f5 Rows.volMendsRow.domain false) (Rows.volMendsSpec.post enc Try.prog Try.f5 false true false false) := by
  refine returnsInHanded_of_change (C := Try.checked) own started (by kernel_rfl) Try.func5
    (ChangeSpec.witness6 (enc := enc) (C := Try.checked) false ⟨#[], #[.slice none 0 0, .agg #[.int .i64 0, .slice none 0 0, .bool false, .int .i64 0], .agg #[.int .i64 0, .slice none 0 0, .bool false, .int .i64 0]], []⟩ 8 (by kernel_rfl) (by kernel_rfl) (by kernel_rfl) (by kernel_rfl)) ?_
  intro W base args ds gs before hval0 hW hcnd _
  have hval : ∀ (j : Nat) t v, Try.f5.params[j]? = some t → args[j]? = some v → Value.okWide Try.prog W .any base t v := hval0
  have hW' := hW
  obtain ⟨p, q, hA0, hV, rfl, hfz, hnd⟩ := hW
  have hA : DataW.TrodAll enc Try.prog W 0 (fun _ => true) true Try.f5.params.toList args.toList ds p := hA0
  rw [Try.params5] at hA hval
  obtain ⟨v0, vs0, d0, ds0, p0, q0, hargs, rfl, rfl, h0, r0⟩ := trodAll_cons hA
  obtain ⟨v1, vs1, d1, ds1, p1, q1, rfl, rfl, rfl, h1, r1⟩ := trodAll_cons r0
  obtain ⟨v2, vs2, d2, ds2, p2, q2, rfl, rfl, rfl, h2, r2⟩ := trodAll_cons r1
  obtain ⟨rfl, rfl, rfl⟩ := trodAll_nil r2
  obtain rfl : args = #[v0, v1, v2] := by cases args; simp_all
  obtain ⟨rfl, rfl⟩ := trodVars_none hV
  obtain ⟨a0, len0, cap0, rfl⟩ := okWide_slice Try.underlying22 (hval 0 22 v0 rfl rfl)
  have k0 := h0
  have lt0 : ∀ x ∈ p0, x.block < W.heap.size := by obtain ⟨m, hm⟩ := k0; exact DataW.trod_lt m _ _ _ hm
  obtain ⟨L0, w0⟩ : ∃ L, AL W a0 len0 cap0 L ∧ ∀ y ∈ L, AnyA y := by
    obtain ⟨fuel, hf⟩ := h0
    exact open_acts hf
  have k1 := h1
  have lt1 : ∀ x ∈ p1, x.block < W.heap.size := by obtain ⟨m, hm⟩ := k1; exact DataW.trod_lt m _ _ _ hm
  obtain ⟨a1, rfl, w1⟩ := open_act (hval 1 35 v1 rfl rfl) h1
  have k2 := h2
  have lt2 : ∀ x ∈ p2, x.block < W.heap.size := by obtain ⟨m, hm⟩ := k2; exact DataW.trod_lt m _ _ _ hm
  obtain ⟨a2, rfl, w2⟩ := open_act (hval 2 35 v2 rfl rfl) h2
  clear hA0 hval0
  refine (walk a0 len0 cap0 L0 a1 a2 W w0 w1 w2).mono fun e W' ⟨he, bel⟩ => ?_
  subst he
  exact ⟨_, rfl, _, _, _, [], _, [], hW', trodAll_mk1 (shut_bool Try.underlying4 _), (trodAll_cons_mk (Below.trod laidOut (by kernel_rfl) (of_decide_eq_true (by kernel_rfl)) k0 bel lt0) (trodAll_cons_mk (Below.trod laidOut (by kernel_rfl) (of_decide_eq_true (by kernel_rfl)) k1 bel lt1) (trodAll_cons_mk (Below.trod laidOut (by kernel_rfl) (of_decide_eq_true (by kernel_rfl)) k2 bel lt2) trodAll_mk0))), rfl, bel.frame _, fun h => by cases h⟩

theorem over : Rows.volMendsRow.holds Try.pinned (OpenSpec.ofChange Rows.volMendsSpec) :=
  OpenClaim.holds_of_wide 5 Try.f5 rfl rfl rfl rfl rfl rfl rfl ⟨rfl, rfl, rfl, rfl, rfl⟩ rfl rfl rfl rfl rfl (by kernel_rfl) Try.func5 (by kernel_rfl)
    (of_decide_eq_true (by kernel_rfl)) (by unfold Func.isWrapper; first | (rw [if_pos (by decide +kernel)]; kernel_rfl) | (rw [if_neg (by decide +kernel)]; exact ⟨rfl, rfl⟩))
    (fun os started H enc _ => lifted os started H enc)

theorem proved : Rows.VolMendsSaid := over
#print axioms proved
end Go.Proofs.Ytdocnmgbbfgdoaa.volMends
