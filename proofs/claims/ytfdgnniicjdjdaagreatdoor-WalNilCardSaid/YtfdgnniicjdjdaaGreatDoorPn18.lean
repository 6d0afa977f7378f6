import Derived.Test.YtfdgnniicjdjdaaGreatDoorPn17
import Derived.Deep.RegionLaw
import Derived.Test.YtfdgnniicjdjdaaGreatDoorPn11
import Derived.Test.YtfdgnniicjdjdaaGreatDoorPn20
import Derived.Maps.AppendAt
import Derived.Laws.AppendOwnNone
import Derived.Laws.ResultCell
namespace Go.Proofs.YtfdgnniicjdjdaaGreatDoor
open Go.RowKit Go.ChangeShapes Go.WideShapes Go.Maps
set_option linter.unusedVariables false
set_option maxRecDepth 10000
set_option linter.unusedSimpArgs false
theorem sl_nil_in (d : Nat) (p : Option Addr) (n c : Nat) (w : World) : (Op.equalIn (d + 1) 33 (.slice p n c) (.slice none 0 0)).run Tryz.prog w = .ok p.isNone w := by
  cases p <;> simp [Op.equalIn, run_underlying Tryz.underlying33]
theorem sl_nil (p : Option Addr) (n c : Nat) (w : World) : (binOp .eql 33 (.slice p n c) (.slice none 0 0)).run Tryz.prog w = .ok (.bool p.isNone) w := by
  simp only [binOp]
  simp [show Op.equal 33 (.slice p n c) (.slice none 0 0) = Op.equalIn (9999 + 1) 33 (.slice p n c) (.slice none 0 0) from rfl, sl_nil_in 9999 p n c w]
theorem clone_bytes (p : Option Addr) (n c : Nat) (L : List Int) (w : World) (hL : BL w p n c L) (h0 : 0 < n) (hn : n ≤ 1000000) :
    Calls Tryz.prog 70 #[.slice p n c] w fun e w' => ∃ g c', e = .returned (.slice (some ⟨g, 0, none⟩) n c') ∧ RowB w' (.slice (some ⟨g, 0, none⟩) n c') n L ∧ w.heap.size ≤ g ∧ Below w.heap.size w w' := by
  have HL := Lib.hid hL
  obtain ⟨b, off, rfl, _, _⟩ := hL.at h0
  have hb1 : Below w.heap.size w (w.alloc (.cells #[] 5)) := (Below.refl _ _).alloc (Nat.le_refl _) _
  have HB1 := Lib.hid hb1
  have HR1 : Hid (RowB (w.alloc (.cells #[] 5)) (.slice (some ⟨w.heap.size, 0, none⟩) 0 0) 0 []) := Lib.hid (RowB.fresh (alloc_block w _) rfl (Nat.zero_le _))
  have HL1 := Lib.hid (SlG.later hL hb1)
  have hs1 : (w.alloc (.cells #[] 5)).heap.size = w.heap.size + 1 := by simp
  have hq := fun w => sl_nil (some ⟨b, off, none⟩) n c w
  clear hL hb1
  go_enter Tryz.func70, Tryz.ntmps70
  go_wp2_with (first | (at_builtin; refine wpList_append_rb rfl _ _ rfl _ _ _ rfl HR1.out _ n c L rfl HL1.out (by omega) ?_; intro p' c' w3 hr3 hc3 hl3 hn3) | fail)
  rw [Nat.zero_add] at hr3 hl3
  go_ret
  obtain ⟨p2, c2, he, _, _, hg⟩ := hr3.sl
  cases he
  obtain ⟨g, rfl⟩ := hg h0
  refine ⟨g, c', rfl, hr3, ?_, ?_⟩
  · rcases hl3 g rfl with h | h
    · cases h
      exact Nat.le_refl _
    · omega
  · exact hc3.below HB1.out HB1.out.size fun k hk => by cases hk; exact Nat.le_refl _
structure Cp (w wr : World) (Q : Nat → Prop) (b r b2 T2 : Nat) (z0 : Nat → Nat × Nat) (D0 : DataW Sv) (a : Int) (s : Nat) (t : TS) (left : Lit → Bool) (cnt : Nat) : Prop where
  rg : wr.ranges Tryz.prog 2 heldElem b r (nSD s t.B.length) D0 left cnt
  seg0 : Seg wr Q z0 t.f s t.B
  lt0 : ∀ i, i * s < t.B.length → (z0 (t.f + i)).1 < w.heap.size
  blk : wr.heap[T2]? = some (.cells #[.int .i64 a, .int .i64 (t.f * s : Nat), .int .i64 (t.f * s + t.B.length : Nat), .map (some b2)] 171 (0, 0))
  below : Below w.heap.size w wr
  lo : b < w.heap.size ∧ w.heap.size ≤ r ∧ w.heap.size ≤ b2 ∧ w.heap.size ≤ T2 ∧ r ≠ b2 ∧ r ≠ T2 ∧ b2 ≠ T2
  cntle : cnt ≤ nSD s t.B.length
  out : ∃ z D, MapB wr b2 (nSD s t.B.length - cnt) D ∧ (∀ x zd, D.atKey (kLD x) zd = match (if left (kLD x) = true then none else So z t.f s t.B x) with | some v => .held v | none => zd) ∧
    (∀ kl, Maps.has D kl = (Maps.has D0 kl && !left kl)) ∧ (∀ i, i * s < t.B.length → left (kLD ((t.f + i : Nat) : Int)) = false → w.heap.size ≤ (z (t.f + i)).1 ∧ RowB wr (.slice (some ⟨(z (t.f + i)).1, 0, none⟩) (sgD s t.B i).length (z (t.f + i)).2) (sgD s t.B i).length (sgD s t.B i)) ∧
    ∀ i j, i * s < t.B.length → j * s < t.B.length → i ≠ j → left (kLD ((t.f + i : Nat) : Int)) = false → left (kLD ((t.f + j : Nat) : Int)) = false → (z (t.f + i)).1 ≠ (z (t.f + j)).1
theorem cp_came {D0 : DataW Sv} {z0 : Nat → Nat × Nat} {f s m : Nat} {B : List Int} (hT : Tm D0 (So z0 f s B) m) {x : Int} {c : Sv} (hat : ∀ zd, D0.atKey (kLD x) zd = .held c) : ∃ i, i * s < B.length ∧ x = ((f + i : Nat) : Int) ∧ c = (some ⟨(z0 (f + i)).1, 0, none⟩, (sgD s B i).length, (z0 (f + i)).2) := by
  have h1 := hT.at_ x .nil
  rw [hat] at h1
  rcases low_or_at f x with h | ⟨i, rfl⟩
  · rw [So_low _ _ _ _ h] at h1
    cases h1
  · rw [So_at] at h1
    by_cases hi : i * s < B.length
    · rw [if_pos hi] at h1
      cases h1
      exact ⟨i, hi, rfl, rfl⟩
    · rw [if_neg hi] at h1
      cases h1
theorem Cp.keep {w wr w1 : World} {Q : Nat → Prop} {b r b2 T2 : Nat} {z0 : Nat → Nat × Nat} {D0 : DataW Sv} {a : Int} {s : Nat} {t : TS} {left left1 : Lit → Bool} {cnt cnt1 : Nat} (h : Cp w wr Q b r b2 T2 z0 D0 a s t left cnt) (hg : wr.grownBy w1 (some r)) :
    Seg w1 Q z0 t.f s t.B ∧ w1.heap[T2]? = some (.cells #[.int .i64 a, .int .i64 (t.f * s : Nat), .int .i64 (t.f * s + t.B.length : Nat), .map (some b2)] 171 (0, 0)) ∧ Below w.heap.size w w1 := by
  obtain ⟨l1, l2, l3, l4, l5, l6, l7⟩ := h.lo
  refine ⟨h.seg0.keep (Chg.of_grown hg) fun i hi e => ?_, (hg.block T2 (block_lt h.blk) (fun e => l6 (by cases e; rfl))).trans h.blk, h.below.grown hg h.below.size fun k hk => by cases hk; exact l2⟩
  have := h.lt0 i hi
  cases e
  omega
theorem Cp.step {w wr w1 w3 w4 : World} {Q : Nat → Prop} {b r b2 T2 : Nat} {z0 : Nat → Nat × Nat} {D0 : DataW Sv} {a : Int} {s : Nat} {t : TS} {left : Lit → Bool} {cnt cnt1 i : Nat} (h : Cp w wr Q b r b2 T2 z0 D0 a s t left cnt) (hg : wr.grownBy w1 (some r))
    (hrg : w1.ranges Tryz.prog 2 heldElem b r (nSD s t.B.length) D0 (fun y => left y && !y.sameKey (kLD ((t.f + i : Nat) : Int))) cnt1) (hlt : cnt1 < cnt) (hT0 : Tm D0 (So z0 t.f s t.B) (nSD s t.B.length)) (hi : i * s < t.B.length) (hlx : left (kLD ((t.f + i : Nat) : Int)) = true)
    {g c n : Nat} (hn : n = (sgD s t.B i).length) (hrow : RowB w3 (.slice (some ⟨g, 0, none⟩) n c) n (sgD s t.B i)) (hgl : w1.heap.size ≤ g) (hb3 : Below w1.heap.size w1 w3) {k : Nat} (hk : k = nSD s t.B.length - cnt + 1) {z : Nat → Nat × Nat} {D : DataW Sv}
    (hat : ∀ x zd, D.atKey (kLD x) zd = match (if left (kLD x) = true then none else So z t.f s t.B x) with | some v => .held v | none => zd) (hhas : ∀ kl, Maps.has D kl = (Maps.has D0 kl && !left kl))
    (hrows : ∀ i, i * s < t.B.length → left (kLD ((t.f + i : Nat) : Int)) = false → w.heap.size ≤ (z (t.f + i)).1 ∧ RowB wr (.slice (some ⟨(z (t.f + i)).1, 0, none⟩) (sgD s t.B i).length (z (t.f + i)).2) (sgD s t.B i).length (sgD s t.B i))
    (hap : ∀ i j, i * s < t.B.length → j * s < t.B.length → i ≠ j → left (kLD ((t.f + i : Nat) : Int)) = false → left (kLD ((t.f + j : Nat) : Int)) = false → (z (t.f + i)).1 ≠ (z (t.f + j)).1)
    (hm : MapB w3 b2 (nSD s t.B.length - cnt) D) (hm4 : MapB w4 b2 k (D.put (kLD ((t.f + i : Nat) : Int)) (.held (some ⟨g, 0, none⟩, n, c)))) (hc4 : Chg (fun k => k = b2) w3 w4) :
    Cp w w4 Q b r b2 T2 z0 D0 a s t (fun y => left y && !y.sameKey (kLD ((t.f + i : Nat) : Int))) cnt1 := by
  obtain ⟨l1, l2, l3, l4, l5, l6, l7⟩ := h.lo
  obtain ⟨k1, k2, k3⟩ := h.keep (left1 := left) (cnt1 := cnt) hg
  have hsame : ∀ j : Nat, (kLD ((t.f + j : Nat) : Int)).sameKey (kLD ((t.f + i : Nat) : Int)) = decide (j = i) := by
    intro j
    by_cases e : j = i
    · subst e
      rw [decide_eq_true rfl]
      exact WideAt.sameKey_self (kL_is _)
    · rw [decide_eq_false e]
      exact sameKey_ne fun e' => e (by have := kL_inj e'; omega)
  have hc3 : Chg (fun _ => False) w1 w3 := Chg.of_below hb3
  have hb2lt := hm.lt
  have hrg3 := World.ranges.kept (row := none) hrg (show w1.grownBy w3 none from ⟨hb3.os, hb3.tape, hb3.output, hb3.size, fun k hk _ => hb3.block k hk⟩) (by simp) (by simp)
  have hrg4 := World.ranges.kept (row := some b2) hrg3 (show w3.grownBy w4 (some b2) from ⟨hc4.os, hc4.tape, hc4.output, hc4.size, fun k hk hne => hc4.block k hk fun e => hne (by rw [e])⟩) (fun e => by cases e; omega) (fun e => by cases e; exact l5 rfl)
  have hk2 := block_later k2 hb3
  have hgne : g ≠ b2 := by
    rcases hrow.own.2 with ⟨h3, _⟩ | ⟨g3, c3, cur3, h3, _, h4, _⟩
    · cases h3
    · cases h3
      exact hm.ne h4
  have hg1 := hg.size
  refine ⟨hrg4, (k1.keep hc3 fun _ _ h => h).keep hc4 fun j hj e => ?_, h.lt0, (hc4.block T2 (block_lt hk2) (fun e => l7 e.symm)).trans hk2, hc4.below (k3.trans (hb3.mono k3.size)) (Nat.le_trans k3.size hb3.size) (fun k hk => by rw [hk]; exact l3), h.lo, by have := h.cntle; omega, ?_⟩
  · have := h.lt0 j hj
    omega
  refine ⟨fun y => if y = t.f + i then (g, c) else z y, _, hm4.mono (by have := h.cntle; omega), fun x zd => ?_, fun kl => ?_, fun j hj hl => ?_, fun j l hj hl hne h1 h2 => ?_⟩
  · by_cases e : x = ((t.f + i : Nat) : Int)
    · subst e
      rw [atKey_put_same hm.isMap (kL_is _)]
      have : (left (kLD ((t.f + i : Nat) : Int)) && !(kLD ((t.f + i : Nat) : Int)).sameKey (kLD ((t.f + i : Nat) : Int))) = false := by rw [hsame]; simp
      rw [this, if_neg (by simp), So_at, if_pos hi, if_pos rfl, hn]
    · rw [atKey_put_other (fun e' => e (kL_inj e')), hat]
      have hk : (kLD x).sameKey (kLD ((t.f + i : Nat) : Int)) = false := sameKey_ne fun e' => e (kL_inj e')
      rw [hk]
      simp only [Bool.not_false, Bool.and_true]
      have hSo : So (fun y => if y = t.f + i then (g, c) else z y) t.f s t.B x = So z t.f s t.B x := by
        rcases low_or_at t.f x with h' | ⟨j, rfl⟩
        · rw [So_low _ _ _ _ h', So_low _ _ _ _ h']
        · rw [So_at, So_at]
          rw [if_neg (show ¬ t.f + j = t.f + i by omega)]
      rw [hSo]
  · by_cases e : kl = kLD ((t.f + i : Nat) : Int)
    · subst e
      rw [has_put_same hm.isMap (kL_is _), hT0.has, So_at, if_pos hi, hsame]
      simp
    · rw [has_put_other e, hhas, sameKey_ne e]
      simp
  · dsimp only
    by_cases e : j = i
    · subst e
      rw [if_pos rfl]
      refine ⟨?_, hn ▸ hrow.keep hc4 fun k hk => by cases hk; exact hgne⟩
      have := h.below.size
      show w.heap.size ≤ g
      omega
    · rw [if_neg (show ¬ t.f + j = t.f + i by omega)]
      rw [hsame, decide_eq_false e] at hl
      simp only [Bool.not_false, Bool.and_true] at hl
      obtain ⟨r1, r2⟩ := hrows j hj hl
      refine ⟨r1, ((r2.keep (Chg.of_grown hg) fun k hk hk2 => ?_).keep hc3 fun _ _ h => h).keep hc4 fun k hk e2 => ?_⟩
      · cases hk
        cases hk2
        obtain ⟨es, clock, since, seen, c0, _, _, _, _, hr, _⟩ := h.rg
        rcases r2.own.2 with ⟨h3, _⟩ | ⟨g3, c3, cur3, h3, _, h4, _⟩
        · cases h3
        · cases h3
          rw [hr] at h4
          cases h4
      · cases hk
        have r3 := (r2.keep (Chg.of_grown hg) (fun k hk hk2 => by
          cases hk
          cases hk2
          obtain ⟨es, clock, since, seen, c0, _, _, _, _, hr, _⟩ := h.rg
          rcases r2.own.2 with ⟨h3, _⟩ | ⟨g3, c3, cur3, h3, _, h4, _⟩
          · cases h3
          · cases h3
            rw [hr] at h4
            cases h4)).keep hc3 fun _ _ h => h
        rcases r3.own.2 with ⟨h3, _⟩ | ⟨g3, c3, cur3, h3, _, h4, _⟩
        · cases h3
        · cases h3
          exact hm.ne h4 e2
  · have key : ∀ j, j * s < t.B.length → j ≠ i → left (kLD ((t.f + j : Nat) : Int)) = false → (z (t.f + j)).1 ≠ g := by
      intro j hj e hl e2
      have : (z (t.f + j)).1 < wr.heap.size := (hrows j hj hl).2.bound _ rfl
      omega
    dsimp only
    rw [hsame] at h1 h2
    by_cases e : j = i
    · rw [if_pos (by omega), if_neg (show ¬ t.f + l = t.f + i by omega)]
      rw [decide_eq_false (show ¬ l = i by omega)] at h2
      simp only [Bool.not_false, Bool.and_true] at h2
      exact fun h => key l hl (by omega) h2 h.symm
    · rw [if_neg (show ¬ t.f + j = t.f + i by omega)]
      rw [decide_eq_false e] at h1
      simp only [Bool.not_false, Bool.and_true] at h1
      by_cases e2 : l = i
      · rw [if_pos (by omega)]
        exact key j hj e h1
      · rw [if_neg (show ¬ t.f + l = t.f + i by omega)]
        rw [decide_eq_false e2] at h2
        simp only [Bool.not_false, Bool.and_true] at h2
        exact hap j l hj hl hne h1 h2
theorem Cp.done {w wr : World} {Q : Nat → Prop} {b r b2 T2 : Nat} {z0 : Nat → Nat × Nat} {D0 : DataW Sv} {a : Int} {s : Nat} {t : TS} {left : Lit → Bool} {cnt : Nat} (h : Cp w wr Q b r b2 T2 z0 D0 a s t left cnt) (hT0 : Tm D0 (So z0 t.f s t.B) (nSD s t.B.length)) (hs : s = cl a 64 4096) (hl : ∀ kl, left kl = false) : Tp wr T2 (some b2) (fun k => w.heap.size ≤ k) a s t := by
  obtain ⟨z, D, hm, hat, hhas, hrows, hap⟩ := h.out
  have hsz : Maps.size D = nSD s t.B.length := by
    rw [size_same hm h.rg.owns (fun kl => by rw [hhas, hl]; simp), hT0.size]
  refine ⟨hs, h.blk, fun e => (by cases e), fun b' e => ?_, h.lo.2.2.2.1⟩
  cases e
  refine ⟨h.lo.2.2.1, z, D, hsz ▸ hm.tight, ⟨hm.tidy mapLaw, fun x zd => ?_, hsz⟩, ⟨fun i hi => hrows i hi (hl _), fun i j hi hj hne => hap i j hi hj hne (hl _) (hl _)⟩⟩
  rw [hat, hl, if_neg (by simp)]
  cases So z t.f s t.B x <;> rfl
end Go.Proofs.YtfdgnniicjdjdaaGreatDoor
namespace Go.Proofs.YtfdgnniicjdjdaaGreatDoor
open Go.RowKit Go.ChangeShapes Go.WideShapes Go.Maps
set_option linter.unusedVariables false
set_option maxRecDepth 10000
set_option linter.unusedSimpArgs false
theorem made_map (n : Int) (w : World) : (Instr.makeMap 169 (some (.int .i64 n))).run Tryz.prog w = .ok (.map (some w.heap.size)) (w.alloc (.map #[] 0)) := by
  simp [Instr.makeMap, run_underlying Tryz.underlying169, asInt, asIntOf, Result.andThen]
theorem So_none {z : Nat → Nat × Nat} (z' : Nat → Nat × Nat) {f s : Nat} {B : List Int} {x : Int} (h : So z f s B x = none) : So z' f s B x = none := by
  unfold So at *
  split at h
  · cases h
  · rename_i hn
    rw [if_neg hn]
section
variable {w : World} {T : Nat} {mb : Option Nat} {Q : Nat → Prop} {a : Int} {s : Nat} {t : TS}
set_option maxHeartbeats 2000000 in
set_option maxRecDepth 100000 in
theorem tape_copy (h : Tp w T mb Q a s t) (hbig : t.f * s + t.B.length ≤ 1000000) : Calls Tryz.prog 101 #[.pointer (some ⟨T, 0, none⟩)] w fun e w' => e = .returned (.pointer (some ⟨w.heap.size, 0, none⟩)) ∧ (∃ mb', Tp w' w.heap.size mb' (fun k => w.heap.size ≤ k) a s t) ∧ Below w.heap.size w w' := by
  have hs := h.s_in
  have HTP := Lib.hid h
  have hTlt := block_lt h.blk
  have c0 := h.cells.1
  have hn := tape_new a w
  have hb1 : Below w.heap.size w (w.alloc (.cells #[.int .i64 a, .int .i64 0, .int .i64 0, .map none] 171)) := (Below.refl _ _).alloc (Nat.le_refl _) _
  have HB1 := Lib.hid hb1
  have HN1 := Lib.hid (alloc_block w (.cells #[.int .i64 a, .int .i64 0, .int .i64 0, .map none] 171))
  have hs1 : (w.alloc (.cells #[.int .i64 a, .int .i64 0, .int .i64 0, .map none] 171)).heap.size = w.heap.size + 1 := by simp
  clear h hb1
  go_enter Tryz.func101, Tryz.ntmps101
  go_wp2_with fail
  refine hn.mono ?_
  rintro e w' ⟨rfl, rfl⟩
  go_wp2_with fail
  clear hn
  have HT1 := Lib.hid (HTP.out.later HB1.out)
  generalize hW1 : w.alloc (.cells #[.int .i64 a, .int .i64 0, .int .i64 0, .map none] 171) = W1 at *
  clear hW1
  have c1 : W1.drew.cell? ⟨T, 1, none⟩ = some (.int .i64 (t.f * s : Nat)) := HT1.out.cells.2.1
  have c2 : W1.drew.cell? ⟨T, 2, none⟩ = some (.int .i64 (t.f * s + t.B.length : Nat)) := HT1.out.cells.2.2.1
  have n1 : W1.drew.cell? ⟨w.heap.size, 1, none⟩ = some (.int .i64 0) := block_cell (j := 1) HN1.out rfl
  have n2 : W1.drew.cell? ⟨w.heap.size, 2, none⟩ = some (.int .i64 0) := block_cell (j := 2) HN1.out rfl
  have m1 : W1.cell? ⟨w.heap.size, 1, none⟩ = some (.int .i64 0) := n1
  have m2 : W1.cell? ⟨w.heap.size, 2, none⟩ = some (.int .i64 0) := n2
  have e1 : W1.frozen? ⟨w.heap.size, 1, none⟩ = false := block_free 1 HN1.out
  have e2 : W1.frozen? ⟨w.heap.size, 2, none⟩ = false := block_free 2 HN1.out
  have f1 : W1.drew.frozen? ⟨w.heap.size, 1, none⟩ = false := block_free 1 HN1.out
  have f2 : W1.drew.frozen? ⟨w.heap.size, 2, none⟩ = false := block_free 2 HN1.out
  have HF : Hid (T < w.heap.size) := Lib.hid hTlt
  generalize hF : t.f * s = F at *
  generalize hE : F + t.B.length = E at *
  have HFF := Lib.hid hF
  have HEE := Lib.hid hE
  clear hF hE
  go_region
  have HN2 : Hid (((W1.setCell ⟨w.heap.size, 1, none⟩ (.int .i64 (F : Nat))).setCell ⟨w.heap.size, 2, none⟩ (.int .i64 (E : Nat))).drew.heap[w.heap.size]? = some (.cells #[.int .i64 a, .int .i64 (F : Nat), .int .i64 (E : Nat), .map none] 171 (0, 0))) := Lib.hid (block_put 2 _ (block_put 1 _ HN1.out))
  have hc2 : Chg (fun k => k = w.heap.size) W1 ((W1.setCell ⟨w.heap.size, 1, none⟩ (.int .i64 (F : Nat))).setCell ⟨w.heap.size, 2, none⟩ (.int .i64 (E : Nat))).drew := (((Chg.refl (fun k => k = w.heap.size) W1).setCell ⟨w.heap.size, 1, none⟩ _ fun _ => rfl).setCell ⟨w.heap.size, 2, none⟩ _ fun _ => rfl).drewN 1
  have HB2 := Lib.hid (hc2.below HB1.out HB1.out.size fun k hk => by omega)
  have hs2 : ((W1.setCell ⟨w.heap.size, 1, none⟩ (.int .i64 (F : Nat))).setCell ⟨w.heap.size, 2, none⟩ (.int .i64 (E : Nat))).drew.heap.size = w.heap.size + 1 := by simpa using hs1
  clear c1 c2 n1 n2 m1 m2 e1 e2 f1 f2 hc2 HN1 HB1 HT1 hs1
  generalize ((W1.setCell ⟨w.heap.size, 1, none⟩ (.int .i64 (F : Nat))).setCell ⟨w.heap.size, 2, none⟩ (.int .i64 (E : Nat))).drew = W2 at *
  have HT2 := Lib.hid (HTP.out.later HB2.out)
  obtain ⟨X, hX⟩ : ∃ X, w.heap.size = X := ⟨_, rfl⟩
  have HX := Lib.hid hX
  rw [hX] at HN2 HB2 HF hs2 ⊢
  have c3 : W2.cell? ⟨T, 3, none⟩ = some (.map mb) := HT2.out.cells.2.2.2
  have hlen : ∀ ty, (Builtin.len_ #[169] ty #[.map mb]).run Tryz.prog W2 = .ok (.int .i64 (nSD s t.B.length : Nat)) W2 := by
    intro ty
    cases mb with
    | none =>
      rw [(HTP.out.no rfl).2, nS_eq (s := s) (n := ([] : List Int).length) (m := 0) (by omega) (by simp) (fun i hi => by omega)]
      exact Maps.len_nil Tryz.underlying169 ty
    | some b =>
      obtain ⟨_, z, D, hown, hT, _⟩ := HT2.out.yes b rfl
      exact len_at hown hT ty
  have hmm := made_map
  have hb3 : Below W2.heap.size W2 (W2.alloc (.map #[] 0)) := (Below.refl _ _).alloc (Nat.le_refl _) _
  have hN3 := block_later HN2.out hb3
  have x3 := block_cell (j := 3) hN3 (v := .map none) rfl
  have y3 := block_free 3 hN3
  have HN3 : Hid (((W2.alloc (.map #[] 0)).setCell ⟨X, 3, none⟩ (.map (some (X + 1)))).heap[X]? = some (.cells #[.int .i64 a, .int .i64 (F : Nat), .int .i64 (E : Nat), .map (some (X + 1))] 171 (0, 0))) := Lib.hid (block_put 3 _ hN3)
  have hc3 : Chg (fun k => k = X) (W2.alloc (.map #[] 0)) ((W2.alloc (.map #[] 0)).setCell ⟨X, 3, none⟩ (.map (some (X + 1)))) := (Chg.refl _ _).setCell _ _ fun _ => rfl
  have HB3 : Hid (Below X w ((W2.alloc (.map #[] 0)).setCell ⟨X, 3, none⟩ (.map (some (X + 1))))) := Lib.hid (by
    have hb4 := HB2.out.trans (hb3.mono (by omega))
    exact hc3.below hb4 (hX ▸ hb4.size) fun k hk => by omega)
  have hs3 : ((W2.alloc (.map #[] 0)).setCell ⟨X, 3, none⟩ (.map (some (X + 1)))).heap.size = X + 2 := by simp [World.setCell, hs2]
  have hM3 : MapB ((W2.alloc (.map #[] 0)).setCell ⟨X, 3, none⟩ (.map (some (X + 1)))) (X + 1) 0 (.map []) := by
    have hm := World.ownsMap_made (H := Sv) W2 Tryz.prog 2 heldElem
    rw [hs2] at hm
    exact hm.setCell (a := ⟨X, 3, none⟩) (by show X + 1 ≠ X; omega) _
  have HM3 := Lib.hid hM3
  clear hb3 hN3 hc3 hM3
  generalize hN : nSD s t.B.length = N at *
  have HN := Lib.hid hN
  clear hN
  generalize hW3 : (W2.alloc (.map #[] 0)).setCell ⟨X, 3, none⟩ (.map (some (X + 1))) = W3 at *
  have HT3 := Lib.hid (HTP.out.later (hX ▸ HB3.out))
  have c3' : W3.cell? ⟨T, 3, none⟩ = some (.map mb) := HT3.out.cells.2.2.2
  clear hX hTlt c0
  cases mb with
  | none =>
    obtain ⟨t1, t2⟩ := HTP.out.no rfl
    have hrg := run_range_nilMap (P := Tryz.prog) W3 169 _ _ Tryz.underlying169
    have hnx : ∀ ty, (Instr.next (.pointer (some ⟨W3.heap.size, 0, none⟩)) false ty).run Tryz.prog (W3.alloc (.mapIter none 0 #[] 0)) = _ := fun ty => run_next_nilMap _ ty 0 0 #[]
    rw [hs3] at hrg hnx
    go_wp2_with fail
    simp only [hW3] at *
    go_wp2_with fail
    refine wp_loop_rounds 1 ?_
    rw [rounds_succ]
    go_wp2_with fail
    go_ret
    have hb4 : Below W3.heap.size W3 (W3.alloc (.mapIter none 0 #[] 0)) := (Below.refl _ _).alloc (Nat.le_refl _) _
    have hN4 := block_later HN3.out hb4
    have hn0 : nSD s 0 = 0 := nS_eq (by omega) (by omega) (fun i hi => by omega)
    refine ⟨by rw [HX.out]; rfl, ⟨some (X + 1), HTP.out.seg, ?_, fun e => (by cases e), fun b e => ?_, Nat.le_refl _⟩, ?_⟩
    · rw [HX.out, HFF.out, HEE.out]
      exact hN4
    · cases e
      rw [t1, t2, HX.out]
      refine ⟨Nat.le_succ X, fun _ => (0, 0), .map [], ?_, ?_, Seg.zero _ _ _ _ _⟩
      · rw [List.length_nil, hn0]
        exact HM3.out.turn (Chg.of_below (S := fun _ => False) hb4) fun h => h
      · rw [List.length_nil, hn0]
        exact Tm.empty.congr (fun y => by unfold So; rw [if_neg (by simp)]) rfl
    · rw [HX.out]
      exact HB3.out.trans (hb4.mono (by omega))
  | some b =>
    obtain ⟨_, z0, D0, hown9, hT0, hS9⟩ := HTP.out.yes b rfl
    have hc9 : Chg (fun _ => False) w W3 := Chg.of_below (HX.out ▸ HB3.out)
    have HO := Lib.hid (hown9.turn hc9 fun h => h)
    have HTM := Lib.hid hT0
    have HSG := Lib.hid (hS9.keep hc9 fun _ _ h => h)
    have HLT := Lib.hid fun i hi => hS9.lt (i := i) hi
    have hblt : b < w.heap.size := hown9.lt
    clear hown9 hS9 hT0 hc9
    obtain ⟨w0, hrun0, hrg0, hg0, hs0⟩ := HO.out.range mapLaw Tryz.underlying169
    rw [hs3] at hrun0 hrg0 hs0
    go_wp2_with fail
    simp only [hW3] at *
    go_wp2_with fail
    clear hrun0 hlen hmm x3 y3
    have hcp : Cp w w0 Q b (X + 2) (X + 1) X z0 D0 a s t (Maps.has D0) (Maps.size D0) := by
      have hb0 : Below W3.heap.size W3 w0 := ⟨hg0.os, hg0.tape, hg0.output, hg0.size, fun k hk => hg0.block k hk (by simp)⟩
      refine ⟨hrg0, HSG.out.keep (Chg.of_below (S := fun _ => False) hb0) (fun _ _ h => h), fun i hi => ?_, ?_, ?_, ?_, ?_, ?_⟩
      · exact HLT.out i hi
      · rw [HFF.out, HEE.out]
        exact block_later HN3.out hb0
      · rw [HX.out]
        exact HB3.out.trans (hb0.mono (by omega))
      · have := HX.out
        omega
      · rw [HTM.out.size]
        exact Nat.le_refl _
      · refine ⟨fun _ => (0, 0), .map [], (HM3.out.turn (Chg.of_below (S := fun _ => False) hb0) fun h => h).mono (Nat.zero_le _), fun x zd => ?_, fun kl => ?_, fun i hi hl => ?_, fun i j hi hj hne hl => ?_⟩
        · cases hh : Maps.has D0 (kLD x) with
          | true => rw [if_pos rfl]; rfl
          | false =>
            have h1 := HTM.out.has x
            rw [hh] at h1
            have h2 : So z0 t.f s t.B x = none := by
              cases e : So z0 t.f s t.B x with
              | none => rfl
              | some v => rw [e] at h1; cases h1
            rw [if_neg (by simp), So_none (fun _ => (0, 0)) h2]
            rfl
        · show false = _
          cases Maps.has D0 kl <;> rfl
        · rw [HTM.out.has, So_at, if_pos hi] at hl
          cases hl
        · rw [HTM.out.has, So_at, if_pos hi] at hl
          cases hl
    have HCP := Lib.hid hcp
    clear hcp hrg0 hg0 hs0
    go_loopw [4] (fun _ wr => ∃ (left : Lit → Bool) (cnt : Nat), Hid (Cp w wr Q b (X + 2) (X + 1) X z0 D0 a s t left cnt)) (fun _ wr => wr.rangeLeft b (X + 2))
    case atStart => exact ⟨_, _, HCP⟩
    case round =>
      obtain ⟨left, cnt, HC⟩ := hrel
      go_wp2_with (first | (at_next; refine wpList_next_ranges (α := Int) (β := Sv) _ rfl _ rfl 2 mapLaw heldElem (Value.int .i64) (fun c => .slice c.1 c.2.1 c.2.2) (fun key kl hk => by obtain ⟨x, rfl, _⟩ := Maps.keyOf_int_inv Tryz.underlying2 hk; exact ⟨x, rfl⟩) (fun v y hv => by obtain ⟨c, rfl, _⟩ := held_shape hv; exact ⟨c, rfl⟩) b (X + 2) _ D0 _ _ rfl HC.out.rg ?_ ?_) | fail)
      · intro hc0 hl0
        go_wp2_with fail
        go_ret
        refine ⟨by rw [HX.out]; rfl, ⟨some (X + 1), ?_⟩, HC.out.below⟩
        have hd := HC.out.done HTM.out HTP.out.seg hl0
        rw [HX.out] at hd ⊢
        exact hd
      · intro x cp cn cc kl yd yps w1 cnt1 hkey hlk hv hat hrg1 hlt hg1 hs1 hen
        obtain ⟨x', ex, rfl, hwx⟩ := Maps.keyOf_int_inv Tryz.underlying2 hkey
        cases ex
        obtain ⟨rfl, rfl⟩ : yd = .held (cp, cn, cc) ∧ yps = [] := by
          first
            | (cases hv; exact ⟨rfl, rfl⟩)
            | (obtain ⟨h1, h2⟩ := hv; exact ⟨h1.symm, h2.symm⟩)
            | (simp [heldElem] at hv; obtain ⟨h1, h2⟩ := hv; exact ⟨h1.symm, h2.symm⟩)
        obtain ⟨i, hi, rfl, hce⟩ := cp_came HTM.out hat
        cases hce
        obtain ⟨k1, k2, k3⟩ := HC.out.keep (left1 := left) (cnt1 := cnt) hg1
        have hrow := (k1.row i hi).2
        have hpos : 0 < (sgD s t.B i).length := by rw [sg_len]; omega
        have HCL := Lib.hid (clone_bytes _ _ _ _ w1.drew (SlG.later hrow.bl (Below.refl _ _).drew) hpos (by rw [sg_len]; omega))
        obtain ⟨z, D, hm, hatD, hhas, hrows, hap⟩ := HC.out.out
        have l5 : X + 2 ≠ X + 1 := by omega
        have HM1 := Lib.hid (World.ownsMap.kept hm hg1 (fun e => by have := Option.some.inj e; omega))
        have HST := Lib.hid fun (w3 w4 : World) (g c3 : Nat) (hr3 : RowB w3 (.slice (some ⟨g, 0, none⟩) (sgD s t.B i).length c3) (sgD s t.B i).length (sgD s t.B i)) (hg3 : w1.heap.size ≤ g) (hb3 : Below w1.heap.size w1 w3) (hm3 : MapB w3 (X + 1) (nSD s t.B.length - cnt) D) (hm4 : MapB w4 (X + 1) (nSD s t.B.length - cnt + 1) (D.put (kLD ((t.f + i : Nat) : Int)) (.held (some ⟨g, 0, none⟩, (sgD s t.B i).length, c3)))) (hc4 : Chg (fun k => k = X + 1) w3 w4) =>
          HC.out.step hg1 hrg1 hlt HTM.out hi hlk rfl hr3 hg3 hb3 rfl hatD hhas hrows hap hm3 hm4 hc4
        have HWX := Lib.hid hwx
        have hNle := nS_le (s := s) (n := t.B.length) (by omega)
        have HNN : Hid (nSD s t.B.length - cnt ≤ 1000000) := Lib.hid (by have := HEE.out; omega)
        have HK2 := Lib.hid k2
        have c3w : w1.drew.cell? ⟨X, 3, none⟩ = some (.map (some (X + 1))) := block_cell (j := 3) k2 rfl
        have HLT1 := Lib.hid hlt
        clear hatD hhas hrows hap hm hrow hlt hrg1 hat hkey hlk hwx k1 k2 hv
        go_wp2_with fail
        go_region_law (first
          | (go_simp; go_at_call 70; refine HCL.out.mono ?_; rintro e w3 ⟨g, c3, rfl, hr3, hg3, hb3⟩; have hb3' := below_undrew (q := 1) hb3; have e3 := block_cell (j := 3) (block_later HK2.out hb3') (v := .map (some (X + 1))) rfl; have hm3 := MapB.turn HM1.out (Chg.of_below (S := fun _ => False) hb3') (fun h => h); obtain ⟨w4, hrun4, hm4, hc4⟩ := upd_at hm3 HNN.out HWX.out (some ⟨g, 0, none⟩) (sgD s t.B i).length c3; rw [Int.natCast_add] at hrun4; have hF := Lib.hid (HST.out w3 w4 g c3 hr3 hg3 hb3' hm3 hm4 hc4); clear hr3 hg3 hb3 hb3' hm3 hm4 hc4))
        all_goals
          go_wp2_with fail
          go_roundw
          case rel => exact ⟨_, _, hF⟩
          case measure => rw [hF.out.rg.left_eq, HC.out.rg.left_eq]; exact HLT1.out
end
end Go.Proofs.YtfdgnniicjdjdaaGreatDoor
namespace Go.Proofs.YtfdgnniicjdjdaaGreatDoor
open Go.RowKit Go.ChangeShapes Go.WideShapes
set_option linter.unusedVariables false
set_option maxRecDepth 10000
set_option linter.unusedSimpArgs false
def paint (col : Nat → Nat) (n c : Nat) : Nat → Nat := fun k => if k < n then col k else c
theorem paint_old {col : Nat → Nat} {n c k : Nat} (h : k < n) : paint col n c k = col k := if_pos h
theorem paint_new {col : Nat → Nat} {n c k : Nat} (h : n ≤ k) : paint col n c k = c := if_neg (by omega)
def Ext (w : World) (col col' : Nat → Nat) : Prop := ∀ k, k < w.heap.size → col' k = col k
theorem Ext.refl (w : World) (col : Nat → Nat) : Ext w col col := fun _ _ => rfl
theorem Ext.trans {w w' : World} {a b c : Nat → Nat} (h : Ext w a b) (g : Ext w' b c) (hs : w.heap.size ≤ w'.heap.size) : Ext w a c := fun k hk => (g k (Nat.lt_of_lt_of_le hk hs)).trans (h k hk)
theorem Ext.paint (w : World) (col : Nat → Nat) (c : Nat) : Ext w col (paint col w.heap.size c) := fun _ hk => paint_old hk
theorem bl_col {w : World} {p : Option Addr} {n c x : Nat} {L : List Int} {col col' : Nat → Nat} (h : BL w p n c L) (he : Ext w col col') (hc : 0 < n → ∀ a, p = some a → col a.block = x) : 0 < n → ∀ a, p = some a → col' a.block = x := fun h0 a ha => by
  obtain ⟨b, off, hp, hlt, _⟩ := h.at h0
  rw [hp] at ha
  cases ha
  rw [he b hlt]
  exact hc h0 _ hp
structure Pa (w : World) (col : Nat → Nat) (c Bv T s : Nat) (V : List (List Int)) (a : Int) (z : Nat) (t : TS) : Prop where
  vo : ∃ G, Vo w Bv G s V ∧ col G = c
  cv : col Bv = c
  tp : ∃ mb, Tp w T mb (fun k => col k = c + 1) a z t
theorem Pa.keep {w w' : World} {col : Nat → Nat} {c Bv T s z : Nat} {V : List (List Int)} {a : Int} {t : TS} {S : Nat → Prop} (h : Pa w col c Bv T s V a z t) (hc : Chg S w w') (hs : ∀ k, col k = c ∨ col k = c + 1 → ¬ S k) : Pa w' col c Bv T s V a z t := by
  obtain ⟨⟨G, h1, h2⟩, h3, mb, h4⟩ := h
  exact ⟨⟨G, h1.keep hc (hs _ (.inl h3)) (hs _ (.inl h2)), h2⟩, h3, mb, h4.keep hc fun k hk => hs k (.inr hk)⟩
theorem Pa.later {w w' : World} {col : Nat → Nat} {c Bv T s z : Nat} {V : List (List Int)} {a : Int} {t : TS} (h : Pa w col c Bv T s V a z t) (hb : Below w.heap.size w w') : Pa w' col c Bv T s V a z t := h.keep (Chg.of_below (S := fun _ => False) hb) fun _ _ h => h
theorem Pa.recol {w : World} {col col' : Nat → Nat} {c Bv T s z : Nat} {V : List (List Int)} {a : Int} {t : TS} (h : Pa w col c Bv T s V a z t) (he : Ext w col col') : Pa w col' c Bv T s V a z t := by
  obtain ⟨⟨G, h1, h2⟩, h3, mb, h4⟩ := h
  exact ⟨⟨G, h1, (he G (block_lt h1.row)).trans h2⟩, (he Bv (block_lt h1.blk)).trans h3, mb, h4.mono fun k hk hl => (he k hl).trans hk⟩
theorem Pa.z_in {w : World} {col : Nat → Nat} {c Bv T s z : Nat} {V : List (List Int)} {a : Int} {t : TS} (h : Pa w col c Bv T s V a z t) : 64 ≤ z ∧ z ≤ 4096 := by
  obtain ⟨mb, h4⟩ := h.tp
  exact h4.s_in
def Dw.bytes : Dw → List Int
  | .put _ b => b
  | .grow b => b
  | _ => []
structure Pw where
  x : Dw
  p : Option Addr
  c : Nat
def Dw.np : Dw → Prop
  | .put _ _ => False
  | _ => True
def Pw.val : Pw → Value
  | ⟨.put i b, p, c⟩ => .iface 175 (.agg #[.int .i64 i])
  | ⟨.grow b, p, c⟩ => .iface 130 (.agg #[.slice p b.length c])
  | ⟨.drop x, _, _⟩ => .iface 132 (.agg #[.int .i64 x])
  | ⟨.cut x, _, _⟩ => .iface 175 (.agg #[.int .i64 x])
theorem Pw.val_iface (y : Pw) : ∃ t v, y.val = .iface t v := by
  obtain ⟨x, p, c⟩ := y
  cases x <;> exact ⟨_, _, rfl⟩
def ew (y : Pw) : List Value := [y.val]
theorem ew_len (y : Pw) : (ew y).length = 1 := rfl
theorem ew_one (y : Pw) : ∀ u ∈ ew y, u.oneCell' = true := by
  intro u hu
  simp only [ew, List.mem_cons, List.not_mem_nil, or_false] at hu
  subst hu
  obtain ⟨t, v, h⟩ := y.val_iface
  rw [h]
  rfl
abbrev yd : Pw := ⟨.drop 0, none, 0⟩
structure Pw.ok (w : World) (col : Nat → Nat) (y : Pw) : Prop where
  bl : BL w y.p y.x.bytes.length y.c y.x.bytes
  c0 : 0 < y.x.bytes.length → ∀ a, y.p = some a → col a.block = 0
  np : y.x.np
theorem Pw.ok.keep {w w' : World} {col : Nat → Nat} {y : Pw} {S : Nat → Prop} (h : y.ok w col) (hc : Chg S w w') (hs : ∀ k, col k = 0 → ¬ S k) : y.ok w' col := ⟨BL.keep h.bl hc fun h0 a ha => hs _ (h.c0 h0 a ha), h.c0, h.np⟩
theorem Pw.ok.recol {w : World} {col col' : Nat → Nat} {y : Pw} (h : y.ok w col) (he : Ext w col col') : y.ok w col' := ⟨h.bl, bl_col h.bl he h.c0, h.np⟩
structure Pe (w : World) (col : Nat → Nat) (c : Nat) (pv : Value) (L : List Dw) : Prop where
  row : ∃ PL : List Pw, PL.map (·.x) = L ∧ w.ownsRow 0 134 1 pv PL.length (flatG ew PL) ∧ ∀ y ∈ PL, y.ok w col
  at_ : ∀ k, pv.ownBlock = some k → col k = c
theorem own_keep {w w' : World} {T : TypeId} {v : Value} {n : Nat} {cs : List Value} {S : Nat → Prop} (h : w.ownsRow 0 T 1 v n cs) (hc : Chg S w w') (hs : ∀ k, v.ownBlock = some k → ¬ S k) : w'.ownsRow 0 T 1 v n cs := by
  refine ⟨h.1, ?_⟩
  rcases h.2 with hn | ⟨g, cap, cur, rfl, h1, h2, h3⟩
  · exact .inl hn
  · exact .inr ⟨g, cap, cur, rfl, h1, by rw [hc.block g (block_lt h2) (hs g rfl)]; exact h2, h3⟩
theorem Pe.keep {w w' : World} {col : Nat → Nat} {c : Nat} {pv : Value} {L : List Dw} {S : Nat → Prop} (h : Pe w col c pv L) (hc : Chg S w w') (hs : ∀ k, col k = 0 ∨ col k = c → ¬ S k) : Pe w' col c pv L := by
  obtain ⟨⟨PL, h1, h2, h3⟩, h4⟩ := h
  exact ⟨⟨PL, h1, own_keep h2 hc fun k hk => hs k (.inr (h4 k hk)), fun y hy => (h3 y hy).keep hc fun k hk => hs k (.inl hk)⟩, h4⟩
theorem Pe.later {w w' : World} {col : Nat → Nat} {c : Nat} {pv : Value} {L : List Dw} (h : Pe w col c pv L) (hb : Below w.heap.size w w') : Pe w' col c pv L := h.keep (Chg.of_below (S := fun _ => False) hb) fun _ _ h => h
theorem Pe.recol {w : World} {col col' : Nat → Nat} {c : Nat} {pv : Value} {L : List Dw} (h : Pe w col c pv L) (he : Ext w col col') : Pe w col' c pv L := by
  obtain ⟨⟨PL, h1, h2, h3⟩, h4⟩ := h
  exact ⟨⟨PL, h1, h2, fun y hy => (h3 y hy).recol he⟩, fun k hk => (he k (h2.lt k hk).2).trans (h4 k hk)⟩
theorem Pe.nil (w : World) (col : Nat → Nat) (c : Nat) : Pe w col c (.slice none 0 0) [] := ⟨⟨[], rfl, World.ownsRow_nil _ _ _ _, fun y hy => by cases hy⟩, fun k hk => by cases hk⟩
theorem Pe.sl {w : World} {col : Nat → Nat} {c : Nat} {pv : Value} {L : List Dw} (h : Pe w col c pv L) : ∃ p cp PL, pv = .slice p L.length cp ∧ PL.map (·.x) = L ∧ SlG ew 1 yd w p L.length cp PL ∧ (∀ y ∈ PL, y.ok w col) ∧ (0 < L.length → ∀ a, p = some a → col a.block = c) := by
  obtain ⟨⟨PL, h1, h2, h3⟩, h4⟩ := h
  have hl : PL.length = L.length := by rw [← h1, List.length_map]
  rw [hl] at h2
  obtain ⟨p, cp, rfl, hs, _⟩ := SlG.of_own (d := yd) ew_len (by decide) h2
  refine ⟨p, cp, PL, rfl, h1, hs, h3, fun h0 a ha => ?_⟩
  obtain ⟨b, off, hp, _, _⟩ := hs.cell h0
  rw [hp] at ha
  cases ha
  exact h4 b (by rw [hp]; rfl)
structure Ad where
  Bv : Nat
  T : Nat
  Bv' : Nat
  T' : Nat
  pv : Value
abbrev dcells (M : Nat) (A : Ad) : Array Value := #[.int .i64 (M : Nat), .pointer (some ⟨A.Bv, 0, none⟩), .pointer (some ⟨A.T, 0, none⟩), .pointer (some ⟨A.Bv', 0, none⟩), .pointer (some ⟨A.T', 0, none⟩), A.pv]
structure Dka (w : World) (col : Nat → Nat) (c B : Nat) (A : Ad) (d : DS) : Prop where
  c0 : 1 ≤ c
  blk : w.heap[B]? = some (.cells (dcells d.M A) 114 (0, 0))
  cB : col B = c
  pe : Pe w col (c + 1) A.pv d.L
  seen : Pa w col (c + 2) A.Bv A.T d.s d.sV d.a d.z d.sT
  sure : Pa w col (c + 4) A.Bv' A.T' d.s d.V d.a d.z d.t
  most : d.M ≤ 1048576
def Dk (w : World) (col : Nat → Nat) (c B : Nat) (d : DS) : Prop := ∃ A, Dka w col c B A d
def own (col : Nat → Nat) (c : Nat) (k : Nat) : Prop := c ≤ col k ∧ col k < c + 6
theorem Dka.keep {w w' : World} {col : Nat → Nat} {c B : Nat} {A : Ad} {d : DS} {S : Nat → Prop} (h : Dka w col c B A d) (hc : Chg S w w') (hs : ∀ k, col k = 0 ∨ own col c k → ¬ S k) : Dka w' col c B A d := by
  have hB : own col c B := by have := h.cB; unfold own; omega
  refine ⟨h.c0, (hc.block B (block_lt h.blk) (hs B (.inr hB))).trans h.blk, h.cB, h.pe.keep hc fun k hk => hs k ?_, h.seen.keep hc fun k hk => hs k (.inr (by unfold own; omega)), h.sure.keep hc fun k hk => hs k (.inr (by unfold own; omega)), h.most⟩
  rcases hk with hk | hk
  · exact .inl hk
  · exact .inr (by unfold own; omega)
theorem Dka.later {w w' : World} {col : Nat → Nat} {c B : Nat} {A : Ad} {d : DS} (h : Dka w col c B A d) (hb : Below w.heap.size w w') : Dka w' col c B A d := h.keep (Chg.of_below (S := fun _ => False) hb) fun _ _ h => h
theorem Dka.recol {w : World} {col col' : Nat → Nat} {c B : Nat} {A : Ad} {d : DS} (h : Dka w col c B A d) (he : Ext w col col') : Dka w col' c B A d :=
  ⟨h.c0, h.blk, (he B (block_lt h.blk)).trans h.cB, h.pe.recol he, h.seen.recol he, h.sure.recol he, h.most⟩
theorem Dk.keep {w w' : World} {col : Nat → Nat} {c B : Nat} {d : DS} {S : Nat → Prop} (h : Dk w col c B d) (hc : Chg S w w') (hs : ∀ k, col k = 0 ∨ own col c k → ¬ S k) : Dk w' col c B d := by
  obtain ⟨A, h⟩ := h
  exact ⟨A, h.keep hc hs⟩
theorem Dk.later {w w' : World} {col : Nat → Nat} {c B : Nat} {d : DS} (h : Dk w col c B d) (hb : Below w.heap.size w w') : Dk w' col c B d := h.keep (Chg.of_below (S := fun _ => False) hb) fun _ _ h => h
theorem Dk.recol {w : World} {col col' : Nat → Nat} {c B : Nat} {d : DS} (h : Dk w col c B d) (he : Ext w col col') : Dk w col' c B d := by
  obtain ⟨A, h⟩ := h
  exact ⟨A, h.recol he⟩
theorem Dk.lt {w : World} {col : Nat → Nat} {c B : Nat} {d : DS} (h : Dk w col c B d) : B < w.heap.size := by
  obtain ⟨A, h⟩ := h
  exact block_lt h.blk
theorem Dk.z_in {w : World} {col : Nat → Nat} {c B : Nat} {d : DS} (h : Dk w col c B d) : 64 ≤ d.z ∧ d.z ≤ 4096 := by
  obtain ⟨A, h⟩ := h
  exact h.seen.z_in
theorem Dka.cells {w : World} {col : Nat → Nat} {c B : Nat} {A : Ad} {d : DS} (h : Dka w col c B A d) : w.cell? ⟨B, 0, none⟩ = some (.int .i64 (d.M : Nat)) ∧ w.cell? ⟨B, 1, none⟩ = some (.pointer (some ⟨A.Bv, 0, none⟩)) ∧ w.cell? ⟨B, 2, none⟩ = some (.pointer (some ⟨A.T, 0, none⟩)) ∧
    w.cell? ⟨B, 3, none⟩ = some (.pointer (some ⟨A.Bv', 0, none⟩)) ∧ w.cell? ⟨B, 4, none⟩ = some (.pointer (some ⟨A.T', 0, none⟩)) ∧ w.cell? ⟨B, 5, none⟩ = some A.pv :=
  ⟨block_cell h.blk rfl, block_cell h.blk rfl, block_cell h.blk rfl, block_cell h.blk rfl, block_cell h.blk rfl, block_cell h.blk rfl⟩
def Turned (w : World) (col : Nat → Nat) (c B : Nat) (d : DS) (w' : World) : Prop := ∃ col', Ext w col col' ∧ Dk w' col' c B d ∧ Chg (own col c) w w'
theorem Dk.other {w w' : World} {col col' : Nat → Nat} {c c2 B : Nat} {d : DS} (h : Dk w col c B d) (he : Ext w col col') (hc : Chg (own col c2) w w') (hn : c + 6 ≤ c2 ∨ c2 + 6 ≤ c) (h0 : 1 ≤ c2) : Dk w' col' c B d := by
  refine (h.recol he).keep (hc.mono (T := own col' c2) fun k hk h => ?_) fun k hk h2 => ?_
  · unfold own at *
    rw [he k hk]
    exact h
  · unfold own at *
    omega
end Go.Proofs.YtfdgnniicjdjdaaGreatDoor
namespace Go.Proofs.YtfdgnniicjdjdaaGreatDoor
open Go.RowKit Go.ChangeShapes Go.WideShapes
set_option linter.unusedVariables false
set_option maxRecDepth 10000
set_option linter.unusedSimpArgs false
theorem infoWrite : (Tryz.prog.info? 134).map (fun i => (i.zero, i.size, i.bytes)) = some (some .nilIface, 1, 16) := by kernel_rfl
theorem flatW_len (L : List Pw) : (flatG ew L).length = L.length := by rw [flatG_len (k := 1) ew_len, Nat.mul_one]
theorem flatW_at (L : List Pw) {j : Nat} (hj : j < L.length) : (flatG ew L)[j]? = (ew (L.getD j yd))[0]? := by
  have := flatG_at (k := 1) (d := yd) ew_len L j 0 hj (by omega)
  rwa [Nat.mul_one, Nat.add_zero] at this
theorem SlW_at {w : World} {p : Option Addr} {m c : Nat} {M : List Pw} (h : SlG ew 1 yd w p m c M) {j : Nat} (hj : j < m) : ∃ b off, p = some ⟨b, off, none⟩ ∧ b < w.heap.size ∧ w.cell? ⟨b, off + j, none⟩ = some (M.getD j yd).val := by
  obtain ⟨b, off, hp, hlt, hc⟩ := h.cell (by omega)
  have := hc j hj 0 _ rfl
  rw [Nat.mul_one, Nat.add_zero] at this
  exact ⟨b, off, hp, hlt, this⟩
theorem run_append_w {w : World} {v : Value} {n : Nat} {L : List Pw} (hr : w.ownsRow 0 134 1 v n (flatG ew L)) {p : Option Addr} {m c : Nat} {M : List Pw} (hM : SlG ew 1 yd w p m c M) (hbig : n + m ≤ 1000000) (ty : TypeId) :
    ∃ p' c' w', (Builtin.append_ #[112, 112] ty #[v, .slice p m c]).run Tryz.prog w = .ok (.slice p' (n + m) c') w' ∧ w'.ownsRow 0 134 1 (.slice p' (n + m) c') (n + m) (flatG ew (L ++ M)) ∧ Chg (fun k => v.ownBlock = some k) w w' ∧
      (∀ k, (Value.slice p' (n + m) c').ownBlock = some k → v.ownBlock = some k ∨ w.heap.size ≤ k) := by
  obtain ⟨i, hi, hz0, hz1, hz2⟩ := info_parts infoWrite
  cases p with
  | none =>
    obtain rfl := hM.nil rfl
    obtain rfl : m = 0 := Nat.le_zero.1 hM.cap
    obtain rfl : M = [] := List.eq_nil_of_length_eq_zero hM.len
    have hrun := run_append_owned_none (P := Tryz.prog) (w := w) 0 112 ty 134 i 1 Tryz.underlying112 hi v n (flatG ew L) hr
    rcases hr.2 with ⟨rfl, rfl⟩ | ⟨g, cap, cur, rfl, h1, h2, h3⟩
    · exact ⟨none, 0, w, hrun, by simpa using hr, Chg.refl _ _, fun k hk => .inl hk⟩
    · exact ⟨_, cap, w, hrun, by simpa using hr, Chg.refl _ _, fun k hk => .inl hk⟩
  | some ad =>
    have hnews : ∀ j u, (flatG ew M)[j]? = some u → w.cell? (ad.add j) = some u := by
      intro j u hu
      have hj : j < m := by
        rcases Nat.lt_or_ge j m with h | h
        · exact h
        · rw [List.getElem?_eq_none (by rw [flatW_len, hM.len]; exact h)] at hu; cases hu
      obtain ⟨b, off, hp, _, hc⟩ := SlW_at hM hj
      cases hp
      rw [flatW_at M (by rw [hM.len]; exact hj)] at hu
      rw [Go.WideShapes.add_plain, hc]
      exact hu
    obtain ⟨v', w', hrun, h1, h2, h3, h4⟩ := run_append_own_at (P := Tryz.prog) w 0 112 ty 134 i .nilIface 1 16 Tryz.underlying112 hi hz0 hz1 hz2 rfl (by decide) v n (flatG ew L) hr ad m c (flatG ew M) (by rw [flatW_len, hM.len, Nat.mul_one]) hnews (flatG_all ew_one M) (by unfold maxLen; omega) (by omega) (Nat.zero_le _)
    rw [← flatG_append] at h1
    have hv : ∃ p' c', v' = .slice p' (n + m) c' := by
      rcases h1.2 with ⟨h5, h6⟩ | ⟨g, cap, cur, h5, _⟩
      · exact ⟨none, 0, by rw [h5, h6]⟩
      · exact ⟨_, _, h5⟩
    obtain ⟨p', c', rfl⟩ := hv
    refine ⟨p', c', w', hrun, h1, Chg.mono (Chg.of_grown h2) (fun k _ h => h), fun k hk => ?_⟩
    rcases h4 with h4 | h4
    · exact .inl (h4 ▸ hk)
    · rw [h4] at hk
      cases hk
      exact .inr (Nat.le_refl _)
theorem wpList_append_w {w : World} {ops : Array Oper} {rest : List Oper} {o : Oper} {a : Act} {Q : Exit → Act → World → Prop} (hgd : o.guard = none) (s x : Operand)
    (ho : o.op = .call { callee := .builtin .append, args := #[s, x], argTypes := #[112, 112] })
    (v : Value) (n : Nat) (L : List Pw) (hs : a.eval s = v) (hr : w.ownsRow 0 134 1 v n (flatG ew L)) (p : Option Addr) (m c : Nat) (M : List Pw) (hx : a.eval x = .slice p m c) (hM : SlG ew 1 yd w p m c M) (hbig : n + m ≤ 1000000)
    (h : ∀ p' c' w', w'.ownsRow 0 134 1 (.slice p' (n + m) c') (n + m) (flatG ew (L ++ M)) → Chg (fun k => v.ownBlock = some k) w w' → (∀ k, (Value.slice p' (n + m) c').ownBlock = some k → v.ownBlock = some k ∨ w.heap.size ≤ k) → wpList Tryz.prog ops Q rest (a.put o.dst (.slice p' (n + m) c')) w') :
    wpList Tryz.prog ops Q (o :: rest) a w := by
  refine wpList_plain hgd fun K hK => ?_
  obtain ⟨p', c', w', hrun, h1, h2, h3⟩ := run_append_w hr hM hbig o.type
  unfold Oper.wp execOp
  simp only [ho, resolve, invoke, builtin, Sem.run_bind, Sem.run_pure, Result.andThen_ok, List.map_toArray, List.map_cons, List.map_nil, hs, hx, hrun]
  exact hK _ _ (h p' c' w' h1 h2 h3)
end Go.Proofs.YtfdgnniicjdjdaaGreatDoor
namespace Go.Proofs.YtfdgnniicjdjdaaGreatDoor
open Go.RowKit Go.ChangeShapes Go.WideShapes
set_option linter.unusedVariables false
set_option maxRecDepth 10000
set_option linter.unusedSimpArgs false
theorem disk_kept (x hi : Int) (w : World) (h0 : 0 ≤ hi) : Calls Tryz.prog 54 #[.int .i64 x, .int .i64 hi] w fun e w' => e = .returned (.int .i64 (kp x hi : Nat)) ∧ w' = w := by
  have hk : (if hi < (if x < 0 then 0 else x) then hi else (if x < 0 then 0 else x)) = ((kp x hi : Nat) : Int) := by unfold kp; split <;> split <;> omega
  have hk2 : min (max x 0) hi = ((kp x hi : Nat) : Int) := by unfold kp; omega
  have hk3 : min hi (max x 0) = ((kp x hi : Nat) : Int) := by unfold kp; omega
  generalize kp x hi = y at *
  go_enter Tryz.func54, Tryz.ntmps54
  go_wp2_with fail
  all_goals (go_ret; exact ⟨rfl, rfl⟩)
theorem parts_tape (x y : Option Addr) (w : World) : (Instr.field 109 (.agg #[.pointer x, .pointer y]) 1).run Tryz.prog w = .ok (.pointer y) w := by kernel_rfl
theorem look_nil (w : World) : Calls Tryz.prog 76 #[.pointer none] w fun e w' => e = .returned (.agg #[.pointer none, .pointer none]) ∧ Below w.heap.size w w' := by
  have HA := Lib.hid (alloc_block w (.cells #[.pointer none, .pointer none] 109))
  have HB : Hid (Below w.heap.size w (w.alloc (.cells #[.pointer none, .pointer none] 109))) := Lib.hid ((Below.refl _ _).alloc (Nat.le_refl _) _)
  go_enter Tryz.func76, Tryz.ntmps76
  go_wp2_with fail
  refine bodyPost_ret (v := .agg #[.pointer none, .pointer none]) ?_ rfl ⟨rfl, HB.out⟩
  exact results_cell_row rfl _ _ w.heap.size 109 _ (0, 0) _ rfl HA.out Tryz.underlying109 rfl (by kernel_rfl)
theorem look_any {w : World} {col : Nat → Nat} {c B : Nat} {A : Ad} {d : DS} (h : Dka w col c B A d) : Calls Tryz.prog 76 #[.pointer (some ⟨B, 0, none⟩)] w fun e w' => e = .returned (.agg #[.pointer (some ⟨A.Bv, 0, none⟩), .pointer (some ⟨A.T, 0, none⟩)]) ∧ Below w.heap.size w w' := by
  obtain ⟨_, c1, c2, _, _, _⟩ := h.cells
  have HA := Lib.hid (alloc_block w (.cells #[.pointer (some ⟨A.Bv, 0, none⟩), .pointer (some ⟨A.T, 0, none⟩)] 109))
  have HB : Hid (Below w.heap.size w (w.alloc (.cells #[.pointer (some ⟨A.Bv, 0, none⟩), .pointer (some ⟨A.T, 0, none⟩)] 109))) := Lib.hid ((Below.refl _ _).alloc (Nat.le_refl _) _)
  have hlt := block_lt h.blk
  clear h
  go_enter Tryz.func76, Tryz.ntmps76
  go_wp2_with fail
  refine bodyPost_ret (v := .agg #[.pointer (some ⟨A.Bv, 0, none⟩), .pointer (some ⟨A.T, 0, none⟩)]) ?_ rfl ⟨rfl, HB.out⟩
  exact results_cell_row rfl _ _ w.heap.size 109 _ (0, 0) _ rfl HA.out Tryz.underlying109 rfl (by kernel_rfl)
section
variable {w : World} {col : Nat → Nat} {c B : Nat} {d : DS}
theorem disk_first (h : Dk w col c B d) : Calls Tryz.prog 57 #[.pointer (some ⟨B, 0, none⟩)] w fun e w' => e = .returned (.int .i64 (d.sT.f * d.z : Nat)) ∧ Below w.heap.size w w' := by
  obtain ⟨A, h⟩ := h
  have hl := look_any h
  have HS := Lib.hid h.seen
  obtain ⟨x0, hx0⟩ : ∃ x0, d.sT.f * d.z = x0 := ⟨_, rfl⟩
  rw [hx0]
  have HX := Lib.hid hx0
  clear h hx0
  have hpv := parts_tape
  go_enter Tryz.func57, Tryz.ntmps57
  go_wp2_with fail
  refine hl.mono ?_
  rintro e w1 ⟨rfl, hb⟩
  have HB := Lib.hid hb
  obtain ⟨_, _, mb, ht⟩ := HS.out.later hb
  have hc := tape_first ht
  clear ht
  rw [HX.out] at hc
  clear hl hb
  go_wp2_with fail
  refine hc.mono ?_
  rintro e w2 ⟨rfl, rfl⟩
  go_wp2_with fail
  go_ret
  exact ⟨rfl, HB.out⟩
theorem disk_end (h : Dk w col c B d) : Calls Tryz.prog 39 #[.pointer (some ⟨B, 0, none⟩)] w fun e w' => e = .returned (.int .i64 (d.sT.f * d.z + d.sT.B.length : Nat)) ∧ Below w.heap.size w w' := by
  obtain ⟨A, h⟩ := h
  have hl := look_any h
  have HS := Lib.hid h.seen
  obtain ⟨x0, hx0⟩ : ∃ x0, d.sT.f * d.z + d.sT.B.length = x0 := ⟨_, rfl⟩
  rw [hx0]
  have HX := Lib.hid hx0
  clear h hx0
  have hpv := parts_tape
  go_enter Tryz.func39, Tryz.ntmps39
  go_wp2_with fail
  refine hl.mono ?_
  rintro e w1 ⟨rfl, hb⟩
  have HB := Lib.hid hb
  obtain ⟨_, _, mb, ht⟩ := HS.out.later hb
  have hc := tape_end ht
  clear ht
  rw [HX.out] at hc
  clear hl hb
  go_wp2_with fail
  refine hc.mono ?_
  rintro e w2 ⟨rfl, rfl⟩
  go_wp2_with fail
  go_ret
  exact ⟨rfl, HB.out⟩
end
theorem disk_first0 (w : World) : Calls Tryz.prog 57 #[.pointer none] w fun e w' => e = .returned (.int .i64 0) ∧ Below w.heap.size w w' := by
  have hl := look_nil w
  have HC := Lib.hid fun w => tape_first0 w
  have hpv := parts_tape
  go_enter Tryz.func57, Tryz.ntmps57
  go_wp2_with fail
  refine hl.mono ?_
  rintro e w1 ⟨rfl, hb⟩
  have HB := Lib.hid hb
  have hc := HC.out w1
  clear hl hb
  go_wp2_with fail
  refine hc.mono ?_
  rintro e w2 ⟨rfl, rfl⟩
  go_wp2_with fail
  go_ret
  exact ⟨rfl, HB.out⟩
theorem disk_end0 (w : World) : Calls Tryz.prog 39 #[.pointer none] w fun e w' => e = .returned (.int .i64 0) ∧ Below w.heap.size w w' := by
  have hl := look_nil w
  have HC := Lib.hid fun w => tape_end0 w
  have hpv := parts_tape
  go_enter Tryz.func39, Tryz.ntmps39
  go_wp2_with fail
  refine hl.mono ?_
  rintro e w1 ⟨rfl, hb⟩
  have HB := Lib.hid hb
  have hc := HC.out w1
  clear hl hb
  go_wp2_with fail
  refine hc.mono ?_
  rintro e w2 ⟨rfl, rfl⟩
  go_wp2_with fail
  go_ret
  exact ⟨rfl, HB.out⟩
end Go.Proofs.YtfdgnniicjdjdaaGreatDoor
