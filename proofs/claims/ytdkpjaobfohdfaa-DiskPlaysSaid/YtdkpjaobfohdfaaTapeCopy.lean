/- Copy: what a round does. -/
import Derived.Test.YtdkpjaobfohdfaaTapeBytes
import Derived.Deep.RegionLaw
namespace Go.Proofs.Ytdkpjaobfohdfaa
open Go.RowKit Go.ChangeShapes Go.WideShapes Go.Maps
set_option linter.unusedVariables false
set_option maxRecDepth 10000
set_option linter.unusedSimpArgs false

/-- Bytes held against nil. -/
theorem sl_nil_in (d : Nat) (p : Option Addr) (n c : Nat) (w : World) : (Op.equalIn (d + 1) 31 (.slice p n c) (.slice none 0 0)).run Try.prog w = .ok p.isNone w := by
  cases p <;> simp [Op.equalIn, run_underlying Try.underlying31]
theorem sl_nil (p : Option Addr) (n c : Nat) (w : World) : (binOp .eql 31 (.slice p n c) (.slice none 0 0)).run Try.prog w = .ok (.bool p.isNone) w := by
  simp only [binOp]
  simp [show Op.equal 31 (.slice p n c) (.slice none 0 0) = Op.equalIn (9999 + 1) 31 (.slice p n c) (.slice none 0 0) from rfl, sl_nil_in 9999 p n c w]
theorem clone_bytes (p : Option Addr) (n c : Nat) (L : List Int) (w : World) (hL : BL w p n c L) (h0 : 0 < n) (hn : n ≤ 1000000) :
    Calls Try.prog 39 #[.slice p n c] w fun e w' => ∃ g c', e = .returned (.slice (some ⟨g, 0, none⟩) n c') ∧ RowB w' (.slice (some ⟨g, 0, none⟩) n c') n L ∧ w.heap.size ≤ g ∧ Below w.heap.size w w' := by
  have HL := Lib.hid hL
  obtain ⟨b, off, rfl, _, _⟩ := hL.at h0
  have hb1 : Below w.heap.size w (w.alloc (.cells #[] 5)) := (Below.refl _ _).alloc (Nat.le_refl _) _
  have HB1 := Lib.hid hb1
  have HR1 : Hid (RowB (w.alloc (.cells #[] 5)) (.slice (some ⟨w.heap.size, 0, none⟩) 0 0) 0 []) := Lib.hid (RowB.fresh (alloc_block w _) rfl (Nat.zero_le _))
  have HL1 := Lib.hid (SlG.later hL hb1)
  have hs1 : (w.alloc (.cells #[] 5)).heap.size = w.heap.size + 1 := by simp
  have hq := fun w => sl_nil (some ⟨b, off, none⟩) n c w
  clear hL hb1
  go_enter Try.func39, Try.ntmps39
  go_wp2_with (first | (at_builtin; refine wpList_append_rb rfl _ _ rfl _ _ _ rfl HR1.out _ n c L rfl HL1.out (by omega) ?_; intro p' c' w3 hr3 hc3 hl3 hn3) | fail)
  rw [Nat.zero_add] at hr3 hl3
  go_ret
  obtain ⟨p2, c2, he, _, _, hg⟩ := hr3.sl
  cases he
  obtain ⟨g, rfl⟩ := hg h0
  refine ⟨g, c', rfl, hr3, ?_, ?_⟩
  · rcases hl3 g rfl with h | h
    · cases h
      exact Nat.le_refl _
    · omega
  · exact hc3.below HB1.out HB1.out.size fun k hk => by cases hk; exact Nat.le_refl _
/-- The copy under way: what is no longer to come is there. -/
structure Cp (w wr : World) (Q : Nat → Prop) (b r b2 T2 : Nat) (z0 : Nat → Nat × Nat) (D0 : DataW Sv) (a : Int) (s : Nat) (t : TS) (left : Lit → Bool) (cnt : Nat) : Prop where
  rg : wr.ranges Try.prog 2 heldElem b r (nS s t.B.length) D0 left cnt
  seg0 : Seg wr Q z0 t.f s t.B
  lt0 : ∀ i, i * s < t.B.length → (z0 (t.f + i)).1 < w.heap.size
  blk : wr.heap[T2]? = some (.cells #[.int .i64 a, .int .i64 (t.f * s : Nat), .int .i64 (t.f * s + t.B.length : Nat), .map (some b2)] 89 (0, 0))
  below : Below w.heap.size w wr
  lo : b < w.heap.size ∧ w.heap.size ≤ r ∧ w.heap.size ≤ b2 ∧ w.heap.size ≤ T2 ∧ r ≠ b2 ∧ r ≠ T2 ∧ b2 ≠ T2
  cntle : cnt ≤ nS s t.B.length
  out : ∃ z D, MapB wr b2 (nS s t.B.length - cnt) D ∧ (∀ x zd, D.atKey (kL x) zd = match (if left (kL x) = true then none else So z t.f s t.B x) with | some v => .held v | none => zd) ∧
    (∀ kl, Maps.has D kl = (Maps.has D0 kl && !left kl)) ∧ (∀ i, i * s < t.B.length → left (kL ((t.f + i : Nat) : Int)) = false → w.heap.size ≤ (z (t.f + i)).1 ∧ RowB wr (.slice (some ⟨(z (t.f + i)).1, 0, none⟩) (sg s t.B i).length (z (t.f + i)).2) (sg s t.B i).length (sg s t.B i)) ∧
    ∀ i j, i * s < t.B.length → j * s < t.B.length → i ≠ j → left (kL ((t.f + i : Nat) : Int)) = false → left (kL ((t.f + j : Nat) : Int)) = false → (z (t.f + i)).1 ≠ (z (t.f + j)).1
/-- What comes is a segment. -/
theorem cp_came {D0 : DataW Sv} {z0 : Nat → Nat × Nat} {f s m : Nat} {B : List Int} (hT : Tm D0 (So z0 f s B) m) {x : Int} {c : Sv} (hat : ∀ zd, D0.atKey (kL x) zd = .held c) : ∃ i, i * s < B.length ∧ x = ((f + i : Nat) : Int) ∧ c = (some ⟨(z0 (f + i)).1, 0, none⟩, (sg s B i).length, (z0 (f + i)).2) := by
  have h1 := hT.at_ x .nil
  rw [hat] at h1
  rcases low_or_at f x with h | ⟨i, rfl⟩
  · rw [So_low _ _ _ _ h] at h1
    cases h1
  · rw [So_at] at h1
    by_cases hi : i * s < B.length
    · rw [if_pos hi] at h1
      cases h1
      exact ⟨i, hi, rfl, rfl⟩
    · rw [if_neg hi] at h1
      cases h1
theorem Cp.keep {w wr w1 : World} {Q : Nat → Prop} {b r b2 T2 : Nat} {z0 : Nat → Nat × Nat} {D0 : DataW Sv} {a : Int} {s : Nat} {t : TS} {left left1 : Lit → Bool} {cnt cnt1 : Nat} (h : Cp w wr Q b r b2 T2 z0 D0 a s t left cnt) (hg : wr.grownBy w1 (some r)) :
    Seg w1 Q z0 t.f s t.B ∧ w1.heap[T2]? = some (.cells #[.int .i64 a, .int .i64 (t.f * s : Nat), .int .i64 (t.f * s + t.B.length : Nat), .map (some b2)] 89 (0, 0)) ∧ Below w.heap.size w w1 := by
  obtain ⟨l1, l2, l3, l4, l5, l6, l7⟩ := h.lo
  refine ⟨h.seg0.keep (Chg.of_grown hg) fun i hi e => ?_, (hg.block T2 (block_lt h.blk) (fun e => l6 (by cases e; rfl))).trans h.blk, h.below.grown hg h.below.size fun k hk => by cases hk; exact l2⟩
  have := h.lt0 i hi
  cases e
  omega
theorem Cp.step {w wr w1 w3 w4 : World} {Q : Nat → Prop} {b r b2 T2 : Nat} {z0 : Nat → Nat × Nat} {D0 : DataW Sv} {a : Int} {s : Nat} {t : TS} {left : Lit → Bool} {cnt cnt1 i : Nat} (h : Cp w wr Q b r b2 T2 z0 D0 a s t left cnt) (hg : wr.grownBy w1 (some r))
    (hrg : w1.ranges Try.prog 2 heldElem b r (nS s t.B.length) D0 (fun y => left y && !y.sameKey (kL ((t.f + i : Nat) : Int))) cnt1) (hlt : cnt1 < cnt) (hT0 : Tm D0 (So z0 t.f s t.B) (nS s t.B.length)) (hi : i * s < t.B.length) (hlx : left (kL ((t.f + i : Nat) : Int)) = true)
    {g c n : Nat} (hn : n = (sg s t.B i).length) (hrow : RowB w3 (.slice (some ⟨g, 0, none⟩) n c) n (sg s t.B i)) (hgl : w1.heap.size ≤ g) (hb3 : Below w1.heap.size w1 w3) {k : Nat} (hk : k = nS s t.B.length - cnt + 1) {z : Nat → Nat × Nat} {D : DataW Sv}
    (hat : ∀ x zd, D.atKey (kL x) zd = match (if left (kL x) = true then none else So z t.f s t.B x) with | some v => .held v | none => zd) (hhas : ∀ kl, Maps.has D kl = (Maps.has D0 kl && !left kl))
    (hrows : ∀ i, i * s < t.B.length → left (kL ((t.f + i : Nat) : Int)) = false → w.heap.size ≤ (z (t.f + i)).1 ∧ RowB wr (.slice (some ⟨(z (t.f + i)).1, 0, none⟩) (sg s t.B i).length (z (t.f + i)).2) (sg s t.B i).length (sg s t.B i))
    (hap : ∀ i j, i * s < t.B.length → j * s < t.B.length → i ≠ j → left (kL ((t.f + i : Nat) : Int)) = false → left (kL ((t.f + j : Nat) : Int)) = false → (z (t.f + i)).1 ≠ (z (t.f + j)).1)
    (hm : MapB w3 b2 (nS s t.B.length - cnt) D) (hm4 : MapB w4 b2 k (D.put (kL ((t.f + i : Nat) : Int)) (.held (some ⟨g, 0, none⟩, n, c)))) (hc4 : Chg (fun k => k = b2) w3 w4) :
    Cp w w4 Q b r b2 T2 z0 D0 a s t (fun y => left y && !y.sameKey (kL ((t.f + i : Nat) : Int))) cnt1 := by
  obtain ⟨l1, l2, l3, l4, l5, l6, l7⟩ := h.lo
  obtain ⟨k1, k2, k3⟩ := h.keep (left1 := left) (cnt1 := cnt) hg
  have hsame : ∀ j : Nat, (kL ((t.f + j : Nat) : Int)).sameKey (kL ((t.f + i : Nat) : Int)) = decide (j = i) := by
    intro j
    by_cases e : j = i
    · subst e
      rw [decide_eq_true rfl]
      exact WideAt.sameKey_self (kL_is _)
    · rw [decide_eq_false e]
      exact sameKey_ne fun e' => e (by have := kL_inj e'; omega)
  have hc3 : Chg (fun _ => False) w1 w3 := Chg.of_below hb3
  have hb2lt := hm.lt
  have hrg3 := World.ranges.kept (row := none) hrg (show w1.grownBy w3 none from ⟨hb3.os, hb3.tape, hb3.output, hb3.size, fun k hk _ => hb3.block k hk⟩) (by simp) (by simp)
  have hrg4 := World.ranges.kept (row := some b2) hrg3 (show w3.grownBy w4 (some b2) from ⟨hc4.os, hc4.tape, hc4.output, hc4.size, fun k hk hne => hc4.block k hk fun e => hne (by rw [e])⟩) (fun e => by cases e; omega) (fun e => by cases e; exact l5 rfl)
  have hk2 := block_later k2 hb3
  have hgne : g ≠ b2 := by
    rcases hrow.own.2 with ⟨h3, _⟩ | ⟨g3, c3, cur3, h3, _, h4, _⟩
    · cases h3
    · cases h3
      exact hm.ne h4
  have hg1 := hg.size
  refine ⟨hrg4, (k1.keep hc3 fun _ _ h => h).keep hc4 fun j hj e => ?_, h.lt0, (hc4.block T2 (block_lt hk2) (fun e => l7 e.symm)).trans hk2, hc4.below (k3.trans (hb3.mono k3.size)) (Nat.le_trans k3.size hb3.size) (fun k hk => by rw [hk]; exact l3), h.lo, by have := h.cntle; omega, ?_⟩
  · have := h.lt0 j hj
    omega
  refine ⟨fun y => if y = t.f + i then (g, c) else z y, _, hm4.mono (by have := h.cntle; omega), fun x zd => ?_, fun kl => ?_, fun j hj hl => ?_, fun j l hj hl hne h1 h2 => ?_⟩
  · by_cases e : x = ((t.f + i : Nat) : Int)
    · subst e
      rw [atKey_put_same hm.isMap (kL_is _)]
      have : (left (kL ((t.f + i : Nat) : Int)) && !(kL ((t.f + i : Nat) : Int)).sameKey (kL ((t.f + i : Nat) : Int))) = false := by rw [hsame]; simp
      rw [this, if_neg (by simp), So_at, if_pos hi, if_pos rfl, hn]
    · rw [atKey_put_other (fun e' => e (kL_inj e')), hat]
      have hk : (kL x).sameKey (kL ((t.f + i : Nat) : Int)) = false := sameKey_ne fun e' => e (kL_inj e')
      rw [hk]
      simp only [Bool.not_false, Bool.and_true]
      have hSo : So (fun y => if y = t.f + i then (g, c) else z y) t.f s t.B x = So z t.f s t.B x := by
        rcases low_or_at t.f x with h' | ⟨j, rfl⟩
        · rw [So_low _ _ _ _ h', So_low _ _ _ _ h']
        · rw [So_at, So_at]
          rw [if_neg (show ¬ t.f + j = t.f + i by omega)]
      rw [hSo]
  · by_cases e : kl = kL ((t.f + i : Nat) : Int)
    · subst e
      rw [has_put_same hm.isMap (kL_is _), hT0.has, So_at, if_pos hi, hsame]
      simp
    · rw [has_put_other e, hhas, sameKey_ne e]
      simp
  · dsimp only
    by_cases e : j = i
    · subst e
      rw [if_pos rfl]
      refine ⟨?_, hn ▸ hrow.keep hc4 fun k hk => by cases hk; exact hgne⟩
      have := h.below.size
      show w.heap.size ≤ g
      omega
    · rw [if_neg (show ¬ t.f + j = t.f + i by omega)]
      rw [hsame, decide_eq_false e] at hl
      simp only [Bool.not_false, Bool.and_true] at hl
      obtain ⟨r1, r2⟩ := hrows j hj hl
      refine ⟨r1, ((r2.keep (Chg.of_grown hg) fun k hk hk2 => ?_).keep hc3 fun _ _ h => h).keep hc4 fun k hk e2 => ?_⟩
      · cases hk
        cases hk2
        obtain ⟨es, clock, since, seen, c0, _, _, _, _, hr, _⟩ := h.rg
        rcases r2.own.2 with ⟨h3, _⟩ | ⟨g3, c3, cur3, h3, _, h4, _⟩
        · cases h3
        · cases h3
          rw [hr] at h4
          cases h4
      · cases hk
        have r3 := (r2.keep (Chg.of_grown hg) (fun k hk hk2 => by
          cases hk
          cases hk2
          obtain ⟨es, clock, since, seen, c0, _, _, _, _, hr, _⟩ := h.rg
          rcases r2.own.2 with ⟨h3, _⟩ | ⟨g3, c3, cur3, h3, _, h4, _⟩
          · cases h3
          · cases h3
            rw [hr] at h4
            cases h4)).keep hc3 fun _ _ h => h
        rcases r3.own.2 with ⟨h3, _⟩ | ⟨g3, c3, cur3, h3, _, h4, _⟩
        · cases h3
        · cases h3
          exact hm.ne h4 e2
  · have key : ∀ j, j * s < t.B.length → j ≠ i → left (kL ((t.f + j : Nat) : Int)) = false → (z (t.f + j)).1 ≠ g := by
      intro j hj e hl e2
      have : (z (t.f + j)).1 < wr.heap.size := (hrows j hj hl).2.bound _ rfl
      omega
    dsimp only
    rw [hsame] at h1 h2
    by_cases e : j = i
    · rw [if_pos (by omega), if_neg (show ¬ t.f + l = t.f + i by omega)]
      rw [decide_eq_false (show ¬ l = i by omega)] at h2
      simp only [Bool.not_false, Bool.and_true] at h2
      exact fun h => key l hl (by omega) h2 h.symm
    · rw [if_neg (show ¬ t.f + j = t.f + i by omega)]
      rw [decide_eq_false e] at h1
      simp only [Bool.not_false, Bool.and_true] at h1
      by_cases e2 : l = i
      · rw [if_pos (by omega)]
        exact key j hj e h1
      · rw [if_neg (show ¬ t.f + l = t.f + i by omega)]
        rw [decide_eq_false e2] at h2
        simp only [Bool.not_false, Bool.and_true] at h2
        exact hap j l hj hl hne h1 h2
/-- Nothing is left: the copy has the same. -/
theorem Cp.done {w wr : World} {Q : Nat → Prop} {b r b2 T2 : Nat} {z0 : Nat → Nat × Nat} {D0 : DataW Sv} {a : Int} {s : Nat} {t : TS} {left : Lit → Bool} {cnt : Nat} (h : Cp w wr Q b r b2 T2 z0 D0 a s t left cnt) (hT0 : Tm D0 (So z0 t.f s t.B) (nS s t.B.length)) (hs : s = cl a 64 4096) (hl : ∀ kl, left kl = false) : Tp wr T2 (some b2) (fun k => w.heap.size ≤ k) a s t := by
  obtain ⟨z, D, hm, hat, hhas, hrows, hap⟩ := h.out
  have hsz : Maps.size D = nS s t.B.length := by
    rw [size_same hm h.rg.owns (fun kl => by rw [hhas, hl]; simp), hT0.size]
  refine ⟨hs, h.blk, fun e => (by cases e), fun b' e => ?_, h.lo.2.2.2.1⟩
  cases e
  refine ⟨h.lo.2.2.1, z, D, hsz ▸ hm.tight, ⟨hm.tidy mapLaw, fun x zd => ?_, hsz⟩, ⟨fun i hi => hrows i hi (hl _), fun i j hi hj hne => hap i j hi hj hne (hl _) (hl _)⟩⟩
  rw [hat, hl, if_neg (by simp)]
  cases So z t.f s t.B x <;> rfl
end Go.Proofs.Ytdkpjaobfohdfaa
