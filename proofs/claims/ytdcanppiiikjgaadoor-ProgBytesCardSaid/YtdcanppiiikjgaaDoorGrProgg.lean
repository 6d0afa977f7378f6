/- The document's reader of a program: Num, Int, Count. -/
/- Lists of lines, as the document reads them. -/
import Derived.Test.YtdcanppiiikjgaaDoorPgRow
import Derived.Test.YtdcanppiiikjgaaDoorGrWireb
import Derived.Laws.Tables
import Derived.Test.YtdcanppiiikjgaaDoorGrProgf
namespace Go.Proofs.YtdcanppiiikjgaaDoor
open Go.RowKit Go.ChangeShapes Go.WideShapes
set_option linter.unusedVariables false
set_option maxRecDepth 10000

/-- The reader in block B: what is left lies in p; what was wrong first. -/
structure Rr (w : World) (B : Nat) (p0 : Option Addr) (S : St) : Prop where
  box : ∃ p n c, w.heap[B]? = some (.cells #[.slice p n c, .int .i64 S.1] 105 (0, 0)) ∧ (S.1 = 0 → Part w p0 p n c S.2)
  apart : S.1 = 0 → S.2 ≠ [] → ∀ a, p0 = some a → a.block < B
theorem Part.keep {w w' : World} {p0 q : Option Addr} {m d : Nat} {M : List Nat} {B : Nat} (h : Part w p0 q m d M) (ha : ∀ a, p0 = some a → a.block ≠ B) (hc : Chg (fun k => k = B) w w') : Part w' p0 q m d M := by
  refine ⟨h.1.keep fun a he hlt => hc.block a.block hlt ?_, h.2.1, h.2.2⟩
  obtain ⟨a', hp, hb⟩ := h.2.1 a he
  rw [hb]
  exact ha a' hp
theorem Rr.later {w w' : World} {B : Nat} {p0 : Option Addr} {S : St} (h : Rr w B p0 S) (hb : Below w.heap.size w w') : Rr w' B p0 S := by
  obtain ⟨p, n, c, h1, h2⟩ := h.box
  exact ⟨⟨p, n, c, block_later h1 hb, fun h0 => ⟨(h2 h0).1.later hb, (h2 h0).2⟩⟩, h.apart⟩
theorem pgnum_bad {S : St} (h : S.1 ≠ 0) (size : Int) (hs : 1 ≤ size ∧ size ≤ 8) : numR S size = (S, 0) := by
  unfold numR takeR
  rw [if_pos hs, if_neg h]; rfl
theorem frozen_zero {w : World} {X : Nat} {c : Array Value} {t : TypeId} (h : w.heap[X]? = some (.cells c t (0, 0))) (j : Nat) : w.frozen? ⟨X, j, none⟩ = false := by
  simp [World.frozen?, h]
set_option maxHeartbeats 2000000 in
theorem pgnum_any {w : World} {B : Nat} {p0 : Option Addr} {S : St} (h : Rr w B p0 S) (size : Int) (hs : 1 ≤ size ∧ size ≤ 8) :
    Calls Tryd.prog 64 #[.pointer (some ⟨B, 0, none⟩), .int .i64 size] w fun e w' => e = .returned (.int .u64 (((numR S size).2 : Nat) : Int)) ∧ Rr w' B p0 (numR S size).1 ∧ Chg (fun k => k = B) w w' := by
  obtain ⟨p, n, c, hb, hp⟩ := h.box
  have e0 : w.cell? ⟨B, 0, none⟩ = some (.slice p n c) := block_cell hb rfl
  have e1 : w.cell? ⟨B, 1, none⟩ = some (.int .i64 S.1) := block_cell hb rfl
  by_cases h0 : S.1 = 0
  case neg =>
    have hd : (S.1 != 0) = true := by simpa using h0
    have hn := pgnum_bad h0 size hs
    have HR := Lib.hid h
    rw [hn]
    clear hn h0 hp hb h
    generalize S.1 = s1 at *
    go_enter Tryd.func64, Tryd.ntmps64
    go_wp2_with fail
    go_ret
    exact ⟨rfl, HR.out, Chg.refl _ _⟩
  obtain ⟨s, L⟩ := S
  obtain rfl : s = 0 := h0
  have hpt := hp rfl
  have hgn := getnum_any p n c L size w hpt.1 hpt.2.2
  have HP := Lib.hid hpt
  have HA := Lib.hid (h.apart rfl)
  have hap : (numR (0, L) size).1.1 = 0 → L ≠ [] := by
    rintro hz rfl
    unfold numR takeR at hz
    rw [if_pos hs, if_pos rfl, if_pos (by simp; omega)] at hz
    have h6 : (6 : Int) = 0 := hz
    exact absurd h6 (by decide)
  have HAP := Lib.hid hap
  clear hap
  have HBX := Lib.hid hb
  dsimp only at e1
  clear hp hpt h hb
  go_enter Tryd.func64, Tryd.ntmps64
  go_wp2_with fail
  refine hgn.mono ?_
  rintro e w2 ⟨q, m, d, kk, rfl, hq, rfl⟩
  have HQ := Lib.hid (show Part (w.drewN kk) p0 q m d (restOf (numR (0, L) size).1) from ⟨hq.1.later (below_drewN (Below.refl _ _) kk), hq.2.1.trans HP.out.2.1, hq.2.2⟩)
  have hb2 := block_later HBX.out (below_drewN (Below.refl w.heap.size w) kk)
  have e0' : (w.drewN kk).cell? ⟨B, 0, none⟩ = some (.slice p n c) := block_cell hb2 rfl
  have e1' : (w.drewN kk).cell? ⟨B, 1, none⟩ = some (.int .i64 0) := block_cell hb2 rfl
  have f0 := frozen_zero hb2 0
  have f1 := frozen_zero hb2 1
  have hb3 := block_put 0 (.slice q m d) hb2
  have f3 := frozen_zero hb3 1
  have e3 : ((w.drewN kk).setCell ⟨B, 0, none⟩ (.slice q m d)).cell? ⟨B, 1, none⟩ = some (.int .i64 0) := block_cell hb3 (by simp)
  have hb4 := block_put 1 (.int .i64 (numR (0, L) size).1.1) hb3
  have hc4 : Chg (fun k => k = B) w (((w.drewN kk).setCell ⟨B, 0, none⟩ (.slice q m d)).setCell ⟨B, 1, none⟩ (.int .i64 (numR (0, L) size).1.1)) :=
    (((Chg.refl (fun k => k = B) w).drewN kk).setCell ⟨B, 0, none⟩ _ fun _ => rfl).setCell ⟨B, 1, none⟩ _ fun _ => rfl
  have HBOX : Hid ((((w.drewN kk).setCell ⟨B, 0, none⟩ (.slice q m d)).setCell ⟨B, 1, none⟩ (.int .i64 (numR (0, L) size).1.1)).heap[B]? = some (.cells #[.slice q m d, .int .i64 (numR (0, L) size).1.1] 105 (0, 0))) := Lib.hid (by simpa using hb4)
  have HC4 := Lib.hid hc4
  have HQ4 : Hid ((numR (0, L) size).1.1 = 0 → Part (((w.drewN kk).setCell ⟨B, 0, none⟩ (.slice q m d)).setCell ⟨B, 1, none⟩ (.int .i64 (numR (0, L) size).1.1)) p0 q m d (restOf (numR (0, L) size).1)) := Lib.hid fun hz => (HQ.out.keep (fun a ha => Nat.ne_of_lt (HA.out (HAP.out hz) a ha)) (((Chg.refl (fun k => k = B) (w.drewN kk)).setCell ⟨B, 0, none⟩ _ fun _ => rfl).setCell ⟨B, 1, none⟩ _ fun _ => rfl))
  clear hgn hq hb2 hb3 hb4 hc4 HQ
  have hrest : ∀ S : St, S.1 = 0 → restOf S = S.2 := fun S h => if_pos h
  generalize hRR : numR (0, L) size = R at *
  obtain ⟨⟨s2, L2⟩, x⟩ := R
  have HRR := Lib.hid hRR
  dsimp only at e1' HBOX HC4 HQ4
  have HREST := Lib.hid hrest
  clear hrest hRR
  go_wp2_with fail
  go_ret
  rw [HRR.out]
  refine ⟨rfl, ⟨⟨q, m, d, HBOX.out, fun hz => ?_⟩, fun hz _ => HA.out (HAP.out hz)⟩, HC4.out⟩
  have := HQ4.out hz
  rw [HREST.out (s2, L2) hz] at this
  exact this
theorem pgint_any {w : World} {B : Nat} {p0 : Option Addr} {S : St} (h : Rr w B p0 S) :
    Calls Tryd.prog 67 #[.pointer (some ⟨B, 0, none⟩)] w fun e w' => e = .returned (.int .i64 (wrap64 (((numR S 8).2 : Nat) : Int))) ∧ Rr w' B p0 (numR S 8).1 ∧ Chg (fun k => k = B) w w' := by
  have hn := pgnum_any h 8 (by omega)
  clear h
  go_enter Tryd.func67, Tryd.ntmps67
  go_wp2_with fail
  refine hn.mono ?_
  rintro e w2 ⟨rfl, hr, hc⟩
  have HR := Lib.hid hr
  have HC := Lib.hid hc
  clear hn hr hc
  go_wp2_with fail
  go_ret
  exact ⟨rfl, HR.out, HC.out⟩
/-- How many there are, at most most. -/
def countR (S : St) (most : Nat) : St × Nat := if (numR S 1).1.1 = 0 then (if most < (numR S 1).2 then ((8, (numR S 1).1.2), 0) else ((numR S 1).1, (numR S 1).2)) else ((numR S 1).1, 0)
theorem byte_lt {w : World} {B : Nat} {p0 : Option Addr} {S : St} (h : Rr w B p0 S) : (numR S 1).2 < 256 := by
  by_cases h0 : S.1 = 0
  · obtain ⟨p, n, c, _, hp⟩ := h.box
    have hlt := (hp h0).1.lt
    unfold numR takeR
    rw [if_pos (by omega), if_pos h0]
    split
    · show un [] < 256
      simp [un]
    · show un (S.2.take 1) < 256
      match S.2, hlt with
      | [], _ => simp [un]
      | b :: l, hlt =>
        have := hlt b (List.mem_cons.2 (.inl rfl))
        simpa [un] using this
  · rw [pgnum_bad h0 1 (by omega)]
    show 0 < 256
    omega
set_option maxHeartbeats 2000000 in
theorem pgcount_any {w : World} {B : Nat} {p0 : Option Addr} {S : St} (h : Rr w B p0 S) (most : Nat) (hm : most ≤ 1000) :
    Calls Tryd.prog 66 #[.pointer (some ⟨B, 0, none⟩), .int .i64 (most : Nat)] w fun e w' => e = .returned (.int .i64 (((countR S most).2 : Nat) : Int)) ∧ Rr w' B p0 (countR S most).1 ∧ Chg (fun k => k = B) w w' := by
  have hn := pgnum_any h 1 (by omega)
  have hx := byte_lt h
  clear h
  have hco : countR S most = if (numR S 1).1.1 = 0 then (if most < (numR S 1).2 then ((8, (numR S 1).1.2), 0) else ((numR S 1).1, (numR S 1).2)) else ((numR S 1).1, 0) := rfl
  rw [hco]
  clear hco
  generalize numR S 1 = R at *
  obtain ⟨⟨s2, L2⟩, x⟩ := R
  dsimp only at hn hx ⊢
  have hwx : wrap64 (x : Int) = x := IntWalk.wrap64_in _ (by omega)
  by_cases h0 : s2 = 0
  case neg =>
    rw [if_neg h0]
    have hd : (s2 == 0) = false := by simpa using h0
    have hd2 : (s2 != 0) = true := by simpa using h0
    clear h0
    go_enter Tryd.func66, Tryd.ntmps66
    go_wp2_with fail
    refine hn.mono ?_
    rintro e w2 ⟨rfl, hr, hc⟩
    obtain ⟨p, n, c, hb, _⟩ := hr.box
    have e1 : w2.cell? ⟨B, 1, none⟩ = some (.int .i64 s2) := block_cell hb rfl
    have HR := Lib.hid hr
    have HC := Lib.hid hc
    clear hn hr hc hb
    go_wp2_with fail
    go_ret
    exact ⟨rfl, HR.out, HC.out⟩
  subst h0
  rw [if_pos rfl]
  by_cases hmx : most < x
  case neg =>
    rw [if_neg hmx]
    have hd : decide ((most : Int) < (x : Int)) = false := decide_eq_false (by omega)
    have hdn : decide (most < x) = false := decide_eq_false hmx
    clear hmx
    go_enter Tryd.func66, Tryd.ntmps66
    go_wp2_with fail
    refine hn.mono ?_
    rintro e w2 ⟨rfl, hr, hc⟩
    obtain ⟨p, n, c, hb, _⟩ := hr.box
    have e1 : w2.cell? ⟨B, 1, none⟩ = some (.int .i64 0) := block_cell hb rfl
    have HR := Lib.hid hr
    have HC := Lib.hid hc
    clear hn hr hc hb
    go_wp2_with fail
    go_ret
    exact ⟨rfl, HR.out, HC.out⟩
  rw [if_pos hmx]
  have hd : decide ((most : Int) < (x : Int)) = true := decide_eq_true (by omega)
  have hdn : decide (most < x) = true := decide_eq_true hmx
  clear hmx
  go_enter Tryd.func66, Tryd.ntmps66
  go_wp2_with fail
  refine hn.mono ?_
  rintro e w2 ⟨rfl, hr, hc⟩
  obtain ⟨p, n, c, hb, _⟩ := hr.box
  have e1 : w2.cell? ⟨B, 1, none⟩ = some (.int .i64 0) := block_cell hb rfl
  have f1 := frozen_zero hb 1
  have hb3 := block_put 1 (.int .i64 8) hb
  have hc3 : Chg (fun k => k = B) w (w2.setCell ⟨B, 1, none⟩ (.int .i64 8)) := hc.setCell ⟨B, 1, none⟩ _ fun _ => rfl
  have HBOX : Hid ((w2.setCell ⟨B, 1, none⟩ (.int .i64 8)).heap[B]? = some (.cells #[.slice p n c, .int .i64 8] 105 (0, 0))) := Lib.hid (by simpa using hb3)
  have HA := Lib.hid hr.apart
  have HC := Lib.hid hc3
  have e3 : (w2.setCell ⟨B, 1, none⟩ (.int .i64 8)).cell? ⟨B, 1, none⟩ = some (.int .i64 8) := block_cell HBOX.out rfl
  clear hn hr hc hb hb3 hc3
  go_wp2_with fail
  go_ret
  exact ⟨rfl, ⟨⟨p, n, c, HBOX.out, fun hz => by cases hz⟩, fun hz => by cases hz⟩, HC.out⟩
end Go.Proofs.YtdcanppiiikjgaaDoor
namespace Go.Proofs.YtdcanppiiikjgaaDoor
open Go.RowKit Go.ChangeShapes Go.WideShapes
set_option linter.unusedVariables false
set_option linter.unusedSimpArgs false
set_option maxRecDepth 10000

/-- The reader stands where only what lies behind it changes. -/
theorem Rr.chg {w w' : World} {B : Nat} {p0 : Option Addr} {S : St} {T : Nat → Prop} (h : Rr w B p0 S) (hc : Chg T w w') (hT : ∀ k, T k → B < k) : Rr w' B p0 S := by
  obtain ⟨p, n, c, h1, h2⟩ := h.box
  refine ⟨⟨p, n, c, (hc.block B (block_lt h1) fun ht => absurd (hT B ht) (Nat.lt_irrefl _)).trans h1, fun h0 => ?_⟩, h.apart⟩
  obtain ⟨hs, hf, hm⟩ := h2 h0
  refine ⟨?_, hf, hm⟩
  by_cases hne : S.2 = []
  · refine ⟨hs.len, hs.cap, hs.nil, hs.lt, fun hn => ?_⟩
    have := hs.len
    rw [hne] at this
    simp at this
    omega
  · exact hs.keep fun a ha hlt => hc.block a.block hlt fun ht => by
      obtain ⟨a', hp, hb⟩ := hf a ha
      have h3 := h.apart h0 hne a' hp
      have h4 := hT _ ht
      omega
theorem Rr.err {w : World} {B : Nat} {p0 : Option Addr} {S : St} (h : Rr w B p0 S) : w.cell? ⟨B, 1, none⟩ = some (.int .i64 S.1) := by
  obtain ⟨p, n, c, h1, _⟩ := h.box
  exact block_cell h1 rfl
theorem countR_le (S : St) (most : Nat) : (countR S most).2 ≤ most := by
  unfold countR
  split
  · split
    · exact Nat.zero_le _
    · rename_i h; exact Nat.le_of_not_lt h
  · exact Nat.zero_le _
theorem num8_lt {w : World} {B : Nat} {p0 : Option Addr} {S : St} (h : Rr w B p0 S) : (numR S 8).2 < 18446744073709551616 := by
  by_cases h0 : S.1 = 0
  · obtain ⟨p, n, c, _, hp⟩ := h.box
    exact numR_fit (hp h0).1.lt (n := 8) (by omega) (by omega)
  · rw [pgnum_bad h0 8 (by omega)]
    show 0 < 18446744073709551616
    omega
set_option maxHeartbeats 8000000 in
theorem rdlines_any {w : World} {B : Nat} {p0 : Option Addr} {S : St} (h : Rr w B p0 S) : Calls Tryd.prog 65 #[.pointer (some ⟨B, 0, none⟩)] w fun e w' => ∃ p n c L, e = .returned (.slice p n c) ∧ LL w' p n c L ∧ (∀ a, p = some a → w.heap.size ≤ a.block) ∧ n ≤ 3 ∧ Rr w' B p0 (rlistR lineR 3 S).1 ∧ Chg (fun k => k = B) w w' ∧ ((rlistR lineR 3 S).1.1 = 0 → L = (rlistR lineR 3 S).2) := by
  have hn := pgcount_any h 3 (by omega)
  rw [show (((3 : Nat) : Int)) = 3 from rfl] at hn
  have hle := countR_le S 3
  have hco : rlistR lineR 3 S = manyR lineR (countR S 3).2 (countR S 3).1 := rfl
  rw [hco]
  clear hco
  have hBw : B < w.heap.size := by obtain ⟨_, _, _, h1, _⟩ := h.box; exact block_lt h1
  generalize countR S 3 = R at *
  obtain ⟨S1, n⟩ := R
  dsimp only at hn hle ⊢
  clear h
  go_enter Tryd.func65, Tryd.ntmps65
  go_wp2_with fail
  refine hn.mono ?_
  rintro e w1 ⟨rfl, hz, hc⟩
  have HZ := Lib.hid hz
  have HC := Lib.hid hc
  clear hn hz hc
  go_wp2_with fail
  go_loopw [3, 5] (fun v i wr => ∃ j : Nat, j ≤ n ∧ i = .int .i64 j ∧ Hid (Rr wr B p0 (manyR lineR j S1).1) ∧ Hid (wr.ownsRow w.heap.size 81 2 v j (flatG lc (manyR lineR j S1).2)) ∧ Hid (Chg (fun k => k = B) w wr)) (fun _ i _ => n - (Go.RowKit.intOf i).toNat)
  case atStart => exact ⟨0, Nat.zero_le _, rfl, HZ, Lib.hid (World.ownsRow_nil _ _ _ _), HC⟩
  case round =>
    obtain ⟨j, hj, rfl, HZj, HOj, HCj⟩ := hrel
    have x1 := HZj.out.err
    have hml := manyR_len (f := lineR) S1 j
    by_cases hltj : j < n
    case neg =>
      obtain rfl : n = j := by omega
      obtain ⟨pv, cv, hv, hs, hp⟩ := SlG.of_own (d := l0) lc_len (by decide) HOj.out
      subst hv
      have HS := Lib.hid hs
      have HP := Lib.hid hp
      clear hs hp x1
      go_wp2_with fail
      go_ret
      exact ⟨pv, _, cv, _, rfl, HS.out, HP.out, hle, HZj.out, HCj.out, fun _ => rfl⟩
    have hltj' : (j : Int) < n := by omega
    by_cases he : (manyR lineR j S1).1.1 = 0
    case neg =>
      have de : ((manyR lineR j S1).1.1 == 0) = false := by simpa using he
      obtain ⟨kk, rfl⟩ : ∃ kk, n = j + kk := ⟨n - j, by omega⟩
      have hstop := manyR_stop (f := lineR) (fun S h => lineR_bad h) S1 he kk
      obtain ⟨pv, cv, hv, hs, hp⟩ := SlG.of_own (d := l0) lc_len (by decide) HOj.out
      subst hv
      have HS := Lib.hid hs
      have HP := Lib.hid hp
      have HST := Lib.hid hstop
      have HE := Lib.hid he
      clear hs hp hstop he
      go_wp2_with fail
      go_ret
      exact ⟨pv, _, cv, _, rfl, HS.out, HP.out, by omega, by rw [HST.out]; exact HZj.out, HCj.out, fun h0 => absurd (by rw [← HST.out]; exact h0) HE.out⟩
    have de : ((manyR lineR j S1).1.1 == 0) = true := by simpa using he
    obtain ⟨X, hX⟩ : ∃ n, wr.heap.size = n := ⟨_, rfl⟩
    obtain ⟨w2, hw2, hx2, hb2⟩ : ∃ w2, (wr.alloc (.cells #[.int .u8 0, .int .i64 0] 81)).setRow X #[.int .u8 0, .int .i64 0] = w2 ∧ w2.heap[X]? = some (.cells #[.int .u8 0, .int .i64 0] 81 (0, 0)) ∧ Below wr.heap.size wr w2 := ⟨_, rfl, by rw [← hX]; exact setRow_heap _ _ _ _ _ _ (alloc_block wr _), below_setRow ((Below.refl _ _).alloc (Nat.le_refl _) _) (by omega) _⟩
    have hx1 := alloc_block wr (.cells #[.int .u8 0, .int .i64 0] 81)
    rw [hX] at hx1
    have HX1 := Lib.hid hx1
    have HX2 := Lib.hid hx2
    have HW2 := Lib.hid hw2
    have HXE := Lib.hid hX
    have HBX : Hid (B < X) := Lib.hid (by have := HCj.out.size; omega)
    have HNX : Hid (w.heap.size ≤ X) := Lib.hid (by have := HCj.out.size; omega)
    have HZ2 := Lib.hid (HZj.out.later hb2)
    have HO2 := Lib.hid (row_keep (own_zero HOj.out) (Chg.of_below (S := fun _ => False) hb2) fun _ _ h => h)
    have HOL := Lib.hid HOj.out
    have HC2 := Lib.hid (HCj.out.trans (Chg.of_below (S := fun k => k = B) hb2) fun _ _ h => h)
    have hn0 := pgnum_any HZ2.out 1 (by omega)
    have hstep : manyR lineR (j + 1) S1 = ((lineR (manyR lineR j S1).1).1, (manyR lineR j S1).2 ++ [(lineR (manyR lineR j S1).1).2]) := rfl
    have HST := Lib.hid hstep
    have HE := Lib.hid he
    have hr0 := byte_lt HZ2.out
    clear hx1 hx2 hw2 hX hb2 hstep he
    generalize manyR lineR j S1 = Mj at *
    obtain ⟨Sj, Lj⟩ := Mj
    obtain ⟨R0, hR0⟩ : ∃ R, numR Sj 1 = R := ⟨_, rfl⟩
    dsimp only at hn0 HST hml HZj HOj hr0 de x1
    rw [hR0] at hn0 hr0
    have HR0 := Lib.hid hR0
    have hx0 : IntKind.u8.wrap ((R0.2 : Nat) : Int) = (R0.2 : Nat) := by simp [IntKind.wrap, IntKind.bits, IntKind.signed]; omega
    clear hR0
    go_wp2_with ((try rw [HXE.out]); (with_reducible refine wpList_store_ln (B := X) (x0 := 0) (q := 0) HX1.out ?_ ?_ ?_); rfl; rfl; rw [HW2.out])
    refine hn0.mono ?_
    rintro e w3 ⟨rfl, hz, hc⟩
    have HZ3 := Lib.hid hz
    have hx3 := (hc.block X (block_lt HX2.out) (by have := HBX.out; omega)).trans HX2.out
    have HX3 := Lib.hid hx3
    have HO3 := Lib.hid (row_keep HO2.out hc fun b hb hk => by have := (HOL.out.lt b hb).1; omega)
    have HC3 := Lib.hid (HC2.out.trans hc fun _ _ h => h)
    have HXL : Hid (∀ b, u3.ownBlock = some b → w.heap.size ≤ b ∧ b < X) := Lib.hid fun b hb => by have h1 := HOL.out.lt b hb; have := HXE.out; omega
    clear hz hc hn0 hx3
    have c0 := block_cell (j := 0) HX3.out rfl
    have f0 := block_free 0 HX3.out
    go_upto_region 8 with (fail)
    have hx4 : (w3.setCell ⟨X, 0, none⟩ (.int .u8 ((R0.2 : Nat) : Int))).heap[X]? = some (.cells #[.int .u8 ((R0.2 : Nat) : Int), .int .i64 0] 81 (0, 0)) := block_put 0 _ HX3.out
    have hs4 : Chg (fun k => k = X) w3 (w3.setCell ⟨X, 0, none⟩ (.int .u8 ((R0.2 : Nat) : Int))) := (Chg.refl _ _).setCell ⟨X, 0, none⟩ _ fun _ => rfl
    have HX4 := Lib.hid hx4
    have HZ4 := Lib.hid (HZ3.out.chg hs4 fun k hk => by have := HBX.out; omega)
    have HO4 := Lib.hid (row_keep HO3.out hs4 fun b hb hk => by have := (HXL.out b hb).2; omega)
    have HC4 := Lib.hid (HC3.out.trans hs4 fun k hk1 hk2 => by have := HNX.out; omega)
    clear hx4 hs4 c0 f0 HX3 HO3 HC3 HZ3
    generalize w3.setCell ⟨X, 0, none⟩ (.int .u8 ((R0.2 : Nat) : Int)) = w4 at *
    have hn1 := pgint_any HZ4.out
    have hr1 := num8_lt HZ4.out
    obtain ⟨R1, hR1⟩ : ∃ R, numR R0.1 8 = R := ⟨_, rfl⟩
    rw [hR1] at hn1 hr1
    rw [sgn_wrap _ hr1] at hn1
    have HR1 := Lib.hid hR1
    clear hR1 hr1
    go_wp2_with fail
    refine hn1.mono ?_
    rintro e w5 ⟨rfl, hz, hc⟩
    have HZ5 := Lib.hid hz
    have HX5 := Lib.hid ((hc.block X (block_lt HX4.out) (by have := HBX.out; omega)).trans HX4.out)
    have HO5 := Lib.hid (row_keep HO4.out hc fun b hb hk => by have := (HXL.out b hb).1; omega)
    have HC5 := Lib.hid (HC4.out.trans hc fun _ _ h => h)
    clear hz hc hn1 HX4 HO4 HC4 HZ4
    have c0 := block_cell (j := 1) HX5.out rfl
    have f0 := block_free 1 HX5.out
    go_upto_region 9 with (fail)
    have hx6 : (w5.setCell ⟨X, 1, none⟩ (.int .i64 (sgn R1.2))).heap[X]? = some (.cells #[.int .u8 ((R0.2 : Nat) : Int), .int .i64 (sgn R1.2)] 81 (0, 0)) := block_put 1 _ HX5.out
    have hs6 : Chg (fun k => k = X) w5 (w5.setCell ⟨X, 1, none⟩ (.int .i64 (sgn R1.2))) := (Chg.refl _ _).setCell ⟨X, 1, none⟩ _ fun _ => rfl
    have HX6 := Lib.hid hx6
    have HZ6 := Lib.hid (HZ5.out.chg hs6 fun k hk => by have := HBX.out; omega)
    have HO6 := Lib.hid (row_keep HO5.out hs6 fun b hb hk => by have := (HXL.out b hb).2; omega)
    have HC6 := Lib.hid (HC5.out.trans hs6 fun k hk1 hk2 => by have := HNX.out; omega)
    clear hx6 hs6 c0 f0 HX5 HO5 HC5 HZ5
    generalize w5.setCell ⟨X, 1, none⟩ (.int .i64 (sgn R1.2)) = w6 at *
    have c0 := block_cell (j := 0) HX6.out rfl
    have c1 := block_cell (j := 1) HX6.out rfl
    obtain ⟨x, hx⟩ : ∃ x : Ln, (((R0.2 : Nat) : Int), sgn R1.2) = x := ⟨_, rfl⟩
    have HLR : Hid (lineR Sj = (R1.1, x)) := Lib.hid (by unfold lineR; rw [HR0.out, HR1.out, hx])
    have e0 : ((R0.2 : Nat) : Int) = x.1 := by rw [← hx]
    have e1 : sgn R1.2 = x.2 := by rw [← hx]
    rw [e0] at c0
    rw [e1] at c1
    clear hx e0 e1
    have hba : Below w6.heap.size w6 (w6.alloc (.cells #[.int .u8 x.1, .int .i64 x.2] 81)) := (Below.refl _ _).alloc (Nat.le_refl _) _
    have HZ7 := Lib.hid (HZ6.out.later hba)
    have HO7 := Lib.hid (HO6.out.alloc (.cells #[.int .u8 x.1, .int .i64 x.2] 81))
    have HC7 := Lib.hid (HC6.out.trans (Chg.of_below (S := fun k => k = B) hba) fun _ _ h => h)
    clear hba
    go_wp2_with (at_builtin; refine wpList_append_vals (k := 2) (by decide) Tryd.underlying25 info_ln rfl (by omega) rfl _ _ rfl u3 j (flatG lc Lj) rfl HO7.out (some ⟨w6.heap.size, 0, none⟩) 1 1 (flatG lc [x]) rfl rfl (fun h => by cases h) (line_news w6 x) (flatG_all lc_one _) (by omega) ?_; intro p8 c8 w8 g1 g2 g3)
    have hbase : ∀ b, (Value.slice p8 (j + 1) c8).ownBlock = some b → w.heap.size ≤ b := fun b hb => by
      rcases g3 b hb with hk | hk
      · exact (HXL.out b hk).1
      · have := HC7.out.size; omega
    rw [← flatG_append] at g1
    have HO8 := Lib.hid (own_since g1 hbase)
    have HZ8 := Lib.hid (HZ7.out.chg g2 fun b hb => by have := (HXL.out b hb).1; omega)
    have HC8 := Lib.hid (HC7.out.trans g2 fun b hb1 hb2 => by have := (HXL.out b hb2).1; omega)
    clear g1 g2 g3 hbase c0 c1
    go_roundw
    case rel => exact ⟨j + 1, by omega, by go_num, Lib.hid (by rw [HST.out, HLR.out]; exact HZ8.out), Lib.hid (by rw [HST.out, HLR.out]; exact HO8.out), HC8⟩
    case measure => simp [Go.RowKit.intOf]; omega
end Go.Proofs.YtdcanppiiikjgaaDoor
