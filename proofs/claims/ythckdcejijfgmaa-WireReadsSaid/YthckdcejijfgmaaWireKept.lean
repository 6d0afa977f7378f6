/- Rows that are stored into; what stays where a reader is called; what an item's reading leaves. -/
import Derived.Test.YthckdcejijfgmaaWireActs
namespace Go.Proofs.Ythckdcejijfgmaa
open Go.RowKit Go.ChangeShapes Go.WideShapes
set_option linter.unusedVariables false

theorem row_form {w : World} {v : Value} {n : Nat} {L : List Nat} (h : Row w v n L) (h0 : 0 < n) : ∃ g c, v = .slice (some ⟨g, 0, none⟩) n c := by
  rcases h.own.2 with ⟨_, hn⟩ | ⟨g, cap, cur, rfl, _⟩
  · omega
  · exact ⟨g, cap, rfl⟩
theorem vL_set (L : List Nat) (j y : Nat) : (vL L).set j (.int .u8 ((y : Nat) : Int)) = vL (L.set j y) := by
  unfold vL
  rw [List.map_set]
theorem Row.load {w : World} {g n c : Nat} {L : List Nat} (h : Row w (.slice (some ⟨g, 0, none⟩) n c) n L) (j : Nat) (hj : j < n) : w.cell? ⟨g, j, none⟩ = some (.int .u8 ((L.getD j 0 : Nat) : Int)) ∧ w.frozen? ⟨g, j, none⟩ = false ∧ L.getD j 0 < 256 := by
  refine ⟨?_, h.own.frozenAt j, getD_lt h.lt j⟩
  rw [h.own.cellAt j (by omega), vL_at _ _ (by rw [h.len]; exact hj)]
theorem Row.store {w : World} {g n c : Nat} {L : List Nat} (h : Row w (.slice (some ⟨g, 0, none⟩) n c) n L) (j : Nat) (y : Nat) (hy : y < 256) (z : Int) (hz : z = ((y : Nat) : Int)) : Row (w.setCell ⟨g, j, none⟩ (.int .u8 z)) (.slice (some ⟨g, 0, none⟩) n c) n (L.set j y) := by
  subst hz
  refine ⟨by rw [List.length_set]; exact h.len, fun x hx => ?_, ?_⟩
  · rcases List.mem_or_eq_of_mem_set hx with hx | rfl
    · exact h.lt x hx
    · exact hy
  · rw [← vL_set]
    exact (h.own.stored j _).1
theorem Part.chg {w w' : World} {p q : Option Addr} {m d : Nat} {M : List Nat} {T : Nat → Prop} (h : Part w p q m d M) (hc : Chg T w w') (hp : ∀ a, p = some a → ¬ T a.block) : Part w' p q m d M :=
  ⟨h.1.keep fun a ha hlt => hc.block _ hlt (h.2.1.ne hp a ha), h.2⟩
theorem Sl.chg {w w' : World} {p : Option Addr} {n c : Nat} {L : List Nat} {T : Nat → Prop} (h : Sl w p n c L) (hc : Chg T w w') (hp : ∀ a, p = some a → ¬ T a.block) : Sl w' p n c L := h.keep fun a ha hlt => hc.block _ hlt (hp a ha)
theorem act_rest (it : Item) (S : St) : ∃ k, (act it S).1.2 = S.2.drop k := by
  unfold act
  split
  · exact numR_rest S _
  · split
    · exact numR_rest S _
    · split
      · exact boolR_rest S
      · exact bytesR_rest S _
theorem act_len (it : Item) (S : St) : (act it S).1.2.length ≤ S.2.length := by
  obtain ⟨k, hk⟩ := act_rest it S
  rw [hk, List.length_drop]; omega
theorem takeR_wrong (S : St) (n : Nat) (h : ¬ S.1 = 0) : takeR S n = (S, []) := by rw [takeR, if_neg h]
theorem bad_wrong (e : Int) (S : St) (h : ¬ S.1 = 0) : bad e S = S := if_neg h
theorem numR_wrong (S : St) (size : Int) (h : ¬ S.1 = 0) : numR S size = (S, 0) := by
  unfold numR
  split
  · rw [takeR_wrong S _ h]; rfl
  · rw [bad_wrong 1 S h]
theorem boolR_wrong (S : St) (h : ¬ S.1 = 0) : boolR S = (S, false) := by
  unfold boolR
  rw [numR_wrong S 1 h]
  rfl
theorem bytesR_wrong (S : St) (most : Int) (h : ¬ S.1 = 0) : bytesR S most = (S, []) := by
  unfold bytesR
  rw [numR_wrong S 2 h]
  have : (if most < ((0 : Nat) : Int) then bad 7 S else S) = S := by
    split
    · exact bad_wrong 7 S h
    · rfl
  show takeR (if most < ((0 : Nat) : Int) then bad 7 S else S) 0 = _
  rw [this, takeR_wrong S 0 h]
/-- Once something is wrong, all answers are 0 and none. -/
theorem act_wrong (it : Item) (S : St) (h : ¬ S.1 = 0) : act it S = (S, 0, []) := by
  unfold act
  rw [numR_wrong S _ h, numR_wrong S _ h, boolR_wrong S h, bytesR_wrong S _ h]
  split
  · rfl
  · split
    · rfl
    · split
      · rfl
      · rfl
/-- A reader of its own, and a part of a row beside it that reads as what the reader has left. -/
structure Reads (W w : World) (B : Nat) (pb : Option Addr) (S T : St) (q : Option Addr) (m d : Nat) : Prop where
  rd : ∃ p c, Rd w B p c S
  part : Part w pb q m d (restOf T)
  below : Below W.heap.size W w
  size : W.heap.size ≤ B
  ne : ∀ a, pb = some a → a.block ≠ B
  len : S.2.length ≤ 400
theorem Reads.read {W w w' : World} {B : Nat} {pb p q : Option Addr} {S T U : St} {m d : Nat} (h : Reads W w B pb S T q m d) (hw : Went w B p U w') (hl : U.2.length ≤ 400) : Reads W w' B pb U T q m d := by
  obtain ⟨p', c', hr, _⟩ := hw.rd
  exact ⟨⟨p', c', hr⟩, h.part.chg hw.chg (fun a ha => h.ne a ha), hw.chg.below h.below h.below.size (fun k hk => by rw [hk]; exact h.size), h.size, h.ne, hl⟩
theorem Reads.got {W w w' : World} {B : Nat} {pb q q' : Option Addr} {S T : St} {m d m' d' : Nat} (h : Reads W w B pb S T q m d) (hb : Below w.heap.size w w') (hp : Part w' q q' m' d' (restOf S)) : Reads W w' B pb S S q' m' d' := by
  obtain ⟨p, c, hr⟩ := h.rd
  refine ⟨⟨p, c, hr.chg (Chg.of_below (S := fun _ => False) hb) (fun h => h) fun _ _ h => h⟩, ⟨hp.1, hp.2.1.trans h.part.2.1, hp.2.2⟩, h.below.trans (hb.mono h.below.size), h.size, h.ne, h.len⟩
theorem Reads.same {W w : World} {B : Nat} {pb q : Option Addr} {S : St} {m d : Nat} (h : Reads W w B pb S S q m d) : (restOf S).length = m := h.part.1.len
theorem reads_err (W w : World) (B : Nat) (pb q : Option Addr) (S T : St) (m d : Nat) (h : Reads W w B pb S T q m d) : Calls Try.prog 18 #[.pointer (some ⟨B, 0, none⟩)] w fun e w' => e = .returned (.int .i64 S.1) ∧ w = w' := by
  obtain ⟨p, c, hr⟩ := h.rd
  exact err_any B S.1 w hr.c0
theorem reads_left (W w : World) (B : Nat) (pb q : Option Addr) (S : St) (m d : Nat) (h : Reads W w B pb S S q m d) : Calls Try.prog 19 #[.pointer (some ⟨B, 0, none⟩)] w fun e w' => e = .returned (.int .i64 (m : Nat)) ∧ w = w' := by
  obtain ⟨p, c, hr⟩ := h.rd
  have := left_any B c p S w hr
  rw [← restOf_len, h.same] at this
  exact this
theorem reads_end (W w : World) (B : Nat) (pb q : Option Addr) (S : St) (m d : Nat) (h : Reads W w B pb S S q m d) : Calls Try.prog 20 #[.pointer (some ⟨B, 0, none⟩)] w fun e w' => e = .returned (.int .i64 (if S.1 = 0 ∧ 0 < m then 8 else S.1)) ∧ w = w' := by
  obtain ⟨p, c, hr⟩ := h.rd
  have := end_any B c p S w hr (by have := h.len; omega)
  have e : endR S = if S.1 = 0 ∧ 0 < m then 8 else S.1 := by
    have hm := h.same
    unfold endR
    by_cases h0 : S.1 = 0
    · rw [restOf, if_pos h0] at hm
      rw [hm]
    · rw [if_neg fun hh => h0 hh.1, if_neg fun hh => h0 hh.1]
  rw [e] at this
  exact this
theorem reads_end_as (W w : World) (B : Nat) (pb q : Option Addr) (S : St) (m d : Nat) (h : Reads W w B pb S S q m d) (x : Int) (hx : (if S.1 = 0 ∧ 0 < m then 8 else S.1) = x) : Calls Try.prog 20 #[.pointer (some ⟨B, 0, none⟩)] w fun e w' => e = .returned (.int .i64 x) ∧ w = w' := by
  subst hx
  exact reads_end W w B pb q S m d h
end Go.Proofs.Ythckdcejijfgmaa
