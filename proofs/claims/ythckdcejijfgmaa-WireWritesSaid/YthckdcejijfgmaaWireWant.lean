/- A writer, and a row of its own kind beside it. -/
import Derived.Test.YthckdcejijfgmaaWireTold
namespace Go.Proofs.Ythckdcejijfgmaa
open Go.RowKit Go.ChangeShapes Go.WideShapes
set_option linter.unusedVariables false

/-- A writer that was made since W, and a row beside it that holds K. -/
structure WU (W w : World) (B : Nat) (M : Int) (S : St) (K : List Nat) (p : Option Addr) (n c : Nat) : Prop where
  wr : ∃ v, Wr w B v M S ∧ (∀ k, v.ownBlock = some k → W.heap.size ≤ k) ∧ ∀ k, v.ownBlock = some k → (Value.slice p n c).ownBlock ≠ some k
  row : Row w (.slice p n c) n K
  ub : ∀ k, (Value.slice p n c).ownBlock = some k → W.heap.size ≤ k ∧ k ≠ B
  size : W.heap.size ≤ B
  below : Below W.heap.size W w
theorem WU.put {W w : World} {B : Nat} {M : Int} {S T : St} {K : List Nat} {p : Option Addr} {n c f : Nat} {args : Array Value} (h : WU W w B M S K p n c) (hc : ∀ v, Wr w B v M S → Calls Try.prog f args w (Wrot w B v M T)) :
    Calls Try.prog f args w fun e w' => e = .returned (.tuple #[]) ∧ WU W w' B M T K p n c := by
  obtain ⟨v, hw, hv, hs⟩ := h.wr
  refine (hc v hw).mono ?_
  rintro e w' ⟨rfl, ⟨v', hw', hn⟩, hch⟩
  refine ⟨rfl, ⟨v', hw', fun k hk => ?_, fun k hk e => ?_⟩, h.row.chg hch ?_, h.ub, h.size, hch.below h.below h.below.size fun k hk => ?_⟩
  · rcases hn k hk with h' | h'
    · exact hv k h'
    · exact Nat.le_trans h.below.size h'
  · rcases hn k hk with h' | h'
    · exact hs k h' e
    · have := h.row.bound k e; omega
  · intro k hk e
    rcases e with e | e
    · exact (h.ub k hk).2 e
    · exact hs k e hk
  · rcases hk with rfl | e
    · exact h.size
    · exact hv k e
theorem WU.later {W w w' : World} {B : Nat} {M : Int} {S : St} {K : List Nat} {p : Option Addr} {n c : Nat} (h : WU W w B M S K p n c) (hb : Below w.heap.size w w') : WU W w' B M S K p n c := by
  obtain ⟨v, hw, hv, hs⟩ := h.wr
  have hc : Chg (fun _ => False) w w' := Chg.of_below hb
  exact ⟨⟨v, hw.chg hc (fun h => h) (fun _ _ h => h), hv, hs⟩, h.row.chg hc (fun _ _ h => h), h.ub, h.size, h.below.trans (hb.mono h.below.size)⟩
theorem WU.push {W w w' : World} {B : Nat} {M : Int} {S : St} {K K' : List Nat} {p p' : Option Addr} {n c n' c' : Nat} (h : WU W w B M S K p n c) (hr : Row w' (.slice p' n' c') n' K') (hc : Chg (fun k => (Value.slice p n c).ownBlock = some k) w w')
    (hk : ∀ k, (Value.slice p' n' c').ownBlock = some k → (Value.slice p n c).ownBlock = some k ∨ w.heap.size ≤ k) : WU W w' B M S K' p' n' c' := by
  obtain ⟨v, hw, hv, hs⟩ := h.wr
  refine ⟨⟨v, hw.chg hc (fun e => (h.ub B e).2 rfl) (fun k hk e => hs k hk e), hv, fun k hvk e => ?_⟩, hr, fun k e => ?_, h.size, hc.below h.below h.below.size fun k hk => (h.ub k hk).1⟩
  · rcases hk k e with h' | h'
    · exact hs k hvk h'
    · have := hw.row.bound k hvk; omega
  · rcases hk k e with h' | h'
    · exact h.ub k h'
    · have := hw.lt
      exact ⟨Nat.le_trans h.below.size h', by omega⟩
theorem wu_new (W w : World) (B : Nat) (M : Int) (h : WrOk W w B M (0, [])) : WU W w B M (0, []) [] none 0 0 := by
  obtain ⟨v, hw, hB, hv, hb⟩ := h
  exact ⟨⟨v, hw, hv, fun k _ e => by cases e⟩, Row.nil w, (fun k e => by cases e), hB, hb⟩
theorem wu_len (W w : World) (B : Nat) (M : Int) (S : St) (K : List Nat) (p : Option Addr) (n c : Nat) (h : WU W w B M S K p n c) (s : Nat) (hs : S.2.length = s) : Calls Try.prog 13 #[.pointer (some ⟨B, 0, none⟩)] w fun e w' => e = .returned (.int .i64 (s : Nat)) ∧ w = w' := by
  subst hs
  obtain ⟨v, hw, _⟩ := h.wr
  exact len_any B v M S w hw
/-- What Done leaves beside the row. -/
def WUDone (W : World) (B : Nat) (M : Int) (S : St) (K : List Nat) (p : Option Addr) (n c : Nat) (e : Ending) (w' : World) : Prop := WU W w' B M S K p n c ∧ if S.1 = 0 then ∃ q m d, e = .returned (.tuple #[.slice q m d, .int .i64 0]) ∧ Sl w' q m d S.2 else e = .returned (.tuple #[.slice none 0 0, .int .i64 S.1])
theorem wu_done (W w : World) (B : Nat) (M : Int) (S : St) (K : List Nat) (p : Option Addr) (n c : Nat) (h : WU W w B M S K p n c) (hl : S.2.length ≤ 100000) : Calls Try.prog 14 #[.pointer (some ⟨B, 0, none⟩)] w (WUDone W B M S K p n c) := by
  obtain ⟨v, hw, _⟩ := h.wr
  refine (done_any B v M S w hw hl).mono ?_
  rintro e w' ⟨g1, g2⟩
  refine ⟨h.later g1, ?_⟩
  split at g2
  · rename_i h0
    rw [if_pos h0]
    obtain ⟨v', rfl, hrow, _⟩ := g2
    obtain ⟨q, d, rfl, _, hs, _⟩ := hrow.sl
    exact ⟨q, _, d, rfl, hs⟩
  · rename_i h0
    rw [if_neg h0]
    exact g2
theorem bad_wrong2 (e : Int) (S : St) (h : ¬ S.1 = 0) : bad e S = S := if_neg h
theorem told_two (it : Item) : (told it).2 = 0 ∨ ((told it).2 = 1 ∧ (told it).1 = []) := by
  unfold told
  split
  · split
    · exact .inl rfl
    · exact .inr ⟨rfl, rfl⟩
  · split
    · exact .inl rfl
    · split
      · exact .inl rfl
      · split
        · exact .inl rfl
        · exact .inl rfl
theorem told_len (it : Item) (h : it.L.length ≤ 300) : (told it).1.length ≤ 302 := by
  unfold told
  split
  · split
    · rename_i h1
      show (le it.x it.n.toNat).length ≤ 302
      rw [le_len]; omega
    · exact Nat.zero_le _
  · split
    · show (le it.x 8).length ≤ 302
      rw [le_len]; omega
    · split
      · show 1 ≤ 302
        omega
      · split
        · show (le it.L.length 2 ++ it.L).length ≤ 302
          rw [List.length_append, le_len]; omega
        · show it.L.length ≤ 302
          omega
end Go.Proofs.Ythckdcejijfgmaa
