/- A writer, a reader that the call has made: in one word each; bytes as a string; the chapter's example. -/
import Derived.Test.YtppmokkbepihhaaDoorWireRest
import Derived.Laws.BytesArg
import Derived.Lib.SlBytesConst
namespace Go.Proofs.YtppmokkbepihhaaDoor
open Go.RowKit Go.ChangeShapes Go.WideShapes
set_option linter.unusedVariables false
set_option maxRecDepth 10000

/-- Bytes as a string. -/
def strOf (L : List Nat) : ByteArray := ⟨(L.map UInt8.ofNat).toArray⟩
theorem conv_sl {w : World} {p : Option Addr} {n c : Nat} {L : List Nat} (h : Sl w p n c L) : (convert 25 9 (.slice p n c)).run Tryd.prog w = .ok (.string (strOf L)) w := by
  cases p with
  | none =>
    obtain rfl := h.nil rfl
    obtain rfl : n = 0 := Nat.le_zero.1 h.cap
    obtain rfl : L = [] := List.eq_nil_of_length_eq_zero h.len
    exact run_convert_bytes_nil w _ _ Tryd.underlying25 Tryd.underlying5 0 0 _ Tryd.underlying9
  | some a =>
    have hl : (loadCells a n).run Tryd.prog w = .ok ((L.map Int.ofNat).map (Value.int .u8)).toArray w := by
      have := run_loadCells_list (P := Tryd.prog) w a ((L.map Int.ofNat).map (Value.int .u8)) (fun j v hj => by
        have hjl : j < n := by
          rcases Nat.lt_or_ge j n with h' | h'
          · exact h'
          · rw [List.getElem?_eq_none (by simp [h.len]; exact h')] at hj; cases hj
        obtain ⟨b, off, hp, hc⟩ := h.cell (by omega)
        cases hp
        rw [Go.WideShapes.add_plain, hc j hjl, ← hj]
        have : j < L.length := by rw [h.len]; exact hjl
        simp [List.getD, List.getElem?_eq_getElem this])
      simpa [h.len] using this
    rw [run_convert_bytes_string w _ _ _ _ n c Tryd.underlying25 Tryd.underlying5 Tryd.underlying9, run_bytesToString w _ n c _ hl, foldl_push_bytes]
    simp [strOf, ByteArray.empty, ByteArray.emptyWithCapacity, List.map_map]
    rfl

/-- A writer that was made since W. -/
def WrOk (W w : World) (B : Nat) (most : Int) (S : St) : Prop := ∃ v, Wr w B v most S ∧ W.heap.size ≤ B ∧ (∀ k, v.ownBlock = some k → W.heap.size ≤ k) ∧ Below W.heap.size W w
theorem WrOk.below {W w : World} {B : Nat} {most : Int} {S : St} (h : WrOk W w B most S) : Below W.heap.size W w := by
  obtain ⟨_, _, _, _, h⟩ := h
  exact h
/-- What a call on such a writer leaves. -/
def WrotOk (W : World) (B : Nat) (most : Int) (S : St) (e : Ending) (w' : World) : Prop := e = .returned (.tuple #[]) ∧ WrOk W w' B most S
theorem WrOk.step {W w : World} {B : Nat} {most : Int} {S T : St} {f : Nat} {args : Array Value} (h : WrOk W w B most S) (hc : ∀ v, Wr w B v most S → Calls Tryd.prog f args w (Wrot w B v most T)) : Calls Tryd.prog f args w (WrotOk W B most T) := by
  obtain ⟨v, hw, hB, hv, hb⟩ := h
  refine (hc v hw).mono ?_
  rintro e w' ⟨rfl, ⟨v', hw', hn⟩, hch⟩
  refine ⟨rfl, v', hw', hB, fun k hk => ?_, hch.below hb hb.size fun k hk => ?_⟩
  · rcases hn k hk with h | h
    · exact hv k h
    · exact Nat.le_trans hb.size h
  · rcases hk with rfl | hk
    · exact hB
    · exact hv k hk
theorem WrOk.later {W w w' : World} {B : Nat} {most : Int} {S : St} (h : WrOk W w B most S) (hc : Chg (fun _ => False) w w') : WrOk W w' B most S := by
  obtain ⟨v, hw, hB, hv, hb⟩ := h
  exact ⟨v, hw.chg hc (fun h => h) (fun _ _ h => h), hB, hv, hc.below hb hb.size fun k hk => hk.elim⟩
/-- Below 0 counts as 0. -/
def lim (m : Int) : Int := if m < 0 then 0 else m
theorem lim_0 (m : Int) : 0 ≤ lim m := by unfold lim; split <;> omega
theorem lim_9 (m : Int) (h : m ≤ 9223372036854775807) : lim m ≤ 9223372036854775807 := by unfold lim; split <;> omega
def Newed (W : World) (m : Int) (e : Ending) (w' : World) : Prop := ∃ B, e = .returned (.pointer (some ⟨B, 0, none⟩)) ∧ WrOk W w' B (lim m) (0, [])
theorem new_ok (W w : World) (m : Int) (hb : Below W.heap.size W w) : Calls Tryd.prog 16 #[.int .i64 m] w (Newed W m) := by
  refine (new_any m w).mono ?_
  rintro e w' ⟨rfl, rfl⟩
  exact ⟨_, rfl, _, new_wr w (lim m), hb.size, (fun k hk => by cases hk), hb.alloc hb.size _⟩
/-- A reader that was made since W. -/
def RdOk (W w : World) (B : Nat) (S : St) : Prop := ∃ p c, Rd w B p c S ∧ W.heap.size ≤ B ∧ (∀ a, p = some a → W.heap.size ≤ a.block) ∧ Below W.heap.size W w
theorem RdOk.below {W w : World} {B : Nat} {S : St} (h : RdOk W w B S) : Below W.heap.size W w := by
  obtain ⟨_, _, _, _, _, h⟩ := h
  exact h
theorem RdOk.went {W w w' : World} {B : Nat} {p : Option Addr} {T : St} (hB : W.heap.size ≤ B) (hp : ∀ a, p = some a → W.heap.size ≤ a.block) (hb : Below W.heap.size W w) (h : Went w B p T w') : RdOk W w' B T := by
  obtain ⟨p', c', h1, h2⟩ := h.rd
  refine ⟨p', c', h1, hB, fun a ha => ?_, h.chg.below hb hb.size fun k hk => by rw [hk]; exact hB⟩
  obtain ⟨a', e1, e2⟩ := h2 a ha
  rw [e2]
  exact hp a' e1
def Readed (W w : World) (L : List Nat) (e : Ending) (w' : World) : Prop := ∃ B, e = .returned (.pointer (some ⟨B, 0, none⟩)) ∧ RdOk W w' B (0, L) ∧ Below w.heap.size w w' ∧ w.heap.size ≤ B
theorem read_ok (W w : World) (p : Option Addr) (n c : Nat) (L : List Nat) (hS : Sl w p n c L) (hn : n ≤ 100000) (hb : Below W.heap.size W w) : Calls Tryd.prog 34 #[.slice p n c] w (Readed W w L) := by
  refine (read_any p n c L w hS hn).mono ?_
  rintro e w' ⟨B, p', c', rfl, h1, h2, h3, h4⟩
  exact ⟨_, rfl, ⟨p', c', h2, Nat.le_trans hb.size h1, (fun a ha => Nat.le_trans hb.size (h3 a ha).1), hb.trans (h4.mono hb.size)⟩, h4, h1⟩
def NumOk (W : World) (B : Nat) (R : St × Nat) (e : Ending) (w' : World) : Prop := e = .returned (.int .u64 ((R.2 : Nat) : Int)) ∧ RdOk W w' B R.1
theorem num_ok (W w : World) (B : Nat) (S : St) (size : Int) (h : RdOk W w B S) (hb : S.2.length ≤ 90000) : Calls Tryd.prog 35 #[.pointer (some ⟨B, 0, none⟩), .int .i64 size] w (NumOk W B (numR S size)) := by
  obtain ⟨p, c, hr, hB, hp, hw⟩ := h
  refine (num_any B c p S size w hr (by omega)).mono ?_
  rintro e w' ⟨rfl, h⟩
  exact ⟨rfl, RdOk.went hB hp hw h⟩
def IntOk (W : World) (B : Nat) (R : St × Nat) (e : Ending) (w' : World) : Prop := e = .returned (.int .i64 (sgn R.2)) ∧ RdOk W w' B R.1
theorem int_ok (W w : World) (B : Nat) (S : St) (h : RdOk W w B S) (hb : S.2.length ≤ 90000) : Calls Tryd.prog 36 #[.pointer (some ⟨B, 0, none⟩)] w (IntOk W B (numR S 8)) := by
  obtain ⟨p, c, hr, hB, hp, hw⟩ := h
  refine (int_any B c p S w hr (by omega)).mono ?_
  rintro e w' ⟨rfl, h⟩
  exact ⟨rfl, RdOk.went hB hp hw h⟩
def BoolOk (W : World) (B : Nat) (R : St × Bool) (e : Ending) (w' : World) : Prop := e = .returned (.bool R.2) ∧ RdOk W w' B R.1
def BytesOk (W : World) (B : Nat) (R : St × List Nat) (e : Ending) (w' : World) : Prop := ∃ p n c, e = .returned (.slice p n c) ∧ Sl w' p n c R.2 ∧ (∀ a, p = some a → W.heap.size ≤ a.block) ∧ RdOk W w' B R.1
/-- What Done leaves of such a writer. -/
def DoneOk (W : World) (S : St) (e : Ending) (w' : World) : Prop := Below W.heap.size W w' ∧ if S.1 = 0 then ∃ p c, e = .returned (.tuple #[.slice p S.2.length c, .int .i64 0]) ∧ Sl w' p S.2.length c S.2 ∧ ∀ a, p = some a → W.heap.size ≤ a.block else e = .returned (.tuple #[.slice none 0 0, .int .i64 S.1])
theorem done_ok (W w : World) (B : Nat) (most : Int) (S : St) (h : WrOk W w B most S) (hl : S.2.length ≤ 100000) : Calls Tryd.prog 19 #[.pointer (some ⟨B, 0, none⟩)] w (DoneOk W S) := by
  obtain ⟨v, hw, hB, hv, hb⟩ := h
  refine (done_any B v most S w hw hl).mono ?_
  rintro e w' ⟨h1, h2⟩
  refine ⟨hb.trans (h1.mono hb.size), ?_⟩
  split at h2
  · rename_i h0
    rw [if_pos h0]
    obtain ⟨v, rfl, hr, ho⟩ := h2
    obtain ⟨q, d, rfl, _, hs, hq⟩ := hr.sl
    exact ⟨_, _, rfl, hs, fun a ha => Nat.le_trans hb.size (ho _ (hq a ha))⟩
  · rename_i h0
    rw [if_neg h0]
    exact h2
theorem done_good (W w : World) (B : Nat) (most : Int) (L : List Nat) (h : WrOk W w B most (0, L)) (hl : L.length ≤ 100000) : Calls Tryd.prog 19 #[.pointer (some ⟨B, 0, none⟩)] w fun e w' => ∃ p c, e = .returned (.tuple #[.slice p L.length c, .int .i64 0]) ∧ Below W.heap.size W w' ∧ Sl w' p L.length c L ∧ ∀ a, p = some a → W.heap.size ≤ a.block := by
  refine (done_ok W w B most (0, L) h hl).mono ?_
  rintro e w' ⟨h1, h2⟩
  rw [if_pos rfl] at h2
  obtain ⟨p, c, rfl, h3, h4⟩ := h2
  exact ⟨p, c, rfl, h1, h3, h4⟩
end Go.Proofs.YtppmokkbepihhaaDoor
