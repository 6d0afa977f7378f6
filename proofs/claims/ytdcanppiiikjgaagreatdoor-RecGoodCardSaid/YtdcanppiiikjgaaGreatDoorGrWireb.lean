/- A writer, a reader that the call has made: in one word each; bytes as a string; the chapter's example. -/
/- The chapter's example; what nil answers. -/
/- A reader and a writer side by side; what was read, with nothing left, is written so. -/
/- Rows of items that came in. -/
/- few: are items few and small enough; put: an item is written. -/
/- What was written is read: the mathematics; a reader's calls beside an item in a box. -/
/- The document's own readers: GetNum, GetBool, GetBytes. -/
/- The document's own writers: Fits, Num, Int, Bool, Bytes; told. -/
import Derived.Test.YtdcanppiiikjgaaGreatDoorWireRest
import Derived.Laws.BytesArg
import Derived.Lib.SlBytesConst
import Derived.Deep.Slices
import Derived.Deep.Fields
import Derived.ChangeSame
import Derived.LoopTactic
import Derived.Outline
namespace Go.Proofs.YtdcanppiiikjgaaGreatDoor
open Go.RowKit Go.ChangeShapes Go.WideShapes
set_option linter.unusedVariables false
set_option maxRecDepth 10000

/-- Bytes as a string. -/
def strOf (L : List Nat) : ByteArray := ⟨(L.map UInt8.ofNat).toArray⟩
theorem conv_sl {w : World} {p : Option Addr} {n c : Nat} {L : List Nat} (h : Sl w p n c L) : (convert 36 9 (.slice p n c)).run Tryz.prog w = .ok (.string (strOf L)) w := by
  cases p with
  | none =>
    obtain rfl := h.nil rfl
    obtain rfl : n = 0 := Nat.le_zero.1 h.cap
    obtain rfl : L = [] := List.eq_nil_of_length_eq_zero h.len
    exact run_convert_bytes_nil w _ _ Tryz.underlying36 Tryz.underlying5 0 0 _ Tryz.underlying9
  | some a =>
    have hl : (loadCells a n).run Tryz.prog w = .ok ((L.map Int.ofNat).map (Value.int .u8)).toArray w := by
      have := run_loadCells_list (P := Tryz.prog) w a ((L.map Int.ofNat).map (Value.int .u8)) (fun j v hj => by
        have hjl : j < n := by
          rcases Nat.lt_or_ge j n with h' | h'
          · exact h'
          · rw [List.getElem?_eq_none (by simp [h.len]; exact h')] at hj; cases hj
        obtain ⟨b, off, hp, hc⟩ := h.cell (by omega)
        cases hp
        rw [Go.WideShapes.add_plain, hc j hjl, ← hj]
        have : j < L.length := by rw [h.len]; exact hjl
        simp [List.getD, List.getElem?_eq_getElem this])
      simpa [h.len] using this
    rw [run_convert_bytes_string w _ _ _ _ n c Tryz.underlying36 Tryz.underlying5 Tryz.underlying9, run_bytesToString w _ n c _ hl, foldl_push_bytes]
    simp [strOf, ByteArray.empty, ByteArray.emptyWithCapacity, List.map_map]
    rfl

/-- A writer that was made since W. -/
def WrOk (W w : World) (B : Nat) (most : Int) (S : St) : Prop := ∃ v, Wr w B v most S ∧ W.heap.size ≤ B ∧ (∀ k, v.ownBlock = some k → W.heap.size ≤ k) ∧ Below W.heap.size W w
theorem WrOk.below {W w : World} {B : Nat} {most : Int} {S : St} (h : WrOk W w B most S) : Below W.heap.size W w := by
  obtain ⟨_, _, _, _, h⟩ := h
  exact h
/-- What a call on such a writer leaves. -/
def WrotOk (W : World) (B : Nat) (most : Int) (S : St) (e : Ending) (w' : World) : Prop := e = .returned (.tuple #[]) ∧ WrOk W w' B most S
theorem WrOk.step {W w : World} {B : Nat} {most : Int} {S T : St} {f : Nat} {args : Array Value} (h : WrOk W w B most S) (hc : ∀ v, Wr w B v most S → Calls Tryz.prog f args w (Wrot w B v most T)) : Calls Tryz.prog f args w (WrotOk W B most T) := by
  obtain ⟨v, hw, hB, hv, hb⟩ := h
  refine (hc v hw).mono ?_
  rintro e w' ⟨rfl, ⟨v', hw', hn⟩, hch⟩
  refine ⟨rfl, v', hw', hB, fun k hk => ?_, hch.below hb hb.size fun k hk => ?_⟩
  · rcases hn k hk with h | h
    · exact hv k h
    · exact Nat.le_trans hb.size h
  · rcases hk with rfl | hk
    · exact hB
    · exact hv k hk
theorem WrOk.later {W w w' : World} {B : Nat} {most : Int} {S : St} (h : WrOk W w B most S) (hc : Chg (fun _ => False) w w') : WrOk W w' B most S := by
  obtain ⟨v, hw, hB, hv, hb⟩ := h
  exact ⟨v, hw.chg hc (fun h => h) (fun _ _ h => h), hB, hv, hc.below hb hb.size fun k hk => hk.elim⟩
/-- Below 0 counts as 0. -/
def lim (m : Int) : Int := if m < 0 then 0 else m
theorem lim_0 (m : Int) : 0 ≤ lim m := by unfold lim; split <;> omega
theorem lim_9 (m : Int) (h : m ≤ 9223372036854775807) : lim m ≤ 9223372036854775807 := by unfold lim; split <;> omega
def Newed (W : World) (m : Int) (e : Ending) (w' : World) : Prop := ∃ B, e = .returned (.pointer (some ⟨B, 0, none⟩)) ∧ WrOk W w' B (lim m) (0, [])
theorem new_ok (W w : World) (m : Int) (hb : Below W.heap.size W w) : Calls Tryz.prog 50 #[.int .i64 m] w (Newed W m) := by
  refine (new_any m w).mono ?_
  rintro e w' ⟨rfl, rfl⟩
  exact ⟨_, rfl, _, new_wr w (lim m), hb.size, (fun k hk => by cases hk), hb.alloc hb.size _⟩
/-- A reader that was made since W. -/
def RdOk (W w : World) (B : Nat) (S : St) : Prop := ∃ p c, Rd w B p c S ∧ W.heap.size ≤ B ∧ (∀ a, p = some a → W.heap.size ≤ a.block) ∧ Below W.heap.size W w
theorem RdOk.below {W w : World} {B : Nat} {S : St} (h : RdOk W w B S) : Below W.heap.size W w := by
  obtain ⟨_, _, _, _, _, h⟩ := h
  exact h
theorem RdOk.went {W w w' : World} {B : Nat} {p : Option Addr} {T : St} (hB : W.heap.size ≤ B) (hp : ∀ a, p = some a → W.heap.size ≤ a.block) (hb : Below W.heap.size W w) (h : Went w B p T w') : RdOk W w' B T := by
  obtain ⟨p', c', h1, h2⟩ := h.rd
  refine ⟨p', c', h1, hB, fun a ha => ?_, h.chg.below hb hb.size fun k hk => by rw [hk]; exact hB⟩
  obtain ⟨a', e1, e2⟩ := h2 a ha
  rw [e2]
  exact hp a' e1
def Readed (W w : World) (L : List Nat) (e : Ending) (w' : World) : Prop := ∃ B, e = .returned (.pointer (some ⟨B, 0, none⟩)) ∧ RdOk W w' B (0, L) ∧ Below w.heap.size w w' ∧ w.heap.size ≤ B
theorem read_ok (W w : World) (p : Option Addr) (n c : Nat) (L : List Nat) (hS : Sl w p n c L) (hn : n ≤ 100000) (hb : Below W.heap.size W w) : Calls Tryz.prog 36 #[.slice p n c] w (Readed W w L) := by
  refine (read_any p n c L w hS hn).mono ?_
  rintro e w' ⟨B, p', c', rfl, h1, h2, h3, h4⟩
  exact ⟨_, rfl, ⟨p', c', h2, Nat.le_trans hb.size h1, (fun a ha => Nat.le_trans hb.size (h3 a ha).1), hb.trans (h4.mono hb.size)⟩, h4, h1⟩
def NumOk (W : World) (B : Nat) (R : St × Nat) (e : Ending) (w' : World) : Prop := e = .returned (.int .u64 ((R.2 : Nat) : Int)) ∧ RdOk W w' B R.1
theorem num_ok (W w : World) (B : Nat) (S : St) (size : Int) (h : RdOk W w B S) (hb : S.2.length ≤ 90000) : Calls Tryz.prog 59 #[.pointer (some ⟨B, 0, none⟩), .int .i64 size] w (NumOk W B (numR S size)) := by
  obtain ⟨p, c, hr, hB, hp, hw⟩ := h
  refine (num_any B c p S size w hr (by omega)).mono ?_
  rintro e w' ⟨rfl, h⟩
  exact ⟨rfl, RdOk.went hB hp hw h⟩
def IntOk (W : World) (B : Nat) (R : St × Nat) (e : Ending) (w' : World) : Prop := e = .returned (.int .i64 (sgn R.2)) ∧ RdOk W w' B R.1
theorem int_ok (W w : World) (B : Nat) (S : St) (h : RdOk W w B S) (hb : S.2.length ≤ 90000) : Calls Tryz.prog 63 #[.pointer (some ⟨B, 0, none⟩)] w (IntOk W B (numR S 8)) := by
  obtain ⟨p, c, hr, hB, hp, hw⟩ := h
  refine (int_any B c p S w hr (by omega)).mono ?_
  rintro e w' ⟨rfl, h⟩
  exact ⟨rfl, RdOk.went hB hp hw h⟩
def BoolOk (W : World) (B : Nat) (R : St × Bool) (e : Ending) (w' : World) : Prop := e = .returned (.bool R.2) ∧ RdOk W w' B R.1
theorem bool_ok (W w : World) (B : Nat) (S : St) (h : RdOk W w B S) (hb : S.2.length ≤ 90000) : Calls Tryz.prog 62 #[.pointer (some ⟨B, 0, none⟩)] w (BoolOk W B (boolR S)) := by
  obtain ⟨p, c, hr, hB, hp, hw⟩ := h
  refine (bool_any B c p S w hr (by omega)).mono ?_
  rintro e w' ⟨rfl, h⟩
  exact ⟨rfl, RdOk.went hB hp hw h⟩
def BytesOk (W : World) (B : Nat) (R : St × List Nat) (e : Ending) (w' : World) : Prop := ∃ p n c, e = .returned (.slice p n c) ∧ Sl w' p n c R.2 ∧ (∀ a, p = some a → W.heap.size ≤ a.block) ∧ RdOk W w' B R.1
theorem bytes_ok (W w : World) (B : Nat) (S : St) (most : Int) (h : RdOk W w B S) (hb : S.2.length ≤ 90000) : Calls Tryz.prog 64 #[.pointer (some ⟨B, 0, none⟩), .int .i64 most] w (BytesOk W B (bytesR S most)) := by
  obtain ⟨p, c, hr, hB, hp, hw⟩ := h
  refine (bytes_any B c p S most w hr hb).mono ?_
  rintro e w' ⟨v, rfl, h1, h2, h⟩
  obtain ⟨q, d, rfl, _, hs, ho⟩ := h1.sl
  exact ⟨_, _, _, rfl, hs, fun a ha => Nat.le_trans hw.size (h2 _ (ho a ha)), RdOk.went hB hp hw h⟩
theorem endr_ok (W w : World) (B : Nat) (S : St) (h : RdOk W w B S) (hb : S.2.length ≤ 90000) : Calls Tryz.prog 66 #[.pointer (some ⟨B, 0, none⟩)] w fun e w' => e = .returned (.int .i64 (endR S)) ∧ w = w' := by
  obtain ⟨p, c, hr, hB, hp, hw⟩ := h
  exact end_any B c p S w hr (by omega)
/-- What Done leaves of such a writer. -/
def DoneOk (W : World) (S : St) (e : Ending) (w' : World) : Prop := Below W.heap.size W w' ∧ if S.1 = 0 then ∃ p c, e = .returned (.tuple #[.slice p S.2.length c, .int .i64 0]) ∧ Sl w' p S.2.length c S.2 ∧ ∀ a, p = some a → W.heap.size ≤ a.block else e = .returned (.tuple #[.slice none 0 0, .int .i64 S.1])
theorem done_ok (W w : World) (B : Nat) (most : Int) (S : St) (h : WrOk W w B most S) (hl : S.2.length ≤ 100000) : Calls Tryz.prog 57 #[.pointer (some ⟨B, 0, none⟩)] w (DoneOk W S) := by
  obtain ⟨v, hw, hB, hv, hb⟩ := h
  refine (done_any B v most S w hw hl).mono ?_
  rintro e w' ⟨h1, h2⟩
  refine ⟨hb.trans (h1.mono hb.size), ?_⟩
  split at h2
  · rename_i h0
    rw [if_pos h0]
    obtain ⟨v, rfl, hr, ho⟩ := h2
    obtain ⟨q, d, rfl, _, hs, hq⟩ := hr.sl
    exact ⟨_, _, rfl, hs, fun a ha => Nat.le_trans hb.size (ho _ (hq a ha))⟩
  · rename_i h0
    rw [if_neg h0]
    exact h2
theorem done_good (W w : World) (B : Nat) (most : Int) (L : List Nat) (h : WrOk W w B most (0, L)) (hl : L.length ≤ 100000) : Calls Tryz.prog 57 #[.pointer (some ⟨B, 0, none⟩)] w fun e w' => ∃ p c, e = .returned (.tuple #[.slice p L.length c, .int .i64 0]) ∧ Below W.heap.size W w' ∧ Sl w' p L.length c L ∧ ∀ a, p = some a → W.heap.size ≤ a.block := by
  refine (done_ok W w B most (0, L) h hl).mono ?_
  rintro e w' ⟨h1, h2⟩
  rw [if_pos rfl] at h2
  obtain ⟨p, c, rfl, h3, h4⟩ := h2
  exact ⟨p, c, rfl, h1, h3, h4⟩
end Go.Proofs.YtdcanppiiikjgaaGreatDoor
namespace Go.Proofs.YtdcanppiiikjgaaGreatDoor
open Go.RowKit Go.ChangeShapes Go.WideShapes
set_option linter.unusedVariables false
set_option maxRecDepth 10000

theorem sl_ab (w : World) : Sl (w.alloc (.cells #[.int .u8 97, .int .u8 98] 5 (2, 3))) (some ⟨w.heap.size, 0, none⟩) 2 2 [97, 98] :=
  ⟨rfl, by omega, (fun h => by cases h), (fun z hz => by simp at hz; omega), fun _ => ⟨_, 0, rfl, fun j hj => by
    rw [World.cell?_alloc_mark]
    match j, hj with
    | 0, _ => rfl
    | 1, _ => rfl⟩⟩
theorem strOf_list (L : List Nat) : (strOf L).toList = L.map UInt8.ofNat := by simp [strOf]
theorem str_ab : ((strOf [97, 98]).toList == [97, 98]) = true := by rw [strOf_list]; rfl
theorem str_all : ((strOf [2, 1, 2, 0, 97, 98, 1]).toList == [2, 1, 2, 0, 97, 98, 1]) = true := by rw [strOf_list]; rfl
end Go.Proofs.YtdcanppiiikjgaaGreatDoor
namespace Go.Proofs.YtdcanppiiikjgaaGreatDoor
open Go.RowKit Go.ChangeShapes Go.WideShapes
set_option linter.unusedVariables false
set_option maxRecDepth 10000

/-- A reader and a writer that were made since W, apart. -/
def RwOk (W w : World) (Br Bw : Nat) (most : Int) (R S : St) : Prop :=
  ∃ p c v, Rd w Br p c R ∧ Wr w Bw v most S ∧ W.heap.size ≤ Br ∧ W.heap.size ≤ Bw ∧ Br ≠ Bw ∧ (∀ a, p = some a → W.heap.size ≤ a.block ∧ a.block < w.heap.size ∧ a.block ≠ Bw ∧ v.ownBlock ≠ some a.block) ∧ (∀ k, v.ownBlock = some k → W.heap.size ≤ k ∧ k ≠ Br) ∧ Below W.heap.size W w
theorem RwOk.below {W w : World} {Br Bw : Nat} {most : Int} {R S : St} (h : RwOk W w Br Bw most R S) : Below W.heap.size W w := by
  obtain ⟨_, _, _, _, _, _, _, _, _, _, h⟩ := h
  exact h
theorem RwOk.read {W w w' : World} {Br Bw : Nat} {most : Int} {R S T : St} {p : Option Addr} {c : Nat} {v : Value} (hw : Wr w Bw v most S) (h1 : W.heap.size ≤ Br) (h2 : W.heap.size ≤ Bw) (h3 : Br ≠ Bw)
    (h4 : ∀ a, p = some a → W.heap.size ≤ a.block ∧ a.block < w.heap.size ∧ a.block ≠ Bw ∧ v.ownBlock ≠ some a.block) (h5 : ∀ k, v.ownBlock = some k → W.heap.size ≤ k ∧ k ≠ Br) (h6 : Below W.heap.size W w) (h : Went w Br p T w') : RwOk W w' Br Bw most T S := by
  obtain ⟨p', c', hr, hf⟩ := h.rd
  refine ⟨p', c', v, hr, hw.chg h.chg (fun e => h3 e.symm) (fun k hk e => (h5 k hk).2 e), h1, h2, h3, fun a ha => ?_, h5, h.chg.below h6 h6.size fun k hk => by rw [hk]; exact h1⟩
  obtain ⟨a', e1, e2⟩ := hf a ha
  obtain ⟨g1, g2, g3, g4⟩ := h4 a' e1
  rw [e2]
  exact ⟨g1, Nat.lt_of_lt_of_le g2 h.chg.size, g3, g4⟩
theorem RwOk.write {W w : World} {Br Bw : Nat} {most : Int} {R S T : St} {f : Nat} {args : Array Value} (h : RwOk W w Br Bw most R S) (hc : ∀ v, Wr w Bw v most S → Calls Tryz.prog f args w (Wrot w Bw v most T)) :
    Calls Tryz.prog f args w fun e w' => e = .returned (.tuple #[]) ∧ RwOk W w' Br Bw most R T := by
  obtain ⟨p, c, v, hr, hw, h1, h2, h3, h4, h5, h6⟩ := h
  refine (hc v hw).mono ?_
  rintro e w' ⟨rfl, ⟨v', hw', hn⟩, hch⟩
  refine ⟨rfl, p, c, v', hr.chg hch ?_ ?_, hw', h1, h2, h3, fun a ha => ?_, fun k hk => ?_, hch.below h6 h6.size fun k hk => ?_⟩
  · rintro (e | e)
    · exact h3 e
    · exact (h5 _ e).2 rfl
  · intro a ha
    rintro (e | e)
    · exact (h4 a ha).2.2.1 e
    · exact (h4 a ha).2.2.2 e
  · obtain ⟨g1, g2, g3, g4⟩ := h4 a ha
    refine ⟨g1, Nat.lt_of_lt_of_le g2 hch.size, g3, fun e => ?_⟩
    rcases hn _ e with e | e
    · exact g4 e
    · omega
  · rcases hn _ hk with e | e
    · exact h5 k e
    · have := hr.lt
      exact ⟨Nat.le_trans h6.size e, by omega⟩
  · rcases hk with rfl | e
    · exact h2
    · exact (h5 k e).1
theorem rw_num (W w : World) (Br Bw : Nat) (most size : Int) (R S : St) (h : RwOk W w Br Bw most R S) (hb : R.2.length ≤ 90000) : Calls Tryz.prog 59 #[.pointer (some ⟨Br, 0, none⟩), .int .i64 size] w fun e w' => e = .returned (.int .u64 (((numR R size).2 : Nat) : Int)) ∧ RwOk W w' Br Bw most (numR R size).1 S := by
  obtain ⟨p, c, v, hr, hw, h1, h2, h3, h4, h5, h6⟩ := h
  refine (num_any Br c p R size w hr (by omega)).mono ?_
  rintro e w' ⟨rfl, h⟩
  exact ⟨rfl, RwOk.read (R := R) (c := c) hw h1 h2 h3 h4 h5 h6 h⟩
theorem rw_bool (W w : World) (Br Bw : Nat) (most : Int) (R S : St) (h : RwOk W w Br Bw most R S) (hb : R.2.length ≤ 90000) : Calls Tryz.prog 62 #[.pointer (some ⟨Br, 0, none⟩)] w fun e w' => e = .returned (.bool (boolR R).2) ∧ RwOk W w' Br Bw most (boolR R).1 S := by
  obtain ⟨p, c, v, hr, hw, h1, h2, h3, h4, h5, h6⟩ := h
  refine (bool_any Br c p R w hr (by omega)).mono ?_
  rintro e w' ⟨rfl, h⟩
  exact ⟨rfl, RwOk.read (R := R) (c := c) hw h1 h2 h3 h4 h5 h6 h⟩
theorem rw_bytes (W w : World) (Br Bw : Nat) (most lim : Int) (R S : St) (h : RwOk W w Br Bw most R S) (hb : R.2.length ≤ 90000) : Calls Tryz.prog 64 #[.pointer (some ⟨Br, 0, none⟩), .int .i64 lim] w fun e w' => ∃ q n d, e = .returned (.slice q n d) ∧ Sl w' q n d (bytesR R lim).2 ∧ RwOk W w' Br Bw most (bytesR R lim).1 S := by
  obtain ⟨p, c, v, hr, hw, h1, h2, h3, h4, h5, h6⟩ := h
  refine (bytes_any Br c p R lim w hr hb).mono ?_
  rintro e w' ⟨v', rfl, g1, g2, h⟩
  obtain ⟨q, d, rfl, _, hs, ho⟩ := g1.sl
  exact ⟨_, _, _, rfl, hs, RwOk.read (R := R) (c := c) hw h1 h2 h3 h4 h5 h6 h⟩
/-- Read, and then New. -/
theorem rw_new (W w w1 : World) (m : Int) (B : Nat) (p : Option Addr) (c : Nat) (L : List Nat) (hb : Below W.heap.size W w) (h1 : w.heap.size ≤ B) (h2 : Rd w1 B p c (0, L)) (h3 : ∀ a, p = some a → w.heap.size ≤ a.block ∧ a.block < w1.heap.size) (h4 : Below w.heap.size w w1) :
    Calls Tryz.prog 50 #[.int .i64 m] w1 fun e w' => ∃ Bw, e = .returned (.pointer (some ⟨Bw, 0, none⟩)) ∧ RwOk W w' B Bw (lim m) (0, L) (0, []) ∧ Below w1.heap.size w1 w' := by
  refine (new_any m w1).mono ?_
  rintro e w' ⟨rfl, rfl⟩
  have hc : Below w1.heap.size w1 (w1.alloc (.cells #[.int .i64 0, .int .i64 (if m < 0 then 0 else m), .slice none 0 0] 114)) := (Below.refl _ _).alloc (Nat.le_refl _) _
  have hB := h2.lt
  have hs := h4.size
  have hs' := hb.size
  refine ⟨_, rfl, ⟨p, c, _, h2.chg (Chg.of_below (S := fun _ => False) hc) (fun h => h) (fun _ _ h => h), new_wr w1 (lim m), by omega, by omega, by omega, fun a ha => ?_, (fun k hk => by cases hk), (hb.trans (h4.mono hs')).trans (hc.mono (by omega))⟩, hc⟩
  obtain ⟨g1, g2⟩ := h3 a ha
  exact ⟨by omega, Nat.lt_of_lt_of_le g2 hc.size, by omega, fun h => by cases h⟩

theorem rw_done (W w : World) (Br Bw : Nat) (most : Int) (R S : St) (h : RwOk W w Br Bw most R S) (hl : S.2.length ≤ 100000) : Calls Tryz.prog 57 #[.pointer (some ⟨Bw, 0, none⟩)] w fun e w' => RwOk W w' Br Bw most R S ∧ ∃ q n d x, e = .returned (.tuple #[.slice q n d, .int .i64 x]) ∧ (S.1 = 0 → x = 0 ∧ Sl w' q n d S.2) := by
  obtain ⟨p, c, v, hr, hw, h1, h2, h3, h4, h5, h6⟩ := h
  refine (done_any Bw v most S w hw hl).mono ?_
  rintro e w' ⟨g1, g2⟩
  have hc : Chg (fun _ => False) w w' := Chg.of_below g1
  refine ⟨⟨p, c, v, hr.chg hc (fun h => h) (fun _ _ h => h), hw.chg hc (fun h => h) (fun _ _ h => h), h1, h2, h3, fun a ha => ?_, h5, h6.trans (g1.mono h6.size)⟩, ?_⟩
  · obtain ⟨f1, f2, f3, f4⟩ := h4 a ha
    exact ⟨f1, Nat.lt_of_lt_of_le f2 g1.size, f3, f4⟩
  · split at g2
    · obtain ⟨v', rfl, hrow, _⟩ := g2
      obtain ⟨q, d, rfl, _, hs, _⟩ := hrow.sl
      exact ⟨q, _, d, 0, rfl, fun _ => ⟨rfl, hs⟩⟩
    · rename_i h0
      subst g2
      exact ⟨_, _, _, _, rfl, fun h => absurd h h0⟩
theorem rw_end (W w : World) (Br Bw : Nat) (most : Int) (R S : St) (h : RwOk W w Br Bw most R S) (hb : R.2.length ≤ 90000) : Calls Tryz.prog 66 #[.pointer (some ⟨Br, 0, none⟩)] w fun e w' => e = .returned (.int .i64 (endR R)) ∧ w = w' := by
  obtain ⟨p, c, v, hr, _⟩ := h
  exact end_any Br c p R w hr (by omega)
/-- As long as nothing is wrong with the reader, what is written and what is left are what was handed in. -/
def Inv (L : List Nat) (R S : St) : Prop := (R.1 = 0 → S.1 = 0 ∧ S.2 ++ R.2 = L) ∧ S.2.length ≤ 1000 ∧ R.2.length ≤ 400 ∧ (∀ y ∈ R.2, y < 256) ∧ L.length ≤ 400
theorem rawW_len (S : St) (M : List Nat) (h : S.2.length ≤ 1000) : (rawW 1000 S M).2.length ≤ 1000 := by
  unfold rawW
  split
  · split
    · exact h
    · show (S.2 ++ M).length ≤ 1000
      rw [List.length_append]; omega
  · exact h
theorem takeR_rest (S : St) (n : Nat) : ∃ k, (takeR S n).1.2 = S.2.drop k := by
  unfold takeR
  split
  · split
    · exact ⟨0, rfl⟩
    · exact ⟨n, rfl⟩
  · exact ⟨0, rfl⟩
theorem bad_two (e : Int) (S : St) : (bad e S).2 = S.2 := by unfold bad; split <;> rfl
theorem numR_rest (S : St) (size : Int) : ∃ k, (numR S size).1.2 = S.2.drop k := by
  unfold numR
  split
  · exact takeR_rest S _
  · exact ⟨0, bad_two 1 S⟩
theorem boolR_rest (S : St) : ∃ k, (boolR S).1.2 = S.2.drop k := by
  obtain ⟨k, hk⟩ := numR_rest S 1
  unfold boolR
  split
  · exact ⟨k, by rw [← hk]; exact bad_two 8 _⟩
  · exact ⟨k, hk⟩
theorem bytesR_rest (S : St) (most : Int) : ∃ k, (bytesR S most).1.2 = S.2.drop k := by
  obtain ⟨k, hk⟩ := numR_rest S 2
  unfold bytesR
  obtain ⟨j, hj⟩ := takeR_rest (if most < ((numR S 2).2 : Int) then bad 7 (numR S 2).1 else (numR S 2).1) (numR S 2).2
  refine ⟨k + j, ?_⟩
  rw [hj]
  split
  · rw [bad_two, hk, List.drop_drop]
  · rw [hk, List.drop_drop]
theorem takeR_len2 (S : St) (n : Nat) : (takeR S n).2.length ≤ S.2.length := by
  unfold takeR
  by_cases h : S.1 = 0
  · rw [if_pos h]
    by_cases h2 : S.2.length < n
    · rw [if_pos h2]; exact Nat.zero_le _
    · rw [if_neg h2]; show (S.2.take n).length ≤ _; rw [List.length_take]; omega
  · rw [if_neg h]; exact Nat.zero_le _
theorem bytesR_len (S : St) (most : Int) : (bytesR S most).2.length ≤ S.2.length := by
  obtain ⟨k, hk⟩ := numR_rest S 2
  unfold bytesR
  refine Nat.le_trans (takeR_len2 _ _) ?_
  split
  · rw [bad_two, hk, List.length_drop]; omega
  · rw [hk, List.length_drop]; omega
theorem rest_inv {L : List Nat} {R S R' S' : St} (h : Inv L R S) (hr : ∃ k, R'.2 = R.2.drop k) (hs : S'.2.length ≤ 1000) (hg : R'.1 = 0 → S'.1 = 0 ∧ S'.2 ++ R'.2 = L) : Inv L R' S' := by
  obtain ⟨k, hk⟩ := hr
  refine ⟨hg, hs, ?_, fun y hy => ?_, h.2.2.2.2⟩
  · rw [hk, List.length_drop]; have := h.2.2.1; omega
  · rw [hk] at hy; exact h.2.2.2.1 y (List.mem_of_mem_drop hy)
/-- What take answers where nothing is wrong behind it. -/
theorem takeR_ok (S : St) (n : Nat) (h : (takeR S n).1.1 = 0) : S.1 = 0 ∧ n ≤ S.2.length ∧ takeR S n = ((0, S.2.drop n), S.2.take n) := by
  unfold takeR at h ⊢
  by_cases h0 : S.1 = 0
  · rw [if_pos h0] at h ⊢
    by_cases hl : S.2.length < n
    · rw [if_pos hl] at h
      replace h : (6 : Int) = 0 := h
      omega
    · rw [if_neg hl]
      exact ⟨h0, by omega, rfl⟩
  · rw [if_neg h0] at h
    exact absurd h h0
theorem bad_ok (e : Int) (S : St) (he : e ≠ 0) : (bad e S).1 ≠ 0 := by
  unfold bad
  split
  · exact he
  · assumption
theorem numR_ok (S : St) (n : Nat) (h1 : 1 ≤ n) (h8 : n ≤ 8) (h : (numR S n).1.1 = 0) : S.1 = 0 ∧ n ≤ S.2.length ∧ numR S n = ((0, S.2.drop n), un (S.2.take n)) := by
  unfold numR at h ⊢
  rw [if_pos (by omega), Int.toNat_natCast] at h ⊢
  obtain ⟨a, b, c⟩ := takeR_ok S n h
  rw [c]
  exact ⟨a, b, rfl⟩
theorem rawW_ok (S : St) (M : List Nat) (h : S.1 = 0) (hl : S.2.length + M.length ≤ 1000) : rawW 1000 S M = (0, S.2 ++ M) := by
  unfold rawW
  rw [if_pos h, if_neg (by omega)]
theorem inv_num (L : List Nat) (R S : St) (n : Nat) (h1 : 1 ≤ n) (h8 : n ≤ 8) (h : Inv L R S) : Inv L (numR R n).1 (numW 1000 S (numR R n).2 n) := by
  refine rest_inv h (numR_rest R n) ?_ fun h0 => ?_
  · unfold numW
    split
    · exact rawW_len S _ h.2.1
    · rw [bad_two]; exact h.2.1
  · obtain ⟨a, b, c⟩ := numR_ok R n h1 h8 h0
    obtain ⟨d, e⟩ := h.1 a
    have hlt : ∀ y ∈ R.2.take n, y < 256 := fun y hy => h.2.2.2.1 y (List.mem_of_mem_take hy)
    have htl : (R.2.take n).length = n := by rw [List.length_take]; omega
    have hu := un_lt _ hlt
    have hle := le_un _ hlt
    rw [htl] at hu hle
    have hLl := h.2.2.2.2
    rw [← e, List.length_append] at hLl
    rw [c]
    show (numW 1000 S (un (R.2.take n)) n).1 = 0 ∧ (numW 1000 S (un (R.2.take n)) n).2 ++ R.2.drop n = L
    unfold numW
    rw [Int.toNat_natCast, if_pos ⟨by omega, by omega, hu⟩, hle, rawW_ok S _ d (by rw [htl]; omega)]
    refine ⟨rfl, ?_⟩
    rw [List.append_assoc, List.take_append_drop]
    exact e
theorem inv_bool (L : List Nat) (R S : St) (h : Inv L R S) : Inv L (boolR R).1 (rawW 1000 S [bit (boolR R).2]) := by
  refine rest_inv h (boolR_rest R) (rawW_len S _ h.2.1) fun h0 => ?_
  unfold boolR at h0 ⊢
  by_cases hx : 1 < (numR R 1).2
  · rw [if_pos hx] at h0
    exact absurd h0 (bad_ok 8 _ (by omega))
  · rw [if_neg hx] at h0 ⊢
    obtain ⟨a, b, c⟩ := numR_ok R 1 (by omega) (by omega) h0
    obtain ⟨d, e⟩ := h.1 a
    have hLl := h.2.2.2.2
    rw [← e, List.length_append] at hLl
    rw [show numR R 1 = ((0, R.2.drop 1), un (R.2.take 1)) from c] at hx ⊢
    replace hx : ¬ 1 < un (R.2.take 1) := hx
    show (rawW 1000 S [bit (un (R.2.take 1) == 1)]).1 = 0 ∧ (rawW 1000 S [bit (un (R.2.take 1) == 1)]).2 ++ R.2.drop 1 = L
    rw [rawW_ok S _ d (by simp; omega)]
    refine ⟨rfl, ?_⟩
    rw [List.append_assoc]
    rw [← e]
    congr 1
    obtain ⟨y, l, hR⟩ : ∃ y l, R.2 = y :: l := by
      cases hh : R.2 with
      | nil => rw [hh] at b; simp at b
      | cons y l => exact ⟨y, l, rfl⟩
    rw [hR] at hx ⊢
    simp only [List.take_succ_cons, List.take_zero, un, List.drop_succ_cons, List.drop_zero] at hx ⊢
    have : y = 0 ∨ y = 1 := by omega
    rcases this with rfl | rfl <;> rfl
theorem inv_bytes (L : List Nat) (R S : St) (most : Int) (h : Inv L R S) : Inv L (bytesR R most).1 (bytesW 1000 S (bytesR R most).2) := by
  refine rest_inv h (bytesR_rest R most) ?_ fun h0 => ?_
  · unfold bytesW
    split
    · rw [bad_two]; exact h.2.1
    · exact rawW_len S _ h.2.1
  · unfold bytesR at h0 ⊢
    obtain ⟨a, b, c⟩ := takeR_ok _ _ h0
    rw [c]
    by_cases hx : most < ((numR R 2).2 : Int)
    · rw [if_pos hx] at a
      exact absurd a (bad_ok 7 _ (by omega))
    · rw [if_neg hx] at a b ⊢
      obtain ⟨a2, b2, c2⟩ := numR_ok R 2 (by omega) (by omega) a
      obtain ⟨d, e⟩ := h.1 a2
      have hLl := h.2.2.2.2
      rw [← e, List.length_append] at hLl
      rw [show numR R 2 = ((0, R.2.drop 2), un (R.2.take 2)) from c2] at b ⊢
      replace b : un (R.2.take 2) ≤ (R.2.drop 2).length := b
      rw [List.length_drop] at b
      show (bytesW 1000 S ((R.2.drop 2).take (un (R.2.take 2)))).1 = 0 ∧ (bytesW 1000 S ((R.2.drop 2).take (un (R.2.take 2)))).2 ++ (R.2.drop 2).drop (un (R.2.take 2)) = L
      have hlt : ∀ y ∈ R.2.take 2, y < 256 := fun y hy => h.2.2.2.1 y (List.mem_of_mem_take hy)
      have htl : (R.2.take 2).length = 2 := by rw [List.length_take]; omega
      have hle := le_un _ hlt
      rw [htl] at hle
      generalize un (R.2.take 2) = x at *
      have hml : ((R.2.drop 2).take x).length = x := by rw [List.length_take, List.length_drop]; omega
      unfold bytesW
      rw [hml, if_neg (by omega), hle, rawW_ok S _ d (by rw [List.length_append, htl, hml]; omega)]
      refine ⟨rfl, ?_⟩
      rw [List.append_assoc, List.append_assoc, List.take_append_drop, List.take_append_drop]
      exact e
theorem inv_end (L : List Nat) (R S : St) (h : Inv L R S) (h0 : endR R = 0) : S = (0, L) := by
  unfold endR at h0
  split at h0
  · omega
  · rename_i hn
    obtain ⟨a, b⟩ := h.1 h0
    have : R.2 = [] := List.eq_nil_of_length_eq_zero (by
      have := fun hh => hn ⟨h0, hh⟩
      omega)
    rw [this, List.append_nil] at b
    exact Prod.ext a b
theorem inv_start (L : List Nat) (h : L.length ≤ 400) (hlt : ∀ y ∈ L, y < 256) : Inv L (0, L) (0, []) := ⟨fun _ => ⟨rfl, rfl⟩, by simp, h, hlt, h⟩
theorem sl_first {w : World} {x : Addr} {zs : List Int} (k c : Nat) (hk : k ≤ zs.length) (hkc : k ≤ c) (hc : ∀ i, i < zs.length → w.cell? (x.add i) = some (.int .u8 (zs.getD i 0))) (hwf : ∀ n ∈ zs, (Lit.int .u8 n).wf = true) : Sl w (some x) k c ((zs.take k).map Int.toNat) := by
  have hz : ∀ z ∈ zs, 0 ≤ z ∧ z ≤ 255 := fun z hz => bounds_u8 (hwf z hz)
  refine ⟨by simp; omega, hkc, (fun h => by cases h), fun y hy => ?_, fun h0 => ?_⟩
  · obtain ⟨z, hz1, rfl⟩ := List.mem_map.1 hy
    have := hz z (List.mem_of_mem_take hz1)
    omega
  · obtain ⟨b, off, spot⟩ := x
    have h00 := hc 0 (by omega)
    have hspot : spot = none := by simpa [Addr.add] using World.cell?_spot h00
    subst hspot
    refine ⟨b, off, rfl, fun j hj => ?_⟩
    have hjl : j < zs.length := by omega
    have e : ((zs.take k).map Int.toNat).getD j 0 = (zs.getD j 0).toNat := by
      simp [List.getD, hj, List.getElem?_eq_getElem hjl]
    have hb := hz (zs.getD j 0) (by rw [List.getD, List.getElem?_eq_getElem hjl]; simp)
    rw [e, Int.toNat_of_nonneg hb.1, ← Go.WideShapes.add_plain]
    exact hc j hjl
/-- The least of a length and a bound, as the walk spells it. -/
theorem least (len B : Nat) : ∃ k : Nat, min (len : Int) (B : Int) = (k : Int) ∧ k ≤ len ∧ k ≤ B :=
  ⟨min len B, by omega, Nat.min_le_left _ _, Nat.min_le_right _ _⟩
end Go.Proofs.YtdcanppiiikjgaaGreatDoor
namespace Go.Proofs.YtdcanppiiikjgaaGreatDoor
open Go.RowKit Go.ChangeShapes Go.WideShapes Go.Deep
set_option linter.unusedVariables false
set_option maxRecDepth 10000

/-- An item, its bytes among them. -/
structure Item where
  k : Nat
  x : Nat
  n : Int
  p : Option Addr
  m : Nat
  c : Nat
  L : List Nat
instance : Inhabited Item := ⟨⟨0, 0, 0, none, 0, 0, []⟩⟩
/-- An item lies at an address. -/
structure ItemAt (w : World) (b off : Nat) (it : Item) : Prop where
  c0 : w.cell? ⟨b, off, none⟩ = some (.int .u8 ((it.k : Nat) : Int))
  c1 : w.cell? ⟨b, off + 1, none⟩ = some (.int .u64 ((it.x : Nat) : Int))
  c2 : w.cell? ⟨b, off + 2, none⟩ = some (.int .i64 it.n)
  c3 : w.cell? ⟨b, off + 3, none⟩ = some (.slice it.p it.m it.c)
  sl : Sl w it.p it.m it.c it.L
  k8 : it.k < 256
  x64 : it.x < 18446744073709551616
  n0 : -9223372036854775808 ≤ it.n
  n9 : it.n ≤ 9223372036854775807
  cm : it.c ≤ maxLen
theorem ItemAt.later {w w' : World} {b off : Nat} {it : Item} (h : ItemAt w b off it) (hb : Below w.heap.size w w') : ItemAt w' b off it := by
  have hlt : b < w.heap.size := World.block_lt_of_cell? _ _ h.c0
  exact ⟨by rw [hb.cell (p := ⟨b, off, none⟩) hlt]; exact h.c0, by rw [hb.cell (p := ⟨b, off + 1, none⟩) hlt]; exact h.c1, by rw [hb.cell (p := ⟨b, off + 2, none⟩) hlt]; exact h.c2, by rw [hb.cell (p := ⟨b, off + 3, none⟩) hlt]; exact h.c3, h.sl.later hb, h.k8, h.x64, h.n0, h.n9, h.cm⟩
/-- A slice of items. -/
def Items (w : World) (a : Option Addr) (len cap : Nat) (its : Nat → Item) : Prop := len ≤ cap ∧ cap ≤ maxLen ∧ (0 < len → ∃ b off, a = some ⟨b, off, none⟩ ∧ ∀ i, i < len → ItemAt w b (off + i * 4) (its i))
theorem Items.later {w w' : World} {a : Option Addr} {len cap : Nat} {its : Nat → Item} (h : Items w a len cap its) (hb : Below w.heap.size w w') : Items w' a len cap its := by
  refine ⟨h.1, h.2.1, fun h0 => ?_⟩
  obtain ⟨b, off, rfl, hi⟩ := h.2.2 h0
  exact ⟨b, off, rfl, fun i hl => (hi i hl).later hb⟩
section
variable {H : Type} {enc : TypeId × Value → H} {P : Program} {w : World} {base : Nat} {spare : Nat → Bool} {held : Bool}
theorem open_slice_fields {t e : TypeId} {fs : Array Field} {fuel : Nat} {cs : List Value} {x : DataW H × List MemPlace} (ht : P.underlying t = some (.slice e)) (he : P.underlying e = some (.struct fs))
    (hone : oneCellFields P fs = true) (hC : P.cellsOf e = fs.size) (h : DataW.trod enc P w base spare held fuel t cs = some x) :
    (cs = [.slice none 0 0] ∧ x = (.nil, [])) ∨
    ∃ (a : Addr) (len cap m : Nat), cs = [.slice (some a) len cap] ∧ len ≤ cap ∧ cap ≤ maxLen ∧ m = (if spare a.block then cap else len) ∧
      ∀ i, i < m → ∃ n : Nat, ∀ (j : Nat) (f : Field), fs[j]? = some f → ∃ (v : Value) (y : DataW H × List MemPlace), w.cell? (a.add (i * fs.size + j)) = some v ∧ DataW.trod enc P w base spare held n f.type [v] = some y := by
  rcases open_slice ht h with h0 | ⟨a, len, cap, m, n, D, Pl, hcs, hb, hl, hm, hmm, hx, hi⟩
  · exact .inl h0
  · refine .inr ⟨a, len, cap, m, hcs, hl, hm, hmm, fun i him => ?_⟩
    obtain ⟨cs', hc, ht'⟩ := hi i him
    rw [hC] at hc
    obtain ⟨ys, n', hn', hy, hlen, hyl, hf⟩ := DataW.trod_struct he ht'
    obtain ⟨_, hcl, hat⟩ := World.cells?_some hc
    refine ⟨n', fun j f hj => ?_⟩
    obtain ⟨ho, hk⟩ := hone_of hone j f hj
    have hjl : j < fs.size := (Array.getElem?_eq_some_iff.1 hj).1
    have hcell := hat j hjl
    have hv : cs'[j]? = some (cs'[j]'(by omega)) := List.getElem?_eq_getElem (by omega)
    have h1 := hf j f hj
    rw [ho, hk] at h1
    have hone' : (cs'.drop j).take 1 = [cs'[j]'(by omega)] := by
      rw [List.drop_eq_getElem_cons (by omega)]
      rfl
    rw [hone'] at h1
    have hys : ys[j]? = some (ys[j]'(by omega)) := List.getElem?_eq_getElem (by omega)
    refine ⟨_, _, ?_, h1.trans hys⟩
    rw [← Go.Deep.add_add, hcell, hv]
end
end Go.Proofs.YtdcanppiiikjgaaGreatDoor
namespace Go.Proofs.YtdcanppiiikjgaaGreatDoor
open Go.RowKit Go.ChangeShapes Go.WideShapes
set_option linter.unusedVariables false
set_option maxRecDepth 10000

def Few (len : Nat) (its : Nat → Item) : Prop := len ≤ 30 ∧ ∀ i, i < len → (its i).m ≤ 300
def FewOk (w : World) (len : Nat) (its : Nat → Item) (e : Ending) (w' : World) : Prop := ∃ b : Bool, e = .returned (.bool b) ∧ (b = true → Few len its) ∧ w = w'
/-- What an item is written as. -/
def putW (most : Int) (S : St) (it : Item) : St :=
  if it.k % 5 = 0 then numW most S it.x it.n
  else if it.k % 5 = 1 then numW most S it.x 8
  else if it.k % 5 = 2 then rawW most S [bit (it.x % 2 == 1)]
  else if it.k % 5 = 3 then bytesW most S it.L
  else rawW most S it.L
/-- An item as a value. -/
def Item.val (it : Item) : Value := .agg #[.int .u8 ((it.k : Nat) : Int), .int .u64 ((it.x : Nat) : Int), .int .i64 it.n, .slice it.p it.m it.c]
end Go.Proofs.YtdcanppiiikjgaaGreatDoor
namespace Go.Proofs.YtdcanppiiikjgaaGreatDoor
open Go.RowKit Go.ChangeShapes Go.WideShapes
set_option linter.unusedVariables false
set_option maxRecDepth 10000

/-- An item's bytes, by the document; and what is wrong with it. -/
def told (it : Item) : List Nat × Int :=
  if it.k % 5 = 0 then (if 1 ≤ it.n ∧ it.n ≤ 8 ∧ it.x < 256 ^ it.n.toNat then (le it.x it.n.toNat, 0) else ([], 1))
  else if it.k % 5 = 1 then (le it.x 8, 0)
  else if it.k % 5 = 2 then ([bit (it.x % 2 == 1)], 0)
  else if it.k % 5 = 3 then (le it.L.length 2 ++ it.L, 0)
  else (it.L, 0)
theorem putW_told (most : Int) (S : St) (it : Item) (hx : it.x < 18446744073709551616) (hl : it.L.length ≤ 65535) : putW most S it = if (told it).2 = 0 then rawW most S (told it).1 else bad 1 S := by
  unfold putW told
  by_cases h0 : it.k % 5 = 0
  · rw [if_pos h0, if_pos h0]
    unfold numW
    split
    · rw [if_pos rfl]
    · rw [if_neg (by decide)]
  · rw [if_neg h0, if_neg h0]
    by_cases h1 : it.k % 5 = 1
    · rw [if_pos h1, if_pos h1, if_pos rfl]
      unfold numW
      rw [if_pos ⟨by omega, by omega, by exact hx⟩]
      rfl
    · rw [if_neg h1, if_neg h1]
      by_cases h2 : it.k % 5 = 2
      · rw [if_pos h2, if_pos h2, if_pos rfl]
      · rw [if_neg h2, if_neg h2]
        by_cases h3 : it.k % 5 = 3
        · rw [if_pos h3, if_pos h3, if_pos rfl]
          unfold bytesW
          rw [if_neg (by omega)]
        · rw [if_neg h3, if_neg h3, if_pos rfl]
/-- The bytes that an item leaves where those that are raw are left out. -/
def piece (it : Item) : List Nat := if it.k % 5 = 4 then [] else (told it).1
def cat (its : Nat → Item) : Nat → Nat → List Nat
  | _, 0 => []
  | j, n + 1 => piece (its j) ++ cat its (j + 1) n
theorem cat_snoc (its : Nat → Item) : ∀ (n j : Nat), cat its j (n + 1) = cat its j n ++ piece (its (j + n))
  | 0, j => by simp [cat]
  | n + 1, j => by
    rw [cat, cat_snoc its n (j + 1), cat, List.append_assoc, show j + 1 + n = j + (n + 1) by omega]
/-- What the writer is behind j items. -/
def WInv (its : Nat → Item) (j : Nat) (S : St) : Prop := S.2.length ≤ 20000 ∧ (S.1 = 0 → S.2 = cat its 0 j ∧ ∀ i, i < j → (its i).k % 5 ≠ 4 → (told (its i)).2 = 0)
theorem rawW_len2 (most : Nat) (S : St) (M : List Nat) (h : S.2.length ≤ most) : (rawW most S M).2.length ≤ most := by
  unfold rawW
  split
  · split
    · exact h
    · show (S.2 ++ M).length ≤ most
      rw [List.length_append]; omega
  · exact h
theorem rawW_zero (most : Int) (S : St) (M : List Nat) (h : (rawW most S M).1 = 0) : S.1 = 0 ∧ rawW most S M = (0, S.2 ++ M) := by
  unfold rawW at h ⊢
  split
  · rename_i h0
    rw [if_pos h0] at h
    split
    · rename_i h1
      rw [if_pos h1] at h
      replace h : (7 : Int) = 0 := h
      omega
    · exact ⟨h0, rfl⟩
  · rename_i h0
    rw [if_neg h0] at h
    exact absurd h h0
theorem winv_start (its : Nat → Item) : WInv its 0 (0, []) := ⟨by simp, fun _ => ⟨rfl, fun i hi => by omega⟩⟩
theorem winv_put (its : Nat → Item) (j : Nat) (S : St) (h : WInv its j S) (hx : (its j).x < 18446744073709551616) (hl : (its j).L.length ≤ 65535) (h4 : (its j).k % 5 ≠ 4) : WInv its (j + 1) (putW 20000 S (its j)) := by
  rw [putW_told 20000 S (its j) hx hl]
  by_cases h0 : (told (its j)).2 = 0
  · rw [if_pos h0]
    refine ⟨rawW_len2 20000 S _ h.1, fun hz => ?_⟩
    obtain ⟨a, b⟩ := rawW_zero 20000 S _ hz
    obtain ⟨c, d⟩ := h.2 a
    rw [b]
    refine ⟨?_, fun i hi hk => ?_⟩
    · show S.2 ++ _ = _
      rw [cat_snoc, c, Nat.zero_add, piece, if_neg h4]
    · by_cases e : i = j
      · subst e; exact h0
      · exact d i (by omega) hk
  · rw [if_neg h0]
    refine ⟨by rw [bad_two]; exact h.1, fun hz => absurd hz (bad_ok 1 S (by omega))⟩
theorem winv_skip (its : Nat → Item) (j : Nat) (S : St) (h : WInv its j S) (h4 : (its j).k % 5 = 4) : WInv its (j + 1) S := by
  refine ⟨h.1, fun hz => ?_⟩
  obtain ⟨c, d⟩ := h.2 hz
  refine ⟨?_, fun i hi hk => ?_⟩
  · rw [cat_snoc, Nat.zero_add, piece, if_pos h4, List.append_nil]; exact c
  · by_cases e : i = j
    · subst e; exact absurd h4 hk
    · exact d i (by omega) hk

theorem takeR_app (K M : List Nat) : takeR (0, K ++ M) K.length = ((0, M), K) := by
  unfold takeR
  rw [if_pos rfl, if_neg (by simp), List.drop_left, List.take_left]
theorem numR_le (x : Nat) (n : Nat) (M : List Nat) (h1 : 1 ≤ n) (h8 : n ≤ 8) (hx : x < 256 ^ n) : numR (0, le x n ++ M) n = ((0, M), x) := by
  unfold numR
  rw [if_pos (by omega), Int.toNat_natCast]
  have := takeR_app (le x n) M
  rw [le_len] at this
  rw [this]
  show ((0, M), un (le x n)) = _
  rw [un_le, Nat.mod_eq_of_lt hx]
theorem boolR_bit (b : Bool) (M : List Nat) : boolR (0, [bit b] ++ M) = ((0, M), b) := by
  have h : numR (0, [bit b] ++ M) 1 = ((0, M), bit b) := by
    cases b
    · exact numR_le 0 1 M (by omega) (by omega) (by omega)
    · exact numR_le 1 1 M (by omega) (by omega) (by omega)
  unfold boolR
  rw [h]
  cases b <;> rfl
theorem bytesR_le (L M : List Nat) (h : L.length ≤ 65535) : bytesR (0, le L.length 2 ++ L ++ M) (L.length : Int) = ((0, M), L) := by
  have hn : numR (0, le L.length 2 ++ (L ++ M)) 2 = ((0, L ++ M), L.length) := numR_le L.length 2 (L ++ M) (by omega) (by omega) (by omega)
  unfold bytesR
  rw [List.append_assoc, hn]
  show takeR (if ((L.length : Nat) : Int) < ((L.length : Nat) : Int) then _ else ((0, L ++ M) : St)) L.length = _
  rw [if_neg (by omega)]
  exact takeR_app L M

theorem Chg.cell {S : Nat → Prop} {w w' : World} (h : Chg S w w') {b : Nat} (o : Nat) (hlt : b < w.heap.size) (hs : ¬ S b) : w'.cell? ⟨b, o, none⟩ = w.cell? ⟨b, o, none⟩ := World.cell?_of_block (w := w) (a := ⟨b, o, none⟩) (h.block b hlt hs)
theorem RdOk.later {W w w' : World} {B : Nat} {S : St} (h : RdOk W w B S) (hc : Chg (fun _ => False) w w') : RdOk W w' B S := by
  obtain ⟨p, c, hr, hB, hp, hb⟩ := h
  exact ⟨p, c, hr.chg hc (fun h => h) (fun _ _ h => h), hB, hp, hc.below hb hb.size fun k hk => hk.elim⟩
theorem RdOk.lt {W w : World} {B : Nat} {S : St} (h : RdOk W w B S) : B < w.heap.size := by
  obtain ⟨p, c, hr, _⟩ := h
  exact hr.lt
theorem read0 (it : Item) (rest : List Nat) (hk : it.k % 5 = 0) (ht : (told it).2 = 0) : numR (0, piece it ++ rest) it.n = ((0, rest), it.x) := by
  have h4 : ¬ it.k % 5 = 4 := by omega
  have hc : 1 ≤ it.n ∧ it.n ≤ 8 ∧ it.x < 256 ^ it.n.toNat := by
    unfold told at ht
    rw [if_pos hk] at ht
    by_cases h : 1 ≤ it.n ∧ it.n ≤ 8 ∧ it.x < 256 ^ it.n.toNat
    · exact h
    · rw [if_neg h] at ht
      replace ht : (1 : Int) = 0 := ht
      omega
  unfold piece told
  rw [if_neg h4, if_pos hk, if_pos hc]
  have := numR_le it.x it.n.toNat rest (by omega) (by omega) hc.2.2
  rw [Int.toNat_of_nonneg (by omega)] at this
  exact this
theorem read1 (it : Item) (rest : List Nat) (hk : it.k % 5 = 1) (hx : it.x < 18446744073709551616) : numR (0, piece it ++ rest) 8 = ((0, rest), it.x) := by
  unfold piece told
  rw [if_neg (by omega), if_neg (by omega), if_pos hk]
  exact numR_le it.x 8 rest (by omega) (by omega) hx
theorem read2 (it : Item) (rest : List Nat) (hk : it.k % 5 = 2) : boolR (0, piece it ++ rest) = ((0, rest), it.x % 2 == 1) := by
  unfold piece told
  rw [if_neg (by omega), if_neg (by omega), if_neg (by omega), if_pos hk]
  exact boolR_bit _ rest
theorem read3 (it : Item) (rest : List Nat) (hk : it.k % 5 = 3) (hl : it.L.length ≤ 65535) : bytesR (0, piece it ++ rest) (it.L.length : Int) = ((0, rest), it.L) := by
  unfold piece told
  rw [if_neg (by omega), if_neg (by omega), if_neg (by omega), if_neg (by omega), if_pos hk]
  exact bytesR_le it.L rest hl
theorem read4 (it : Item) (rest : List Nat) (hk : it.k % 5 = 4) : piece it ++ rest = rest := by
  unfold piece
  rw [if_pos hk]
  rfl
theorem sgn_wrap2 (x : Nat) (hx : x < 18446744073709551616) : IntKind.i64.wrap ((x : Nat) : Int) = sgn x := by
  rw [IntKind.wrap_i64]; unfold sgn; split <;> omega
theorem x_odd (x : Nat) : ((x : Int) % 2 == 1) = (x % 2 == 1) := by rw [Bool.eq_iff_iff]; simp; omega
theorem x_odd2 (x : Nat) : ((x : Int).tmod 2 == 1) = (x % 2 == 1) := by
  rw [Int.tmod_eq_emod_of_nonneg (by omega)]; exact x_odd x
end Go.Proofs.YtdcanppiiikjgaaGreatDoor
namespace Go.Proofs.YtdcanppiiikjgaaGreatDoor
open Go.RowKit Go.ChangeShapes Go.WideShapes
set_option linter.unusedVariables false
set_option maxRecDepth 10000

/-- What is left, none once something is wrong. -/
def restOf (S : St) : List Nat := if S.1 = 0 then S.2 else []
theorem restOf_len (S : St) : (restOf S).length = leftR S := by unfold restOf leftR; split <;> rfl
/-- A slice that is a part of p's. -/
def Part (w : World) (p q : Option Addr) (m d : Nat) (M : List Nat) : Prop := Sl w q m d M ∧ From q p ∧ d ≤ maxLen
theorem Part.none (w : World) (p : Option Addr) : Part w p Option.none 0 0 [] := ⟨Sl.none, From.none _, Nat.zero_le _⟩
theorem Part.at_end {w : World} {p0 p : Option Addr} {m c s : Nat} {M : List Nat} (h : Part w p0 (if c = s then p else p.map fun a => a.add s) m (c - s) M) (e : c = s) : Part w p0 p m 0 M := by
  rw [if_pos e, e, Nat.sub_self] at h; exact h
theorem Part.within {w : World} {p0 p : Option Addr} {m c s : Nat} {M : List Nat} (h : Part w p0 (if c = s then p else p.map fun a => a.add s) m (c - s) M) (e : ¬ c = s) : Part w p0 (p.map fun a => a.add s) m (c - s) M := by
  rw [if_neg e] at h; exact h
theorem part_within2 {w : World} {p0 : Option Addr} {b off m c s : Nat} {M : List Nat} (h : Part w p0 (if c = s then some ⟨b, off, none⟩ else (some ⟨b, off, none⟩ : Option Addr).map fun a => a.add s) m (c - s) M) (e : ¬ c = s) : Part w p0 (some ⟨b, off + s, none⟩) m (c - s) M := by
  rw [if_neg e, Option.map_some, Go.WideShapes.add_plain] at h; exact h
theorem un_drop (l : List Nat) (j : Nat) (h : j < l.length) : un (l.drop j) = l.getD j 0 + 256 * un (l.drop (j + 1)) := by
  rw [List.drop_eq_getElem_cons h, un, List.getD, List.getElem?_eq_getElem h]
  rfl
/-- What GetNum answers. -/
def GotNum (w : World) (p : Option Addr) (R : St × Nat) (e : Ending) (w' : World) : Prop := ∃ q m d k, e = .returned (.tuple #[.int .u64 ((R.2 : Nat) : Int), .slice q m d, .int .i64 R.1.1]) ∧ Part w p q m d (restOf R.1) ∧ w' = w.drewN k
theorem getnum_bad (p : Option Addr) (n c : Nat) (L : List Nat) (size : Int) (w : World) (hs : ¬ (1 ≤ size ∧ size ≤ 8)) :
    Calls Tryz.prog 68 #[.slice p n c, .int .i64 size] w (GotNum w p (numR (0, L) size)) := by
  have hn : numR (0, L) size = ((1, L), 0) := by rw [numR, if_neg hs]; rfl
  rw [hn]
  clear hn
  by_cases h1 : size < 1
  · go_enter Tryz.func68, Tryz.ntmps68
    go_wp2_with fail
    go_ret3
    exact ⟨_, _, _, 0, rfl, Part.none w p, rfl⟩
  · have h8 : 8 < size := by omega
    go_enter Tryz.func68, Tryz.ntmps68
    go_wp2_with fail
    go_ret3
    exact ⟨_, _, _, 0, rfl, Part.none w p, rfl⟩
theorem getnum_short (p : Option Addr) (n c s : Nat) (L : List Nat) (w : World) (hS : Sl w p n c L) (h1 : 1 ≤ s) (h8 : s ≤ 8) (hn : n < s) :
    Calls Tryz.prog 68 #[.slice p n c, .int .i64 s] w (GotNum w p (numR (0, L) s)) := by
  have hnr : numR (0, L) s = ((6, L), 0) := by
    rw [numR, if_pos (by omega), Int.toNat_natCast, takeR, if_pos rfl, if_pos (by rw [hS.len]; exact hn)]
    rfl
  rw [hnr]
  clear hnr hS
  go_enter Tryz.func68, Tryz.ntmps68
  go_wp2_with fail
  go_ret3
  exact ⟨_, _, _, 0, rfl, Part.none w p, rfl⟩
theorem getnum_good (p : Option Addr) (n c s : Nat) (L : List Nat) (w : World) (hS : Sl w p n c L) (hc : c ≤ maxLen) (h1 : 1 ≤ s) (h8 : s ≤ 8) (hn : s ≤ n) :
    Calls Tryz.prog 68 #[.slice p n c, .int .i64 s] w (GotNum w p (numR (0, L) s)) := by
  have hnr : numR (0, L) s = ((0, L.drop s), un (L.take s)) := by
    rw [numR, if_pos (by omega), Int.toNat_natCast, takeR, if_pos rfl, if_neg (by rw [hS.len]; omega)]
  rw [hnr]
  have hp : Part w p (if c = s then p else p.map fun a => a.add s) (n - s) (c - s) (L.drop s) := ⟨hS.drop s hn, From.cut p c s, by omega⟩
  have HP := Lib.hid hp
  have htl : (L.take s).length = s := by rw [List.length_take, hS.len]; omega
  have hlt : ∀ y ∈ L.take s, y < 256 := fun y hy => hS.lt y (List.mem_of_mem_take hy)
  have hcap : n ≤ c := hS.cap
  have hc63 : c ≤ 9223372036854775807 := hc
  obtain ⟨b, off, rfl, hcell⟩ := (hS.take s hn).cell (by omega)
  have HC := Lib.hid hcell
  have HL := Lib.hid hlt
  have HT := Lib.hid htl
  clear hnr hp hS hcell hlt htl hc
  generalize L.take s = K at *
  go_enter Tryz.func68, Tryz.ntmps68
  go_wp2_with fail
  go_loop [7, 8] (fun x i => ∃ j : Nat, j ≤ s ∧ x = .int .u64 ((un (K.drop j) : Nat) : Int) ∧ i = .int .i64 ((j : Int) - 1)) (fun _ i => (intOf i + 1).toNat)
  case atStart => exact ⟨s, Nat.le_refl _, by rw [List.drop_of_length_le (by have := HT.out; omega)]; rfl, rfl⟩
  case round =>
    obtain ⟨j, hj, rfl, rfl⟩ := hrel
    by_cases h0 : 0 < j
    · obtain ⟨i, rfl⟩ : ∃ i, j = i + 1 := ⟨j - 1, by omega⟩
      have hci := HC.out i (by omega)
      have hz : K.getD i 0 < 256 := getD_lt HL.out i
      have hu := un_lt (K.drop (i + 1)) fun y hy => HL.out y (List.mem_of_mem_drop hy)
      have hdl : (K.drop (i + 1)).length ≤ 7 := by rw [List.length_drop]; have := HT.out; omega
      have hu2 : un (K.drop (i + 1)) < 72057594037927936 := Nat.lt_of_lt_of_le hu (Nat.le_trans (Nat.pow_le_pow_right (by omega) hdl) (by decide))
      have HU := Lib.hid (un_drop K i (by have := HT.out; omega))
      clear hu hdl
      generalize un (K.drop (i + 1)) = x at *
      generalize K.getD i 0 = z at *
      have e1 : ((i + 1 : Nat) : Int) - 1 = (i : Int) := by omega
      rw [e1]
      go_wp2_with fail
      go_round
      case rel => exact ⟨i, by omega, by rw [HU.out, Nat.add_comm z, Nat.mul_comm 256]; rfl, rfl⟩
      case measure => simp [intOf]
    · obtain rfl : j = 0 := by omega
      rw [List.drop_zero]
      go_wp2_with fail
      go_quiet (fail)
      go_wp2_with fail
      all_goals
        go_ret3
        exact ⟨_, _, _, _, rfl, by first | exact HP.out.at_end (by assumption) | exact part_within2 HP.out (by assumption), rfl⟩
theorem getnum_any (p : Option Addr) (n c : Nat) (L : List Nat) (size : Int) (w : World) (hS : Sl w p n c L) (hc : c ≤ maxLen) :
    Calls Tryz.prog 68 #[.slice p n c, .int .i64 size] w (GotNum w p (numR (0, L) size)) := by
  by_cases hs : 1 ≤ size ∧ size ≤ 8
  · obtain ⟨s, rfl⟩ : ∃ s : Nat, size = (s : Int) := ⟨size.toNat, by omega⟩
    by_cases hn : n < s
    · exact getnum_short p n c s L w hS (by omega) (by omega) hn
    · exact getnum_good p n c s L w hS hc (by omega) (by omega) (by omega)
  · exact getnum_bad p n c L size w hs
/-- What GetBool answers. -/
def GotBool (w : World) (p : Option Addr) (R : St × Bool) (e : Ending) (w' : World) : Prop := ∃ q m d k, e = .returned (.tuple #[.bool R.2, .slice q m d, .int .i64 R.1.1]) ∧ Part w p q m d (restOf R.1) ∧ w' = w.drewN k
theorem getbool_any (p : Option Addr) (n c : Nat) (L : List Nat) (w : World) (hS : Sl w p n c L) (hc : c ≤ maxLen) :
    Calls Tryz.prog 69 #[.slice p n c] w (GotBool w p (boolR (0, L))) := by
  have hc63 : c ≤ 9223372036854775807 := hc
  have hcap : n ≤ c := hS.cap
  by_cases hn : n < 1
  · have hnr : boolR (0, L) = ((6, L), false) := by
      have h : numR (0, L) 1 = ((6, L), 0) := by
        rw [numR, if_pos (by omega), takeR, if_pos rfl, if_pos (by rw [hS.len]; exact hn)]
        rfl
      rw [boolR, h]
      rfl
    rw [hnr]
    clear hnr hS hc
    go_enter Tryz.func69, Tryz.ntmps69
    go_wp2_with fail
    go_ret3
    exact ⟨_, _, _, 0, rfl, Part.none w p, rfl⟩
  · have hp : Part w p (if c = 1 then p else p.map fun a => a.add 1) (n - 1) (c - 1) (L.drop 1) := ⟨hS.drop 1 (by omega), From.cut p c 1, by omega⟩
    have HP := Lib.hid hp
    obtain ⟨b, off, rfl, hcell⟩ := hS.cell (by omega)
    have h0 := hcell 0 (by omega)
    rw [Nat.add_zero] at h0
    obtain ⟨y, l, rfl⟩ : ∃ y l, L = y :: l := by
      cases L with
      | nil => have := hS.len; simp at this; omega
      | cons y l => exact ⟨y, l, rfl⟩
    have hy : y < 256 := hS.lt y (List.mem_cons_self ..)
    replace h0 : w.cell? ⟨b, off, none⟩ = some (.int .u8 ((y : Nat) : Int)) := h0
    have hnum : numR (0, y :: l) 1 = ((0, l), y) := by
      have := numR_le y 1 l (by omega) (by omega) (by omega)
      rw [show le y 1 ++ l = y :: l by simp [le, Nat.mod_eq_of_lt hy]] at this
      exact this
    replace HP : Hid (Part w (some ⟨b, off, none⟩) (if c = 1 then some ⟨b, off, none⟩ else (some ⟨b, off, none⟩ : Option Addr).map fun a => a.add 1) (n - 1) (c - 1) l) := HP
    by_cases hy1 : 1 < y
    · have hb : boolR (0, y :: l) = ((8, l), false) := by rw [boolR, hnum, if_pos hy1]; rfl
      rw [hb]
      clear hb hp hS hcell hc hnum HP
      go_enter Tryz.func69, Tryz.ntmps69
      go_wp2_with fail
      go_ret3
      exact ⟨_, _, _, 0, rfl, Part.none w _, rfl⟩
    · have hb : boolR (0, y :: l) = ((0, l), y == 1) := by rw [boolR, hnum, if_neg hy1]
      rw [hb]
      have HE : Hid (((y : Int) == 1) = (y == 1)) := Lib.hid (by rw [Bool.eq_iff_iff]; simp; omega)
      clear hb hp hS hcell hc hnum
      go_enter Tryz.func69, Tryz.ntmps69
      go_wp2_with fail
      go_quiet (fail)
      go_wp2_with fail
      all_goals
        go_ret3
        refine ⟨_, _, _, _, ?_, by first | exact HP.out.at_end (by assumption) | exact part_within2 HP.out (by assumption), rfl⟩
        rw [← HE.out]
        rfl
/-- What GetBytes answers. -/
def GotBytes (w : World) (p : Option Addr) (R : St × List Nat) (e : Ending) (w' : World) : Prop := ∃ t tm td q m d k, e = .returned (.tuple #[.slice t tm td, .slice q m d, .int .i64 R.1.1]) ∧ Part w p t tm td R.2 ∧ Part w p q m d (restOf R.1) ∧ w' = w.drewN k
theorem getbytes_any (p : Option Addr) (n c : Nat) (L : List Nat) (most : Int) (w : World) (hS : Sl w p n c L) (hc : c ≤ maxLen) :
    Calls Tryz.prog 70 #[.slice p n c, .int .i64 most] w (GotBytes w p (bytesR (0, L) most)) := by
  have HN := Lib.hid (getnum_any p n c L 2 w hS hc)
  have hx : (numR (0, L) 2).2 < 65536 := by
    show (if (1 : Int) ≤ 2 ∧ (2 : Int) ≤ 8 then ((takeR (0, L) 2).1, un (takeR (0, L) 2).2) else _).2 < 65536
    rw [if_pos (by omega)]
    show un (takeR (0, L) 2).2 < 65536
    have a := un_lt _ (takeR_lt (0, L) 2 hS.lt)
    have b : 256 ^ (takeR (0, L) 2).2.length ≤ 256 ^ 2 := Nat.pow_le_pow_right (by omega) (takeR_len _ _)
    omega
  unfold bytesR
  generalize numR (0, L) 2 = R at *
  obtain ⟨⟨x, M⟩, y⟩ := R
  replace hx : y < 65536 := hx
  show Calls _ _ _ _ (GotBytes w p (takeR (if most < (y : Int) then bad 7 (x, M) else (x, M)) y))
  clear hS
  by_cases h0 : x = 0
  · subst h0
    by_cases hm : most < (y : Int)
    · have e : takeR (if most < (y : Int) then bad 7 (0, M) else (0, M)) y = ((7, M), []) := by rw [if_pos hm]; rfl
      rw [e]
      clear e
      go_enter Tryz.func70, Tryz.ntmps70
      go_wp2_with fail
      refine HN.out.mono ?_
      rintro e w1 ⟨q, m, d, k, rfl, hp, rfl⟩
      clear hp
      go_wp2_with fail
      go_ret3
      exact ⟨_, _, _, _, _, _, _, rfl, Part.none w p, Part.none w p, rfl⟩
    · by_cases hl : M.length < y
      · have e : takeR (if most < (y : Int) then bad 7 (0, M) else (0, M)) y = ((6, M), []) := by rw [if_neg hm, takeR, if_pos rfl, if_pos hl]
        rw [e]
        clear e
        go_enter Tryz.func70, Tryz.ntmps70
        go_wp2_with fail
        refine HN.out.mono ?_
        rintro e w1 ⟨q, m, d, k, rfl, hp, rfl⟩
        have hml : m < y := by have : M.length = m := hp.1.len; omega
        clear hp
        go_wp2_with fail
        go_ret3
        exact ⟨_, _, _, _, _, _, _, rfl, Part.none w p, Part.none w p, rfl⟩
      · have e : takeR (if most < (y : Int) then bad 7 (0, M) else (0, M)) y = ((0, M.drop y), M.take y) := by rw [if_neg hm, takeR, if_pos rfl, if_neg hl]
        rw [e]
        clear e
        go_enter Tryz.func70, Tryz.ntmps70
        go_wp2_with fail
        refine HN.out.mono ?_
        rintro e w1 ⟨q, m, d, k, rfl, hp, rfl⟩
        have hml : y ≤ m := by have : M.length = m := hp.1.len; omega
        have hsm : Sl w q m d M := hp.1
        have hmd : m ≤ d := hsm.cap
        have hd63 : d ≤ 9223372036854775807 := hp.2.2
        have h1 : Part w p q y d (M.take y) := ⟨hsm.take y hml, hp.2.1, hp.2.2⟩
        have h2 : Part w p (if d = y then q else q.map fun a => a.add y) (m - y) (d - y) (M.drop y) := ⟨hsm.drop y hml, (From.cut q d y).trans hp.2.1, by have := hp.2.2; omega⟩
        have H1 := Lib.hid h1
        have H2 := Lib.hid h2
        have hmi : (y : Int) ≤ (m : Int) := by omega
        have hdi : (y : Int) ≤ (d : Int) := by omega
        have ey : IntKind.i64.wrap (y : Int) = (y : Int) := by rw [IntKind.wrap_i64]; omega
        clear hp h1 h2 hsm hl
        go_wp2_with fail
        go_quiet (fail)
        go_wp2_with fail
        all_goals
          go_ret3
          exact ⟨_, _, _, _, _, _, _, rfl, by first | exact H1.out | exact (show d = y by assumption) ▸ H1.out, by first | exact H2.out.at_end (by assumption) | exact H2.out.within (by assumption), rfl⟩
  · have e : takeR (if most < (y : Int) then bad 7 (x, M) else (x, M)) y = ((x, M), []) := by
      have : (if most < (y : Int) then bad 7 (x, M) else (x, M)) = (x, M) := by
        split
        · exact if_neg h0
        · rfl
      rw [this, takeR, if_neg (show ¬ (x, M).1 = 0 from h0)]
    rw [e]
    have hx1 : (x != 0) = true := by simpa using h0
    have hr : restOf (x, M) = [] := if_neg h0
    have HR := Lib.hid hr
    clear e hr h0
    go_enter Tryz.func70, Tryz.ntmps70
    go_wp2_with fail
    refine HN.out.mono ?_
    rintro e w1 ⟨q, m, d, k, rfl, hp, rfl⟩
    clear hp
    go_wp2_with fail
    go_ret3
    exact ⟨_, _, _, _, _, _, _, rfl, Part.none w p, by rw [HR.out]; exact Part.none w p, rfl⟩
end Go.Proofs.YtdcanppiiikjgaaGreatDoor
namespace Go.Proofs.YtdcanppiiikjgaaGreatDoor
open Go.RowKit Go.ChangeShapes Go.WideShapes
set_option linter.unusedVariables false
set_option maxRecDepth 10000

theorem rnum_any (x n : Nat) (w : World) (hx : x < 18446744073709551616) (hn : n ≤ 8) :
    Calls Tryz.prog 30 #[.int .u64 (x : Int), .int .i64 n] w (Copied w n (le x n)) := by
  have HO := Lib.hid (own_none w)
  have HB : Hid (Below w.heap.size w (w.alloc (.cells #[] 5))) := Lib.hid ((Below.refl _ _).alloc (Nat.le_refl _) _)
  go_enter Tryz.func30, Tryz.ntmps30
  go_wp2_with fail
  go_loopw [0, 5, 6] (fun y v i wr => ∃ (j : Nat) (p : Option Addr) (c : Nat), j ≤ n ∧ i = .int .i64 j ∧ y = .int .u64 ((x / 256 ^ j : Nat) : Int) ∧ v = .slice p j c ∧ Row wr (.slice p j c) j (le x j) ∧ Below w.heap.size w wr ∧ ∀ k, (Value.slice p j c).ownBlock = some k → w.heap.size ≤ k) (fun _ _ i _ => n - (intOf i).toNat)
  case atStart => exact ⟨0, _, _, Nat.zero_le _, rfl, by simp, rfl, HO.out, HB.out, fun k hk => by simp [Value.ownBlock] at hk; omega⟩
  case round =>
    obtain ⟨j, p, c, hj, rfl, rfl, rfl, hr, hb, ho⟩ := hrel
    have HR := Lib.hid hr
    have HBB := Lib.hid hb
    have HOO := Lib.hid ho
    clear hr hb ho
    have hlt2 : x / 256 ^ j < 18446744073709551616 := Nat.lt_of_le_of_lt (Nat.div_le_self _ _) hx
    by_cases hlt : j < n
    · have HN : Hid (x / 256 ^ (j + 1) = x / 256 ^ j / 256) := Lib.hid (by rw [Nat.pow_succ, Nat.div_div_eq_div_mul])
      have HS := Lib.hid (le_snoc j x)
      generalize hy : x / 256 ^ (j + 1) = z at *
      have HY := Lib.hid hy
      clear hy
      generalize x / 256 ^ j = y at *
      have HRA : Hid (Row (wr.alloc (.cells #[.int .u8 ((y : Int) % 256)] 5)) (.slice p j c) j (le x j)) := Lib.hid (HR.out.chg ((Chg.refl (fun _ => False) _).alloc _) fun _ _ h => h)
      have HSA : Hid (Sl (wr.alloc (.cells #[.int .u8 ((y : Int) % 256)] 5)) (some ⟨wr.heap.size, 0, none⟩) 1 1 [y % 256]) := Lib.hid (by have := sl_one (y % 256) (by omega) wr; rw [show (((y % 256 : Nat) : Int)) = (y : Int) % 256 by omega] at this; exact this)
      go_wp2_with (at_builtin; refine wpList_append_row rfl _ _ rfl _ _ (le x j) rfl HRA.out _ _ _ [y % 256] rfl HSA.out (by omega) ?_)
      intro v' w' hr hc hk
      rw [← HS.out] at hr
      obtain ⟨p', c', rfl, _⟩ := hr.sl
      have HF : Hid (Row w' (.slice p' (j + 1) c') (j + 1) (le x (j + 1)) ∧ Below w.heap.size w w' ∧ ∀ k, (Value.slice p' (j + 1) c').ownBlock = some k → w.heap.size ≤ k) := Lib.hid ⟨hr, hc.below (HBB.out.alloc HBB.out.size _) (Nat.le_trans HBB.out.size (by simp)) HOO.out, fun k hk' => by
        rcases hk k hk' with h | h
        · exact HOO.out k h
        · have := HBB.out.size; omega⟩
      clear hr hc hk
      go_wp2_with fail
      go_roundw
      case rel => exact ⟨j + 1, p', c', by omega, by go_num, by rw [HY.out, HN.out]; congr 1, rfl, HF.out.1, HF.out.2.1, HF.out.2.2⟩
      case measure => simp [intOf]; omega
    · obtain rfl : j = n := by omega
      go_wp2_with fail
      go_ret
      exact ⟨_, rfl, HR.out, HBB.out, HOO.out⟩
theorem rint_any (x : Nat) (w : World) (hx : x < 18446744073709551616) :
    Calls Tryz.prog 34 #[.int .i64 (sgn x)] w (Copied w 8 (le x 8)) := by
  have HN := Lib.hid (rnum_any x 8 w hx (Nat.le_refl _))
  have HS := Lib.hid (wrap_sgn x hx)
  go_enter Tryz.func34, Tryz.ntmps34
  go_wp2_with fail
  rw [HS.out]
  refine HN.out.mono ?_
  rintro e w1 ⟨v, rfl, h1, h2, h3⟩
  have HF : Hid (∃ v', v' = v ∧ Row w1 v' 8 (le x 8) ∧ Below w.heap.size w w1 ∧ ∀ k, v'.ownBlock = some k → w.heap.size ≤ k) := Lib.hid ⟨v, rfl, h1, h2, h3⟩
  clear h1 h2 h3
  go_wp2_with fail
  go_ret
  obtain ⟨v', rfl, h1, h2, h3⟩ := HF.out
  exact ⟨_, rfl, h1, h2, h3⟩
theorem rbool_any (b : Bool) (w : World) :
    Calls Tryz.prog 33 #[.bool b] w fun e w' => ∃ q d, e = .returned (.slice q 1 d) ∧ Sl w' q 1 d [bit b] ∧ Below w.heap.size w w' := by
  cases b with
  | true =>
    have HS := Lib.hid (sl_one 1 (by omega) w)
    have HB : Hid (Below w.heap.size w (w.alloc (.cells #[.int .u8 1] 5))) := Lib.hid ((Below.refl _ _).alloc (Nat.le_refl _) _)
    go_enter Tryz.func33, Tryz.ntmps33
    go_wp2_with fail
    go_ret
    exact ⟨_, _, rfl, HS.out, HB.out⟩
  | false =>
    have HS := Lib.hid (sl_one 0 (by omega) w)
    have HB : Hid (Below w.heap.size w (w.alloc (.cells #[.int .u8 0] 5))) := Lib.hid ((Below.refl _ _).alloc (Nat.le_refl _) _)
    go_enter Tryz.func33, Tryz.ntmps33
    go_wp2_with fail
    go_ret
    exact ⟨_, _, rfl, HS.out, HB.out⟩
theorem rbytes_any (p : Option Addr) (m c : Nat) (L : List Nat) (w : World) (hs : Sl w p m c L) (hm : m ≤ 65535) :
    Calls Tryz.prog 31 #[.slice p m c] w (Copied w (2 + m) (le m 2 ++ L)) := by
  have HN := Lib.hid (rnum_any m 2 w (by omega) (by omega))
  have HS := Lib.hid hs
  clear hs
  go_enter Tryz.func31, Tryz.ntmps31
  go_wp2_with fail
  refine HN.out.mono ?_
  rintro e w1 ⟨v, rfl, h1, h2, h3⟩
  have HR := Lib.hid h1
  have HB := Lib.hid h2
  have HO := Lib.hid h3
  have HS1 := Lib.hid (HS.out.later h2)
  obtain ⟨pv, cv, rfl, _⟩ := h1.sl
  clear h1 h2 h3
  go_wp2_with (at_builtin; refine wpList_append_row rfl _ _ rfl _ _ (le m 2) rfl HR.out _ _ _ L rfl HS1.out (by omega) ?_)
  intro v' w' hr hc hk
  obtain ⟨p', c', rfl, _⟩ := hr.sl
  have HF : Hid (Row w' (.slice p' (2 + m) c') (2 + m) (le m 2 ++ L) ∧ Below w.heap.size w w' ∧ ∀ k, (Value.slice p' (2 + m) c').ownBlock = some k → w.heap.size ≤ k) := Lib.hid ⟨hr, hc.below HB.out HB.out.size HO.out, fun k hk' => by
    rcases hk k hk' with h | h
    · exact HO.out k h
    · exact Nat.le_trans HB.out.size h⟩
  clear hr hc hk
  go_wp2_with fail
  go_ret
  exact ⟨_, rfl, HF.out⟩
/-- What told answers. -/
def Told (w : World) (A : List Nat × Int) (e : Ending) (w' : World) : Prop := ∃ q m d, e = .returned (.tuple #[.slice q m d, .int .i64 A.2]) ∧ Sl w' q m d A.1 ∧ Below w.heap.size w w'
end Go.Proofs.YtdcanppiiikjgaaGreatDoor
