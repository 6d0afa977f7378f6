/- The writer of layer wire: New, Raw, Len, Done. -/
import Derived.Test.YtppmokkbepihhaaDoorWireLeaf
import Derived.LoopTactic
import Derived.IntWalk
namespace Go.Proofs.YtppmokkbepihhaaDoor
open Go.RowKit Go.ChangeShapes Go.WideShapes
set_option linter.unusedVariables false
set_option maxRecDepth 10000

theorem Wr.c0 {w : World} {B : Nat} {v : Value} {most : Int} {S : St} (h : Wr w B v most S) : w.cell? ⟨B, 0, none⟩ = some (.int .i64 S.1) := cell_of_block h.blk rfl
theorem Wr.c1 {w : World} {B : Nat} {v : Value} {most : Int} {S : St} (h : Wr w B v most S) : w.cell? ⟨B, 1, none⟩ = some (.int .i64 most) := cell_of_block h.blk rfl
theorem Wr.c2 {w : World} {B : Nat} {v : Value} {most : Int} {S : St} (h : Wr w B v most S) : w.cell? ⟨B, 2, none⟩ = some v := cell_of_block h.blk rfl
theorem Wr.free {w : World} {B : Nat} {v : Value} {most : Int} {S : St} (h : Wr w B v most S) (j : Nat) : w.frozen? ⟨B, j, none⟩ = false := free_of_block j h.blk
theorem Wr.drewN {w : World} {B : Nat} {v : Value} {most : Int} {S : St} (h : Wr w B v most S) (q : Nat) : Wr (w.drewN q) B v most S := ⟨h.blk, h.row.keep fun _ _ => rfl, h.ne⟩
/-- What becomes of a writer: its own block and its row may be written; the row is the old one or a new one. -/
structure Wrote (w : World) (B : Nat) (v : Value) (most : Int) (S : St) (w' : World) : Prop where
  wr : ∃ v', Wr w' B v' most S ∧ ∀ k, v'.ownBlock = some k → v.ownBlock = some k ∨ w.heap.size ≤ k
  chg : Chg (fun k => k = B ∨ v.ownBlock = some k) w w'
theorem Wrote.same {w : World} {B : Nat} {v : Value} {most : Int} {S : St} (h : Wr w B v most S) : Wrote w B v most S w := ⟨⟨v, h, fun k hk => .inl hk⟩, Chg.refl _ _⟩
/-- What a writer's call leaves. -/
def Wrot (w : World) (B : Nat) (v : Value) (most : Int) (S : St) (e : Ending) (w' : World) : Prop := e = .returned (.tuple #[]) ∧ Wrote w B v most S w'
theorem Wr.fault {w : World} {B : Nat} {v : Value} {most : Int} {S : St} (h : Wr w B v most S) (x : Int) : Wrote w B v most (x, S.2) (w.setCell ⟨B, 0, none⟩ (.int .i64 x)) :=
  ⟨⟨v, ⟨block_set 0 _ h.blk, h.row.keep fun k hk => Below.heap_setCell _ _ _ _ fun e => h.ne (by rw [hk, e]), h.ne⟩, fun k hk => .inl hk⟩, (Chg.refl _ _).setCell _ _ fun _ => .inl rfl⟩
theorem Wrote.before {a b c : World} {B : Nat} {v : Value} {most : Int} {S : St} (hc : Chg (fun _ => False) a b) (h : Wrote b B v most S c) : Wrote a B v most S c := by
  obtain ⟨v', h1, h2⟩ := h.wr
  refine ⟨⟨v', h1, fun k hk => ?_⟩, (hc.mono (T := fun k => k = B ∨ v.ownBlock = some k) fun _ _ h => h.elim).trans h.chg fun _ _ h => h⟩
  rcases h2 k hk with h | h
  · exact .inl h
  · exact .inr (Nat.le_trans hc.size h)
theorem note_wr (B : Nat) (v : Value) (most : Int) (S : St) (x : Int) (w : World) (h : Wr w B v most S) :
    Calls Tryd.prog 30 #[.pointer (some ⟨B, 0, none⟩), .int .i64 x] w (Wrot w B v most (bad x S)) := by
  obtain ⟨y, L⟩ := S
  by_cases hy : y = 0
  · subst hy
    refine (note_first B x w h.c0 (h.free 0)).mono ?_
    rintro e w' ⟨rfl, rfl⟩
    exact ⟨rfl, h.fault x⟩
  · have hb : bad x (y, L) = (y, L) := if_neg hy
    rw [hb]
    refine (note_more B y x w h.c0 (by simpa using hy)).mono ?_
    rintro e w' ⟨rfl, rfl⟩
    exact ⟨rfl, Wrote.same h⟩
theorem new_any (m : Int) (w : World) :
    Calls Tryd.prog 16 #[.int .i64 m] w fun e w' => e = .returned (.pointer (some ⟨w.heap.size, 0, none⟩)) ∧ w' = w.alloc (.cells #[.int .i64 0, .int .i64 (if m < 0 then 0 else m), .slice none 0 0] 64) := by
  go_enter Tryd.func16, Tryd.ntmps16
  go_wp2_with fail
  all_goals (go_ret; exact ⟨rfl, rfl⟩)
theorem new_wr (w : World) (m : Int) : Wr (w.alloc (.cells #[.int .i64 0, .int .i64 m, .slice none 0 0] 64)) w.heap.size (.slice none 0 0) m (0, []) :=
  ⟨heap_alloc_new w _, Row.nil _, fun h => by cases h⟩
theorem raw_full (B : Nat) (v : Value) (most x : Int) (L : List Nat) (w : World) (h : Wr w B v most (x, L)) (hx : (x == 0) = false) (p : Option Addr) (m c : Nat) :
    Calls Tryd.prog 31 #[.pointer (some ⟨B, 0, none⟩), .slice p m c] w fun e w' => e = .returned (.tuple #[]) ∧ w = w' := by
  have h0 : w.cell? ⟨B, 0, none⟩ = some (.int .i64 x) := h.c0
  have hx' : (x != 0) = true := by simpa using hx
  clear h
  go_enter Tryd.func31, Tryd.ntmps31
  go_wp2_with fail
  refine bodyPost_ret (results_none rfl _ _ _) rfl ?_
  exact ⟨rfl, rfl⟩
theorem raw_long (B : Nat) (v : Value) (most : Int) (L : List Nat) (w : World) (h : Wr w B v most (0, L)) (p : Option Addr) (m c : Nat) (h0 : 0 ≤ most) (h9 : most ≤ 9223372036854775807) (hl : L.length ≤ 1000000) (hm : m ≤ 1000000) (hlong : most < (L.length : Int) + (m : Int)) :
    Calls Tryd.prog 31 #[.pointer (some ⟨B, 0, none⟩), .slice p m c] w (Wrot w B v most (7, L)) := by
  have H := Lib.hid h
  have c0 : w.cell? ⟨B, 0, none⟩ = some (.int .i64 0) := h.c0
  have c1 := h.c1
  have c2 := h.c2
  obtain ⟨pv, cv, rfl, _⟩ := h.row.sl
  clear h
  replace c2 : w.cell? ⟨B, 2, none⟩ = some (.slice pv L.length cv) := c2
  have H2 : Hid (∀ q, Calls Tryd.prog 30 #[.pointer (some ⟨B, 0, none⟩), .int .i64 7] (w.drewN q) (Wrot (w.drewN q) B (.slice pv L.length cv) most (7, L))) := Lib.hid fun q => note_wr B _ most (0, L) 7 _ (H.out.drewN q)
  generalize hn : L.length = n at *
  have HN := Lib.hid hn
  clear hn
  have e1 : IntKind.i64.wrap (most - (n : Int)) = most - (n : Int) := IntWalk.i64_in _ (by omega)
  have e2 : most - (n : Int) < (m : Int) := by omega
  go_enter Tryd.func31, Tryd.ntmps31
  go_wp2_with fail
  go_quiet (fail)
  go_wp2_with fail
  refine (H2.out _).mono ?_
  rintro e w1 ⟨rfl, hw⟩
  have HW := Lib.hid hw
  clear hw
  go_wp2_with fail
  refine bodyPost_ret (results_none rfl _ _ _) rfl ?_
  exact ⟨rfl, HW.out.before ((Chg.refl _ _).drewN _)⟩
theorem Wr.push {w w' : World} {B : Nat} {v v' : Value} {most : Int} {L M : List Nat} {n q : Nat} (h : Wr w B v most (0, L)) (hr : Row w' v' n (L ++ M)) (hc : Chg (fun k => v.ownBlock = some k) (w.drewN q) w')
    (hk : ∀ k, v'.ownBlock = some k → v.ownBlock = some k ∨ w.heap.size ≤ k) : w'.frozen? ⟨B, 2, none⟩ = false ∧ w'.cell? ⟨B, 2, none⟩ = some v ∧ Wrote w B v most (0, L ++ M) (w'.setCell ⟨B, 2, none⟩ v') := by
  have hb : w'.heap[B]? = some (.cells #[.int .i64 0, .int .i64 most, v] 64 (0, 0)) := by
    rw [hc.block B h.lt h.ne, World.heap_drewN]; exact h.blk
  have hne : v'.ownBlock ≠ some B := fun e => by
    rcases hk B e with h' | h'
    · exact h.ne h'
    · have := h.lt; omega
  refine ⟨free_of_block 2 hb, cell_of_block hb rfl, ⟨v', ⟨block_set 2 v' hb, ?_, hne⟩, hk⟩, ?_⟩
  · have := hr.len
    subst this
    exact hr.keep fun k hk' => Below.heap_setCell _ _ _ _ fun e => hne (by rw [hk', e])
  · exact (((Chg.refl (fun _ => False) w).drewN q).mono (T := fun k => k = B ∨ v.ownBlock = some k) fun _ _ h => h.elim).trans ((hc.mono (T := fun k => k = B ∨ v.ownBlock = some k) fun _ _ h => .inr h).setCell _ _ fun _ => .inl rfl) fun _ _ h => h
theorem raw_good (B : Nat) (v : Value) (most : Int) (L : List Nat) (w : World) (h : Wr w B v most (0, L)) (p : Option Addr) (m c : Nat) (M : List Nat) (hs : Sl w p m c M) (h0 : 0 ≤ most) (h9 : most ≤ 9223372036854775807) (hl : L.length + m ≤ 1000000) (hlong : (L.length : Int) + (m : Int) ≤ most) :
    Calls Tryd.prog 31 #[.pointer (some ⟨B, 0, none⟩), .slice p m c] w (Wrot w B v most (0, L ++ M)) := by
  have H := Lib.hid h
  have c0 : w.cell? ⟨B, 0, none⟩ = some (.int .i64 0) := h.c0
  have c1 := h.c1
  have c2 := h.c2
  obtain ⟨pv, cv, hv, _⟩ := h.row.sl
  subst hv
  have HR : Hid (∀ q, Row (w.drewN q) (.slice pv L.length cv) L.length L) := Lib.hid fun q => (h.drewN q).row
  have HS : Hid (∀ q, Sl (w.drewN q) p m c M) := Lib.hid fun q => hs.keep fun _ _ _ => rfl
  clear h hs
  replace c2 : w.cell? ⟨B, 2, none⟩ = some (.slice pv L.length cv) := c2
  generalize hn : L.length = n at *
  have HN := Lib.hid hn
  clear hn
  have e1 : IntKind.i64.wrap (most - (n : Int)) = most - (n : Int) := IntWalk.i64_in _ (by omega)
  have e2 : ¬ (most - (n : Int) < (m : Int)) := by omega
  go_enter Tryd.func31, Tryd.ntmps31
  go_wp2_with fail
  go_quiet (fail)
  clear e1
  go_wp2_with (at_builtin; refine wpList_append_row rfl _ _ rfl _ _ L rfl (HR.out _) _ _ _ M rfl (HS.out _) (by omega) ?_)
  intro v' w' hr hc hk
  obtain ⟨hf, hcell, hw⟩ := H.out.push hr hc hk
  obtain ⟨p', c', rfl, _⟩ := hr.sl
  have HW := Lib.hid hw
  clear hr hc hk hw
  go_wp2_with fail
  go_end0
  exact ⟨rfl, HW.out⟩
theorem raw_any (B : Nat) (v : Value) (most : Int) (S : St) (w : World) (h : Wr w B v most S) (p : Option Addr) (m c : Nat) (M : List Nat) (hs : Sl w p m c M) (h0 : 0 ≤ most) (h9 : most ≤ 9223372036854775807) (hl : S.2.length + m ≤ 1000000) :
    Calls Tryd.prog 31 #[.pointer (some ⟨B, 0, none⟩), .slice p m c] w (Wrot w B v most (rawW most S M)) := by
  obtain ⟨x, L⟩ := S
  replace hl : L.length + m ≤ 1000000 := hl
  have hM := hs.len
  unfold rawW
  by_cases hx : x = 0
  · subst hx
    rw [if_pos rfl]
    by_cases hlong : most < (L.length : Int) + (m : Int)
    · rw [if_pos (by rw [hM]; exact hlong)]
      exact raw_long B v most L w h p m c h0 h9 (by omega) (by omega) hlong
    · rw [if_neg (by rw [hM]; exact hlong)]
      exact raw_good B v most L w h p m c M hs h0 h9 hl (by omega)
  · rw [if_neg (show ¬ (x, L).1 = 0 from hx)]
    refine (raw_full B v most x L w h (by simpa using hx) p m c).mono ?_
    rintro e w' ⟨rfl, rfl⟩
    exact ⟨rfl, Wrote.same h⟩
/-- What Done leaves. -/
def Doned (w : World) (S : St) (e : Ending) (w' : World) : Prop := Below w.heap.size w w' ∧ if S.1 = 0 then ∃ v, e = .returned (.tuple #[v, .int .i64 0]) ∧ Row w' v S.2.length S.2 ∧ ∀ k, v.ownBlock = some k → w.heap.size ≤ k else e = .returned (.tuple #[.slice none 0 0, .int .i64 S.1])
theorem done_any (B : Nat) (v : Value) (most : Int) (S : St) (w : World) (h : Wr w B v most S) (hl : S.2.length ≤ 100000) :
    Calls Tryd.prog 19 #[.pointer (some ⟨B, 0, none⟩)] w (Doned w S) := by
  obtain ⟨x, L⟩ := S
  have c0 : w.cell? ⟨B, 0, none⟩ = some (.int .i64 x) := h.c0
  have c2 := h.c2
  obtain ⟨p, c, rfl, _, hs, _⟩ := h.row.sl
  have HC := Lib.hid (clone_any p _ c _ w hs hl)
  clear h hs hl
  by_cases hx : x = 0
  · subst hx
    go_enter Tryd.func19, Tryd.ntmps19
    go_wp2_with fail
    refine HC.out.mono ?_
    rintro e w1 ⟨v, rfl, h1, h2, h3⟩
    have HB := Lib.hid h2
    have HV : Hid (∃ v', v' = v ∧ Row w1 v' L.length L ∧ ∀ k, v'.ownBlock = some k → w.heap.size ≤ k) := Lib.hid ⟨v, rfl, h1, h3⟩
    clear h1 h2 h3
    go_wp2_with fail
    go_ret2
    obtain ⟨v', rfl, h1, h2⟩ := HV.out
    refine ⟨HB.out, ?_⟩
    rw [if_pos rfl]
    exact ⟨_, rfl, h1, h2⟩
  · have hx1 : (x == 0) = false := by simpa using hx
    have hx2 : (x != 0) = true := by simpa using hx
    go_enter Tryd.func19, Tryd.ntmps19
    go_wp2_with fail
    go_quiet (fail)
    go_wp2_with fail
    go_ret2
    refine ⟨below_drewN (Below.refl _ _) _, ?_⟩
    rw [if_neg (show ¬ (x, L).1 = 0 from hx)]
    rfl
end Go.Proofs.YtppmokkbepihhaaDoor
