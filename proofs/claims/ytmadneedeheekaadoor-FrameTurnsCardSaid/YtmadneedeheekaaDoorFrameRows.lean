/- append onto a row of any kind, with where the new row lies; three rows side by side. -/
import Derived.Test.YtmadneedeheekaaDoorFrameList
import Derived.Maps.AppendAt
import Derived.Laws.AppendOwnNone
namespace Go.Proofs.YtmadneedeheekaaDoor
open Go.RowKit Go.ChangeShapes Go.WideShapes
set_option linter.unusedVariables false
set_option maxRecDepth 10000
set_option linter.unusedSimpArgs false

theorem own_keep {w w' : World} {T : TypeId} {k : Nat} {v : Value} {n : Nat} {xs : List Value} {S : Nat → Prop} (h : w.ownsRow 0 T k v n xs) (hc : Chg S w w') (hs : ∀ b, v.ownBlock = some b → ¬ S b) : w'.ownsRow 0 T k v n xs := by
  have hb : ∀ b, v.ownBlock = some b → w'.heap[b]? = w.heap[b]? := fun b hk => hc.block b (h.lt b hk).2 (hs b hk)
  refine ⟨h.1, ?_⟩
  rcases h.2 with hn | ⟨g, cap, cur, rfl, h1, h2, h3⟩
  · exact .inl hn
  · exact .inr ⟨g, cap, cur, rfl, h1, by rw [hb g rfl]; exact h2, h3⟩
/-- What append does: the row behind, and where it lies. -/
theorem run_append_vals {w : World} {T S ty : TypeId} {k bytes : Nat} {z : Value} (hk0 : 0 < k) (hu : Tryd.prog.underlying S = some (.slice T)) (hinfo : (Tryd.prog.info? T).map (fun i => (i.zero, i.size, i.bytes)) = some (some z, k, bytes)) (hz : z.cells.size = k) (hby : bytes ≤ 1000)
    {v : Value} {n : Nat} {xs : List Value} (hr : w.ownsRow 0 T k v n xs) {p : Option Addr} {m c : Nat} {news : List Value} (hl : news.length = m * k) (hnone : p = none → m = 0 ∧ c = 0) (hnews : ∀ ad, p = some ad → ∀ j u, news[j]? = some u → w.cell? (ad.add j) = some u) (h1 : ∀ u ∈ news, u.oneCell' = true) (hbig : n + m ≤ 1000000) :
    ∃ p' c' w', (Builtin.append_ #[S, S] ty #[v, .slice p m c]).run Tryd.prog w = .ok (.slice p' (n + m) c') w' ∧ w'.ownsRow 0 T k (.slice p' (n + m) c') (n + m) (xs ++ news) ∧ Chg (fun b => v.ownBlock = some b) w w' ∧
      (∀ b, (Value.slice p' (n + m) c').ownBlock = some b → v.ownBlock = some b ∨ w.heap.size ≤ b) := by
  obtain ⟨i, hi, hz0, hz1, hz2⟩ := info_parts hinfo
  cases p with
  | none =>
    obtain ⟨rfl, rfl⟩ := hnone rfl
    obtain rfl : news = [] := List.eq_nil_of_length_eq_zero (by omega)
    obtain ⟨p', c', rfl⟩ : ∃ p' c', v = .slice p' n c' := by
      rcases hr.2 with ⟨rfl, rfl⟩ | ⟨g, cap, cur, rfl, _⟩
      · exact ⟨_, _, rfl⟩
      · exact ⟨_, _, rfl⟩
    have hrun := run_append_owned_none (P := Tryd.prog) (w := w) 0 S ty T i k hu hi (.slice p' n c') n xs hr
    refine ⟨p', c', w, hrun, ?_, Chg.refl _ _, fun k hk => .inl hk⟩
    rw [List.append_nil, Nat.add_zero]; exact hr
  | some ad =>
    have hbb : (n + m) * bytes ≤ 1000000 * 1000 := Nat.mul_le_mul hbig hby
    obtain ⟨v', w', hrun, h1, h2, h3, h4⟩ := run_append_own_at (P := Tryd.prog) w 0 S ty T i z k bytes hu hi hz0 hz1 hz2 hz hk0 v n xs hr ad m c news hl (hnews ad rfl) h1 (by unfold maxLen; omega) (by omega) (Nat.zero_le _)
    obtain ⟨p', c', rfl⟩ : ∃ p' c', v' = .slice p' (n + m) c' := by
      rcases h1.2 with ⟨rfl, h0⟩ | ⟨g, cap, cur, rfl, _⟩
      · rw [h0]; exact ⟨_, _, rfl⟩
      · exact ⟨_, _, rfl⟩
    refine ⟨p', c', w', hrun, h1, Chg.mono (Chg.of_grown h2) (fun k _ h => h), fun k hk => ?_⟩
    rcases h4 with h4 | h4
    · exact .inl (h4 ▸ hk)
    · rw [h4] at hk
      cases hk
      exact .inr (Nat.le_refl _)
/-- append as one step of a region that draws its order. -/
theorem step_append_vals {w : World} {ops : Array Oper} {o : Oper} {a : Act} {K : Act → World → Prop} {Q : Exit → Act → World → Prop} {E : Prop} {T S : TypeId} {k bytes : Nat} {z : Value} (hk0 : 0 < k) (hu : Tryd.prog.underlying S = some (.slice T)) (hinfo : (Tryd.prog.info? T).map (fun i => (i.zero, i.size, i.bytes)) = some (some z, k, bytes)) (hz : z.cells.size = k) (hby : bytes ≤ 1000)
    (hgd : o.guard = none) (s x : Operand) (ho : o.op = .call { callee := .builtin .append, args := #[s, x], argTypes := #[S, S] })
    (v : Value) (n : Nat) (xs : List Value) (hs : a.eval s = v) (hr : w.ownsRow 0 T k v n xs) (p : Option Addr) (m c : Nat) (news : List Value) (hx : a.eval x = .slice p m c) (hl : news.length = m * k) (hnone : p = none → m = 0 ∧ c = 0) (hnews : ∀ ad, p = some ad → ∀ j u, news[j]? = some u → w.cell? (ad.add j) = some u) (h1 : ∀ u ∈ news, u.oneCell' = true) (hbig : n + m ≤ 1000000)
    (h : ∀ p' c' w', w'.ownsRow 0 T k (.slice p' (n + m) c') (n + m) (xs ++ news) → Chg (fun b => v.ownBlock = some b) w w' → (∀ b, (Value.slice p' (n + m) c').ownBlock = some b → v.ownBlock = some b ∨ w.heap.size ≤ b) → K (a.put o.dst (.slice p' (n + m) c')) w') :
    if Region.wanted o (yielded ops a.tmps) = true then Oper.wp Tryd.prog o a w K Q else E := by
  have hw : Region.wanted o (yielded ops a.tmps) = true := by simp [Region.wanted, hgd]
  rw [if_pos hw]
  obtain ⟨p', c', w', hrun, h1, h2, h3⟩ := run_append_vals (ty := o.type) hk0 hu hinfo hz hby hr hl hnone hnews h1 hbig
  unfold Oper.wp execOp
  simp only [ho, resolve, invoke, builtin, Sem.run_bind, Sem.run_pure, Result.andThen_ok, List.map_toArray, List.map_cons, List.map_nil, hs, hx, hrun]
  exact h p' c' w' h1 h2 h3
/-- append at the operation. -/
theorem wpList_append_vals {w : World} {ops : Array Oper} {rest : List Oper} {o : Oper} {a : Act} {Q : Exit → Act → World → Prop} {T S : TypeId} {k bytes : Nat} {z : Value} (hk0 : 0 < k) (hu : Tryd.prog.underlying S = some (.slice T)) (hinfo : (Tryd.prog.info? T).map (fun i => (i.zero, i.size, i.bytes)) = some (some z, k, bytes)) (hz : z.cells.size = k) (hby : bytes ≤ 1000)
    (hgd : o.guard = none) (s x : Operand) (ho : o.op = .call { callee := .builtin .append, args := #[s, x], argTypes := #[S, S] })
    (v : Value) (n : Nat) (xs : List Value) (hs : a.eval s = v) (hr : w.ownsRow 0 T k v n xs) (p : Option Addr) (m c : Nat) (news : List Value) (hx : a.eval x = .slice p m c) (hl : news.length = m * k) (hnone : p = none → m = 0 ∧ c = 0) (hnews : ∀ ad, p = some ad → ∀ j u, news[j]? = some u → w.cell? (ad.add j) = some u) (h1 : ∀ u ∈ news, u.oneCell' = true) (hbig : n + m ≤ 1000000)
    (h : ∀ p' c' w', w'.ownsRow 0 T k (.slice p' (n + m) c') (n + m) (xs ++ news) → Chg (fun b => v.ownBlock = some b) w w' → (∀ b, (Value.slice p' (n + m) c').ownBlock = some b → v.ownBlock = some b ∨ w.heap.size ≤ b) → wpList Tryd.prog ops Q rest (a.put o.dst (.slice p' (n + m) c')) w') :
    wpList Tryd.prog ops Q (o :: rest) a w := by
  refine wpList_plain hgd fun K hK => ?_
  obtain ⟨p', c', w', hrun, h1, h2, h3⟩ := run_append_vals (ty := o.type) hk0 hu hinfo hz hby hr hl hnone hnews h1 hbig
  unfold Oper.wp execOp
  simp only [ho, resolve, invoke, builtin, Sem.run_bind, Sem.run_pure, Result.andThen_ok, List.map_toArray, List.map_cons, List.map_nil, hs, hx, hrun]
  exact hK _ _ (h p' c' w' h1 h2 h3)

/-- A whole number's cell. -/
def ei (x : Int) : List Value := [.int .i64 x]
theorem ei_len (x : Int) : (ei x).length = 1 := rfl
theorem ei_one (x : Int) : ∀ u ∈ ei x, u.oneCell' = true := by
  intro u hu
  simp only [ei, List.mem_cons, List.not_mem_nil, or_false] at hu
  subst hu
  rfl
theorem infoInt : (Tryd.prog.info? 3).map (fun i => (i.zero, i.size, i.bytes)) = some (some (.int .i64 0), 1, 8) := by kernel_rfl
/-- Bytes, slices and numbers: three rows of the call's own, side by side. -/
structure Three (W w : World) (va : Value) (A : List Nat) (vp : Value) (H : List Hd) (ve : Value) (E : List Int) : Prop where
  below : Below W.heap.size W w
  a : w.ownsRow 0 5 1 va A.length (vL A)
  p : w.ownsRow 0 22 1 vp H.length (flatG eh H)
  e : w.ownsRow 0 3 1 ve E.length (flatG ei E)
  na : ∀ k, va.ownBlock = some k → W.heap.size ≤ k ∧ vp.ownBlock ≠ some k ∧ ve.ownBlock ≠ some k
  np : ∀ k, vp.ownBlock = some k → W.heap.size ≤ k ∧ ve.ownBlock ≠ some k
  ne : ∀ k, ve.ownBlock = some k → W.heap.size ≤ k
theorem Three.start (w : World) : Three w w (.slice none 0 0) [] (.slice none 0 0) [] (.slice none 0 0) [] :=
  ⟨Below.refl _ _, World.ownsRow_nil _ _ _ _, World.ownsRow_nil _ _ _ _, World.ownsRow_nil _ _ _ _, (fun k h => by cases h), (fun k h => by cases h), fun k h => by cases h⟩
theorem Three.later {W w w' : World} {va vp ve : Value} {A : List Nat} {H : List Hd} {E : List Int} (h : Three W w va A vp H ve E) (hb : Below w.heap.size w w') : Three W w' va A vp H ve E := by
  have hc : Chg (fun _ => False) w w' := Chg.of_below hb
  exact ⟨h.below.trans (hb.mono h.below.size), own_keep h.a hc fun _ _ h => h, own_keep h.p hc fun _ _ h => h, own_keep h.e hc fun _ _ h => h, h.na, h.np, h.ne⟩
theorem Three.pushA {W w w' : World} {va vp ve va' : Value} {A A' : List Nat} {H : List Hd} {E : List Int} (h : Three W w va A vp H ve E) (h1 : w'.ownsRow 0 5 1 va' A'.length (vL A')) (h2 : Chg (fun b => va.ownBlock = some b) w w') (h3 : ∀ b, va'.ownBlock = some b → va.ownBlock = some b ∨ w.heap.size ≤ b) : Three W w' va' A' vp H ve E := by
  have hs := h.below.size
  refine ⟨h2.below h.below hs fun k hk => (h.na k hk).1, h1, own_keep h.p h2 fun b hb e => (h.na b e).2.1 hb, own_keep h.e h2 fun b hb e => (h.na b e).2.2 hb, fun k hk => ?_, h.np, h.ne⟩
  rcases h3 k hk with h' | h'
  · exact h.na k h'
  · exact ⟨Nat.le_trans hs h', fun e => absurd (h.p.lt k e).2 (Nat.not_lt.2 h'), fun e => absurd (h.e.lt k e).2 (Nat.not_lt.2 h')⟩
theorem Three.pushP {W w w' : World} {va vp ve vp' : Value} {A : List Nat} {H H' : List Hd} {E : List Int} (h : Three W w va A vp H ve E) (h1 : w'.ownsRow 0 22 1 vp' H'.length (flatG eh H')) (h2 : Chg (fun b => vp.ownBlock = some b) w w') (h3 : ∀ b, vp'.ownBlock = some b → vp.ownBlock = some b ∨ w.heap.size ≤ b) : Three W w' va A vp' H' ve E := by
  have hs := h.below.size
  refine ⟨h2.below h.below hs fun k hk => (h.np k hk).1, own_keep h.a h2 fun b hb e => (h.na b hb).2.1 e, h1, own_keep h.e h2 fun b hb e => (h.np b e).2 hb, fun k hk => ⟨(h.na k hk).1, fun e => ?_, (h.na k hk).2.2⟩, fun k hk => ?_, h.ne⟩
  · rcases h3 k e with h' | h'
    · exact (h.na k hk).2.1 h'
    · exact absurd (h.a.lt k hk).2 (Nat.not_lt.2 h')
  · rcases h3 k hk with h' | h'
    · exact h.np k h'
    · exact ⟨Nat.le_trans hs h', fun e => absurd (h.e.lt k e).2 (Nat.not_lt.2 h')⟩
theorem Three.pushE {W w w' : World} {va vp ve ve' : Value} {A : List Nat} {H : List Hd} {E E' : List Int} (h : Three W w va A vp H ve E) (h1 : w'.ownsRow 0 3 1 ve' E'.length (flatG ei E')) (h2 : Chg (fun b => ve.ownBlock = some b) w w') (h3 : ∀ b, ve'.ownBlock = some b → ve.ownBlock = some b ∨ w.heap.size ≤ b) : Three W w' va A vp H ve' E' := by
  have hs := h.below.size
  refine ⟨h2.below h.below hs h.ne, own_keep h.a h2 fun b hb e => (h.na b hb).2.2 e, own_keep h.p h2 fun b hb e => (h.np b hb).2 e, h1, fun k hk => ⟨(h.na k hk).1, (h.na k hk).2.1, fun e => ?_⟩, fun k hk => ⟨(h.np k hk).1, fun e => ?_⟩, fun k hk => ?_⟩
  · rcases h3 k e with h' | h'
    · exact (h.na k hk).2.2 h'
    · exact absurd (h.a.lt k hk).2 (Nat.not_lt.2 h')
  · rcases h3 k e with h' | h'
    · exact (h.np k hk).2 h'
    · exact absurd (h.p.lt k hk).2 (Nat.not_lt.2 h')
  · rcases h3 k hk with h' | h'
    · exact h.ne k h'
    · exact Nat.le_trans hs h'
end Go.Proofs.YtmadneedeheekaaDoor
