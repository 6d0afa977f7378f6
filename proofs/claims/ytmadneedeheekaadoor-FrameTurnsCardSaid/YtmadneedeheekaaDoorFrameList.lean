/- Lists of slices of bytes: those that are read, those that grow. -/
import Derived.Test.YtmadneedeheekaaDoorWireKit
import Derived.Test.YtmadneedeheekaaDoorRowG
namespace Go.Proofs.YtmadneedeheekaaDoor
open Go.RowKit Go.ChangeShapes Go.WideShapes
set_option linter.unusedVariables false
set_option maxRecDepth 10000

/-- A slice's address, length and capacity. -/
abbrev Hd := Option Addr × Nat × Nat
def hd0 : Hd := (none, 0, 0)
def eh (h : Hd) : List Value := [.slice h.1 h.2.1 h.2.2]
theorem eh_len (h : Hd) : (eh h).length = 1 := rfl
theorem eh_one (h : Hd) : ∀ u ∈ eh h, u.oneCell' = true := by
  intro u hu
  simp only [eh, List.mem_cons, List.not_mem_nil, or_false] at hu
  subst hu
  rfl
theorem infoSl : (Tryd.prog.info? 22).map (fun i => (i.zero, i.size, i.bytes)) = some (some (.slice none 0 0), 1, 24) := by kernel_rfl
/-- Bytes that are there only asks its own block, if there are any. -/
theorem Sl.kept {w w' : World} {p : Option Addr} {n c : Nat} {L : List Nat} (h : Sl w p n c L) (hb : 0 < n → ∀ a, p = some a → a.block < w.heap.size → w'.heap[a.block]? = w.heap[a.block]?) : Sl w' p n c L := by
  refine ⟨h.len, h.cap, h.nil, h.lt, fun h0 => ?_⟩
  obtain ⟨b, off, rfl, hlt, hc⟩ := h.blk h0
  exact ⟨b, off, rfl, fun j hj => by rw [World.cell?_of_block (w := w) (a := ⟨b, off + j, Option.none⟩) (hb h0 ⟨b, off, Option.none⟩ rfl hlt)]; exact hc j hj⟩
/-- A slice that holds slices that hold the bytes Ls. -/
structure LS (w : World) (p : Option Addr) (n c : Nat) (H : List Hd) (Ls : List (List Nat)) : Prop where
  row : SlG eh 1 hd0 w p n c H
  len : Ls.length = n
  each : ∀ j, j < n → Sl w (H.getD j hd0).1 (H.getD j hd0).2.1 (H.getD j hd0).2.2 (Ls.getD j []) ∧ (H.getD j hd0).2.2 ≤ maxLen
theorem LS.later {w w' : World} {p : Option Addr} {n c : Nat} {H : List Hd} {Ls : List (List Nat)} (h : LS w p n c H Ls) (hb : Below w.heap.size w w') : LS w' p n c H Ls :=
  ⟨h.row.later hb, h.len, fun j hj => ⟨(h.each j hj).1.later hb, (h.each j hj).2⟩⟩
theorem LS.take {w : World} {p : Option Addr} {n c : Nat} {H : List Hd} {Ls : List (List Nat)} (h : LS w p n c H Ls) (m : Nat) (hm : m ≤ n) : LS w p m c (H.take m) (Ls.take m) := by
  refine ⟨h.row.take m hm, by rw [List.length_take, h.len]; omega, fun j hj => ?_⟩
  have e1 : (H.take m).getD j hd0 = H.getD j hd0 := by rw [List.getD, List.getD, List.getElem?_take, if_pos hj]
  have e2 : (Ls.take m).getD j [] = Ls.getD j [] := by rw [List.getD, List.getD, List.getElem?_take, if_pos hj]
  rw [e1, e2]
  exact h.each j (by omega)
/-- One of them. -/
theorem LS.at {w : World} {p : Option Addr} {n c : Nat} {H : List Hd} {Ls : List (List Nat)} (h : LS w p n c H Ls) (h0 : 0 < n) : ∃ b off, p = some ⟨b, off, none⟩ ∧ b < w.heap.size ∧ ∀ j, j < n → w.cell? ⟨b, off + j, none⟩ = some (.slice (H.getD j hd0).1 (H.getD j hd0).2.1 (H.getD j hd0).2.2) := by
  obtain ⟨b, off, hp, hlt, hc⟩ := h.row.cell h0
  refine ⟨b, off, hp, hlt, fun j hj => ?_⟩
  have := hc j hj 0 _ rfl
  rwa [Nat.mul_one, Nat.add_zero] at this

/-- append of one slice onto a row of such that the call owns: its row is the old one or a new one. -/
theorem wpList_append_hd {w : World} {ops : Array Oper} {rest : List Oper} {o : Oper} {a : Act} {Q : Exit → Act → World → Prop} (hgd : o.guard = none) (s x : Operand)
    (ho : o.op = .call { callee := .builtin .append, args := #[s, x], argTypes := #[35, 35] })
    (v : Value) (n : Nat) (H : List Hd) (hs : a.eval s = v) (hr : w.ownsRow 0 22 1 v n (flatG eh H)) (hn : n ≤ 100000) (e : Hd) (B : Nat)
    (hx : a.eval x = .slice (some ⟨B, 0, none⟩) 1 1) (hc : w.cell? ⟨B, 0, none⟩ = some (.slice e.1 e.2.1 e.2.2))
    (h : ∀ v' w', w'.ownsRow 0 22 1 v' (n + 1) (flatG eh (H ++ [e])) → Chg (fun k => v.ownBlock = some k) w w' → (∀ k, v'.ownBlock = some k → v.ownBlock = some k ∨ w.heap.size ≤ k) → wpList Tryd.prog ops Q rest (a.put o.dst v') w') : wpList Tryd.prog ops Q (o :: rest) a w := by
  obtain ⟨i, hi, hz0, hz1, hz2⟩ := info_parts infoSl
  have hnews : ∀ j u, (eh e)[j]? = some u → w.cell? ((⟨B, 0, none⟩ : Addr).add j) = some u := by
    intro j u hu
    match j, hu with
    | 0, hu =>
      simp only [eh, List.getElem?_cons_zero, Option.some.injEq] at hu
      subst hu
      rw [Go.WideShapes.add_plain]
      exact hc
  have hfl : flatG eh (H ++ [e]) = flatG eh H ++ eh e := by rw [flatG_append, flatG_one]
  have hgrown : ∀ v' w', w'.ownsRow w.heap.size 22 1 v' (n + 1) (flatG eh H ++ eh e) → w.grownBy w' none → wpList Tryd.prog ops Q rest (a.put o.dst v') w' := by
    intro v' w' h1 h2
    rw [← hfl] at h1
    refine h v' w' ⟨h1.1, ?_⟩ ((Chg.of_grown h2).mono fun k _ h => by cases h) fun k hk => .inr (h1.lt k hk).1
    rcases h1.2 with hn | ⟨g, cap, cur, rfl, h1, h2⟩
    · exact .inl hn
    · exact .inr ⟨g, cap, cur, rfl, Nat.zero_le _, h2⟩
  have hvl : (flatG eh H).length = n * 1 := hr.1
  rcases hr.2 with ⟨rfl, rfl⟩ | ⟨g, cap, cur, rfl, hb, hg, h1, h2, h3, h4⟩
  · exact wpList_append_grows w hgd s x _ ho 22 i (.slice none 0 0) 1 24 Tryd.underlying35 hi hz0 hz1 hz2 rfl (by decide) none 0 0 (flatG eh H) hs (fun _ => ⟨rfl, rfl⟩) hvl (fun b hb => by cases hb) ⟨B, 0, none⟩ 1 1 (eh e) hx rfl hnews (eh_one e) (by omega) (by unfold maxLen; omega) (by omega) hgrown
  · by_cases hroom : n + 1 ≤ cap
    · refine wpList_append_fits w hgd s x _ ho 0 22 i 1 Tryd.underlying35 hi hz1 g n cap (flatG eh H) hs hr ⟨B, 0, none⟩ 1 1 (eh e) hx rfl hnews (eh_one e) hroom ?_
      intro w' h1 h2
      rw [← hfl] at h1
      exact h _ w' h1 ((Chg.of_grown h2).mono fun k _ h => h) fun k hk => .inl hk
    · refine wpList_append_grows w hgd s x _ ho 22 i (.slice none 0 0) 1 24 Tryd.underlying35 hi hz0 hz1 hz2 rfl (by decide) (some ⟨g, 0, none⟩) n cap (flatG eh H) hs (fun hb => by cases hb) hvl (fun b hb j u hu => ?_) ⟨B, 0, none⟩ 1 1 (eh e) hx rfl hnews (eh_one e) (by omega) (by unfold maxLen; omega) (by omega) hgrown
      cases hb
      have hj : j < n := by
        rcases Nat.lt_or_ge j n with h | h
        · exact h
        · rw [List.getElem?_eq_none (by omega)] at hu; cases hu
      rw [Go.WideShapes.add_plain, Nat.zero_add, hr.cellAt j (by omega)]; exact hu
/-- A list that grows: its row is the call's own, and no part of it lies in that row. -/
structure FL (W w : World) (v : Value) (H : List Hd) (Ls : List (List Nat)) : Prop where
  own : w.ownsRow 0 22 1 v Ls.length (flatG eh H)
  len : H.length = Ls.length
  below : Below W.heap.size W w
  new : ∀ k, v.ownBlock = some k → W.heap.size ≤ k
  each : ∀ j, j < Ls.length → Sl w (H.getD j hd0).1 (H.getD j hd0).2.1 (H.getD j hd0).2.2 (Ls.getD j []) ∧ (H.getD j hd0).2.2 ≤ maxLen ∧ (0 < (H.getD j hd0).2.1 → ∀ a, (H.getD j hd0).1 = some a → v.ownBlock ≠ some a.block)
theorem FL.nil (W w : World) (h : Below W.heap.size W w) : FL W w (.slice none 0 0) [] [] := ⟨World.ownsRow_nil _ _ _ _, rfl, h, (fun k h => by cases h), fun j hj => by simp at hj⟩
theorem FL.later {W w w' : World} {v : Value} {H : List Hd} {Ls : List (List Nat)} (h : FL W w v H Ls) (hb : Below w.heap.size w w') : FL W w' v H Ls := by
  refine ⟨⟨h.own.1, ?_⟩, h.len, h.below.trans (hb.mono h.below.size), h.new, fun j hj => ⟨(h.each j hj).1.later hb, (h.each j hj).2⟩⟩
  rcases h.own.2 with hn | ⟨g, cap, cur, rfl, h1, h2, h3⟩
  · exact .inl hn
  · exact .inr ⟨g, cap, cur, rfl, h1, (hb.block g (Array.getElem?_eq_some_iff.1 h2).1).trans h2, h3⟩
theorem FL.push {W w w' : World} {v v' : Value} {H : List Hd} {Ls : List (List Nat)} (h : FL W w v H Ls) (e : Hd) (P : List Nat) (hP : Sl w e.1 e.2.1 e.2.2 P) (hc : e.2.2 ≤ maxLen) (hne : 0 < e.2.1 → ∀ a, e.1 = some a → v.ownBlock ≠ some a.block)
    (h1 : w'.ownsRow 0 22 1 v' (Ls.length + 1) (flatG eh (H ++ [e]))) (h2 : Chg (fun k => v.ownBlock = some k) w w') (h3 : ∀ k, v'.ownBlock = some k → v.ownBlock = some k ∨ w.heap.size ≤ k) : FL W w' v' (H ++ [e]) (Ls ++ [P]) := by
  have hl := h.len
  have key : ∀ (q : Hd) (L : List Nat), Sl w q.1 q.2.1 q.2.2 L → (0 < q.2.1 → ∀ a, q.1 = some a → v.ownBlock ≠ some a.block) → Sl w' q.1 q.2.1 q.2.2 L ∧ (0 < q.2.1 → ∀ a, q.1 = some a → v'.ownBlock ≠ some a.block) := by
    intro q L hs hn
    refine ⟨hs.kept fun h0 a ha hlt => h2.block _ hlt (hn h0 a ha), fun h0 a ha hk => ?_⟩
    rcases h3 _ hk with h' | h'
    · exact hn h0 a ha h'
    · obtain ⟨b, off, hp, hlt, _⟩ := hs.blk h0
      rw [hp] at ha
      cases ha
      exact absurd hlt (Nat.not_lt.2 h')
  refine ⟨by rw [List.length_append, List.length_singleton]; exact h1, by simp [hl], ?_, fun k hk => ?_, fun j hj => ?_⟩
  · exact h2.below h.below h.below.size h.new
  · rcases h3 k hk with h' | h'
    · exact h.new k h'
    · exact Nat.le_trans h.below.size h'
  · rw [List.length_append, List.length_singleton] at hj
    by_cases hj' : j < Ls.length
    · have e1 : (H ++ [e]).getD j hd0 = H.getD j hd0 := by rw [List.getD, List.getD, List.getElem?_append_left (by omega)]
      have e2 : (Ls ++ [P]).getD j [] = Ls.getD j [] := by rw [List.getD, List.getD, List.getElem?_append_left hj']
      rw [e1, e2]
      obtain ⟨g1, g2, g3⟩ := h.each j hj'
      obtain ⟨k1, k2⟩ := key _ _ g1 g3
      exact ⟨k1, g2, k2⟩
    · obtain rfl : j = Ls.length := by omega
      have e1 : (H ++ [e]).getD Ls.length hd0 = e := by rw [← hl, List.getD, List.getElem?_append_right (Nat.le_refl _), Nat.sub_self]; rfl
      have e2 : (Ls ++ [P]).getD Ls.length [] = P := by rw [List.getD, List.getElem?_append_right (Nat.le_refl _), Nat.sub_self]; rfl
      rw [e1, e2]
      obtain ⟨k1, k2⟩ := key _ _ hP hne
      exact ⟨k1, hc, k2⟩
theorem FL.done {W w : World} {v : Value} {H : List Hd} {Ls : List (List Nat)} (h : FL W w v H Ls) : ∃ p c, v = .slice p Ls.length c ∧ LS w p Ls.length c H Ls := by
  obtain ⟨p, c, rfl, hs, _⟩ := SlG.of_own (d := hd0) eh_len (by decide) h.own
  exact ⟨p, c, rfl, hs, rfl, fun j hj => ⟨(h.each j hj).1, (h.each j hj).2.1⟩⟩
end Go.Proofs.YtmadneedeheekaaDoor
