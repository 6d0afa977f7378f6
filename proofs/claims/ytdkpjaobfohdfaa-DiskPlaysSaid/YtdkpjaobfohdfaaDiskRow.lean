/- Rows of pending writes: append; a clone. -/
import Derived.Test.YtdkpjaobfohdfaaDiskKit
import Derived.Maps.AppendAt
import Derived.Laws.AppendOwnNone
namespace Go.Proofs.Ytdkpjaobfohdfaa
open Go.RowKit Go.ChangeShapes Go.WideShapes
set_option linter.unusedVariables false
set_option maxRecDepth 10000
set_option linter.unusedSimpArgs false

theorem infoWrite : (Try.prog.info? 82).map (fun i => (i.zero, i.size, i.bytes)) = some (some .nilIface, 1, 16) := by kernel_rfl
theorem flatW_len (L : List Pw) : (flatG ew L).length = L.length := by rw [flatG_len (k := 1) ew_len, Nat.mul_one]
theorem flatW_at (L : List Pw) {j : Nat} (hj : j < L.length) : (flatG ew L)[j]? = (ew (L.getD j yd))[0]? := by
  have := flatG_at (k := 1) (d := yd) ew_len L j 0 hj (by omega)
  rwa [Nat.mul_one, Nat.add_zero] at this
theorem SlW_at {w : World} {p : Option Addr} {m c : Nat} {M : List Pw} (h : SlG ew 1 yd w p m c M) {j : Nat} (hj : j < m) : ∃ b off, p = some ⟨b, off, none⟩ ∧ b < w.heap.size ∧ w.cell? ⟨b, off + j, none⟩ = some (M.getD j yd).val := by
  obtain ⟨b, off, hp, hlt, hc⟩ := h.cell (by omega)
  have := hc j hj 0 _ rfl
  rw [Nat.mul_one, Nat.add_zero] at this
  exact ⟨b, off, hp, hlt, this⟩
/-- What append of writes does. -/
theorem run_append_w {w : World} {v : Value} {n : Nat} {L : List Pw} (hr : w.ownsRow 0 82 1 v n (flatG ew L)) {p : Option Addr} {m c : Nat} {M : List Pw} (hM : SlG ew 1 yd w p m c M) (hbig : n + m ≤ 1000000) (ty : TypeId) :
    ∃ p' c' w', (Builtin.append_ #[58, 58] ty #[v, .slice p m c]).run Try.prog w = .ok (.slice p' (n + m) c') w' ∧ w'.ownsRow 0 82 1 (.slice p' (n + m) c') (n + m) (flatG ew (L ++ M)) ∧ Chg (fun k => v.ownBlock = some k) w w' ∧
      (∀ k, (Value.slice p' (n + m) c').ownBlock = some k → v.ownBlock = some k ∨ w.heap.size ≤ k) := by
  obtain ⟨i, hi, hz0, hz1, hz2⟩ := info_parts infoWrite
  cases p with
  | none =>
    obtain rfl := hM.nil rfl
    obtain rfl : m = 0 := Nat.le_zero.1 hM.cap
    obtain rfl : M = [] := List.eq_nil_of_length_eq_zero hM.len
    have hrun := run_append_owned_none (P := Try.prog) (w := w) 0 58 ty 82 i 1 Try.underlying58 hi v n (flatG ew L) hr
    rcases hr.2 with ⟨rfl, rfl⟩ | ⟨g, cap, cur, rfl, h1, h2, h3⟩
    · exact ⟨none, 0, w, hrun, by simpa using hr, Chg.refl _ _, fun k hk => .inl hk⟩
    · exact ⟨_, cap, w, hrun, by simpa using hr, Chg.refl _ _, fun k hk => .inl hk⟩
  | some ad =>
    have hnews : ∀ j u, (flatG ew M)[j]? = some u → w.cell? (ad.add j) = some u := by
      intro j u hu
      have hj : j < m := by
        rcases Nat.lt_or_ge j m with h | h
        · exact h
        · rw [List.getElem?_eq_none (by rw [flatW_len, hM.len]; exact h)] at hu; cases hu
      obtain ⟨b, off, hp, _, hc⟩ := SlW_at hM hj
      cases hp
      rw [flatW_at M (by rw [hM.len]; exact hj)] at hu
      rw [Go.WideShapes.add_plain, hc]
      exact hu
    obtain ⟨v', w', hrun, h1, h2, h3, h4⟩ := run_append_own_at (P := Try.prog) w 0 58 ty 82 i .nilIface 1 16 Try.underlying58 hi hz0 hz1 hz2 rfl (by decide) v n (flatG ew L) hr ad m c (flatG ew M) (by rw [flatW_len, hM.len, Nat.mul_one]) hnews (flatG_all ew_one M) (by unfold maxLen; omega) (by omega) (Nat.zero_le _)
    rw [← flatG_append] at h1
    have hv : ∃ p' c', v' = .slice p' (n + m) c' := by
      rcases h1.2 with ⟨h5, h6⟩ | ⟨g, cap, cur, h5, _⟩
      · exact ⟨none, 0, by rw [h5, h6]⟩
      · exact ⟨_, _, h5⟩
    obtain ⟨p', c', rfl⟩ := hv
    refine ⟨p', c', w', hrun, h1, Chg.mono (Chg.of_grown h2) (fun k _ h => h), fun k hk => ?_⟩
    rcases h4 with h4 | h4
    · exact .inl (h4 ▸ hk)
    · rw [h4] at hk
      cases hk
      exact .inr (Nat.le_refl _)
/-- append at the operation. -/
theorem wpList_append_w {w : World} {ops : Array Oper} {rest : List Oper} {o : Oper} {a : Act} {Q : Exit → Act → World → Prop} (hgd : o.guard = none) (s x : Operand)
    (ho : o.op = .call { callee := .builtin .append, args := #[s, x], argTypes := #[58, 58] })
    (v : Value) (n : Nat) (L : List Pw) (hs : a.eval s = v) (hr : w.ownsRow 0 82 1 v n (flatG ew L)) (p : Option Addr) (m c : Nat) (M : List Pw) (hx : a.eval x = .slice p m c) (hM : SlG ew 1 yd w p m c M) (hbig : n + m ≤ 1000000)
    (h : ∀ p' c' w', w'.ownsRow 0 82 1 (.slice p' (n + m) c') (n + m) (flatG ew (L ++ M)) → Chg (fun k => v.ownBlock = some k) w w' → (∀ k, (Value.slice p' (n + m) c').ownBlock = some k → v.ownBlock = some k ∨ w.heap.size ≤ k) → wpList Try.prog ops Q rest (a.put o.dst (.slice p' (n + m) c')) w') :
    wpList Try.prog ops Q (o :: rest) a w := by
  refine wpList_plain hgd fun K hK => ?_
  obtain ⟨p', c', w', hrun, h1, h2, h3⟩ := run_append_w hr hM hbig o.type
  unfold Oper.wp execOp
  simp only [ho, resolve, invoke, builtin, Sem.run_bind, Sem.run_pure, Result.andThen_ok, List.map_toArray, List.map_cons, List.map_nil, hs, hx, hrun]
  exact hK _ _ (h p' c' w' h1 h2 h3)
theorem sw_nil_in (d : Nat) (p : Option Addr) (n c : Nat) (w : World) : (Op.equalIn (d + 1) 58 (.slice p n c) (.slice none 0 0)).run Try.prog w = .ok p.isNone w := by
  cases p <;> simp [Op.equalIn, run_underlying Try.underlying58]
theorem sw_nil (p : Option Addr) (n c : Nat) (w : World) : (binOp .eql 58 (.slice p n c) (.slice none 0 0)).run Try.prog w = .ok (.bool p.isNone) w := by
  simp only [binOp]
  simp [show Op.equal 58 (.slice p n c) (.slice none 0 0) = Op.equalIn (9999 + 1) 58 (.slice p n c) (.slice none 0 0) from rfl, sw_nil_in 9999 p n c w]
end Go.Proofs.Ytdkpjaobfohdfaa
