/- The wire's reader, below all boxes that are made later: what each of its calls leaves. -/
import Derived.Test.YtdcanppiiikjgaaGreatDoorGrRecc
import Derived.Test.YtdcanppiiikjgaaGreatDoorGrProgh
namespace Go.Proofs.YtdcanppiiikjgaaGreatDoor
open Go.RowKit Go.ChangeShapes Go.WideShapes
set_option linter.unusedVariables false
set_option linter.unusedSimpArgs false
set_option maxRecDepth 10000

/-- The reader in block B: all of it below block N. -/
structure Zw (w : World) (N B : Nat) (S : St) : Prop where
  rd : ∃ p c, Rd w B p c S ∧ ∀ a, p = some a → a.block < N
  low : B < N
  size : N ≤ w.heap.size
  small : S.2.length ≤ 1000
  bytes : ∀ y ∈ S.2, y < 256
theorem Zw.later {w w' : World} {N B : Nat} {S : St} (h : Zw w N B S) (hc : Chg (fun k => N ≤ k) w w') : Zw w' N B S := by
  obtain ⟨p, c, hr, hp⟩ := h.rd
  have hs := h.size
  exact ⟨⟨p, c, hr.chg hc (by have := h.low; omega) (fun a ha => by have := hp a ha; omega), hp⟩, h.low, Nat.le_trans hs hc.size, h.small, h.bytes⟩
theorem Zw.below {w w' : World} {N B : Nat} {S : St} (h : Zw w N B S) (hb : Below w.heap.size w w') : Zw w' N B S := h.later (Chg.of_below hb)
theorem Zw.went {w w' : World} {N B : Nat} {S T : St} {p : Option Addr} {c : Nat} (h : Zw w N B S) (hp : ∀ a, p = some a → a.block < N) (hw : Went w B p T w') (hl : T.2.length ≤ S.2.length) (hb : ∀ y ∈ T.2, y < 256) : Zw w' N B T ∧ Chg (fun k => k = B) w w' := by
  obtain ⟨p', c', h1, h2⟩ := hw.rd
  refine ⟨⟨⟨p', c', h1, fun a ha => ?_⟩, h.low, Nat.le_trans h.size hw.chg.size, Nat.le_trans hl h.small, hb⟩, hw.chg⟩
  obtain ⟨a', e1, e2⟩ := h2 a ha
  rw [e2]
  exact hp a' e1
theorem zw_num {w : World} {N B : Nat} {S : St} (h : Zw w N B S) (size : Int) : Calls Tryz.prog 59 #[.pointer (some ⟨B, 0, none⟩), .int .i64 size] w fun e w' => e = .returned (.int .u64 (((numR S size).2 : Nat) : Int)) ∧ Zw w' N B (numR S size).1 ∧ Chg (fun k => k = B) w w' := by
  obtain ⟨p, c, hr, hp⟩ := h.rd
  refine (num_any B c p S size w hr (by have := h.small; omega)).mono ?_
  rintro e w' ⟨rfl, hw⟩
  obtain ⟨h1, h2⟩ := h.went (c := c) hp hw (numR_less S size) (numR_bytes h.bytes size)
  exact ⟨rfl, h1, h2⟩
theorem zw_int {w : World} {N B : Nat} {S : St} (h : Zw w N B S) : Calls Tryz.prog 63 #[.pointer (some ⟨B, 0, none⟩)] w fun e w' => e = .returned (.int .i64 (sgn (numR S 8).2)) ∧ Zw w' N B (numR S 8).1 ∧ Chg (fun k => k = B) w w' := by
  obtain ⟨p, c, hr, hp⟩ := h.rd
  refine (int_any B c p S w hr (by have := h.small; omega)).mono ?_
  rintro e w' ⟨rfl, hw⟩
  obtain ⟨h1, h2⟩ := h.went (c := c) hp hw (numR_less S 8) (numR_bytes h.bytes 8)
  exact ⟨rfl, h1, h2⟩
theorem bad_2 (e : Int) (S : St) : (bad e S).2 = S.2 := by unfold bad; split <;> rfl
theorem boolR_2 (S : St) : (boolR S).1.2 = (numR S 1).1.2 := by unfold boolR; split; exact bad_2 _ _; rfl
theorem zw_bool {w : World} {N B : Nat} {S : St} (h : Zw w N B S) : Calls Tryz.prog 62 #[.pointer (some ⟨B, 0, none⟩)] w fun e w' => e = .returned (.bool (boolR S).2) ∧ Zw w' N B (boolR S).1 ∧ Chg (fun k => k = B) w w' := by
  obtain ⟨p, c, hr, hp⟩ := h.rd
  refine (bool_any B c p S w hr (by have := h.small; omega)).mono ?_
  rintro e w' ⟨rfl, hw⟩
  obtain ⟨h1, h2⟩ := h.went (c := c) hp hw (by rw [boolR_2]; exact numR_less S 1) (by rw [boolR_2]; exact numR_bytes h.bytes 1)
  exact ⟨rfl, h1, h2⟩
theorem takeR_less (S : St) (n : Nat) : (takeR S n).1.2.length ≤ S.2.length := by
  unfold takeR
  split
  · split
    · exact Nat.le_refl _
    · show (S.2.drop n).length ≤ _
      rw [List.length_drop]; omega
  · exact Nat.le_refl _
theorem takeR_bytes {S : St} (h : ∀ y ∈ S.2, y < 256) (n : Nat) : ∀ y ∈ (takeR S n).1.2, y < 256 := by
  unfold takeR
  split
  · split
    · exact h
    · intro y hy
      exact h y (List.mem_of_mem_drop hy)
  · exact h
theorem bytesR_less (S : St) (most : Int) : (bytesR S most).1.2.length ≤ S.2.length := by
  unfold bytesR
  refine Nat.le_trans (takeR_less _ _) ?_
  split
  · rw [bad_2]; exact numR_less S 2
  · exact numR_less S 2
theorem bytesR_bytes {S : St} (h : ∀ y ∈ S.2, y < 256) (most : Int) : ∀ y ∈ (bytesR S most).1.2, y < 256 := by
  unfold bytesR
  refine takeR_bytes ?_ _
  split
  · rw [bad_2]; exact numR_bytes h 2
  · exact numR_bytes h 2
theorem bytesR_most (S : St) : (bytesR S 512).2.length ≤ 512 := by
  unfold bytesR
  by_cases h : (512 : Int) < ((numR S 2).2 : Int)
  · rw [if_pos h]
    unfold takeR
    rw [if_neg]
    · exact Nat.zero_le _
    · unfold bad
      split
      · show ¬ (7 : Int) = 0
        decide
      · assumption
  · rw [if_neg h]
    have := takeR_len (numR S 2).1 (numR S 2).2
    omega
theorem bytesR_lt {S : St} (h : ∀ y ∈ S.2, y < 256) (most : Int) : ∀ y ∈ (bytesR S most).2, y < 256 := by
  unfold bytesR
  refine takeR_lt _ _ ?_
  split
  · rw [bad_2]; exact numR_bytes h 2
  · exact numR_bytes h 2
theorem zw_bytes {w : World} {N B : Nat} {S : St} (h : Zw w N B S) (most : Int) : Calls Tryz.prog 64 #[.pointer (some ⟨B, 0, none⟩), .int .i64 most] w fun e w' => ∃ p c, e = .returned (.slice p (bytesR S most).2.length c) ∧ Sl w' p (bytesR S most).2.length c (bytesR S most).2 ∧ Zw w' N B (bytesR S most).1 ∧ Chg (fun k => k = B) w w' := by
  obtain ⟨p, c, hr, hp⟩ := h.rd
  refine (bytes_any B c p S most w hr (by have := h.small; omega)).mono ?_
  rintro e w' ⟨v, rfl, hrow, _, hw⟩
  obtain ⟨h1, h2⟩ := h.went (c := c) hp hw (bytesR_less S most) (bytesR_bytes h.bytes most)
  obtain ⟨p', c', rfl, _, hs, _⟩ := hrow.sl
  exact ⟨p', c', rfl, hs, h1, h2⟩
theorem zw_end {w : World} {N B : Nat} {S : St} (h : Zw w N B S) : Calls Tryz.prog 66 #[.pointer (some ⟨B, 0, none⟩)] w fun e w' => e = .returned (.int .i64 (endR S)) ∧ w = w' := by
  obtain ⟨p, c, hr, hp⟩ := h.rd
  exact end_any B c p S w hr (by have := h.small; omega)
theorem zw_err {w : World} {N B : Nat} {S : St} (h : Zw w N B S) : Calls Tryz.prog 61 #[.pointer (some ⟨B, 0, none⟩)] w fun e w' => e = .returned (.int .i64 S.1) ∧ w = w' := by
  obtain ⟨p, c, hr, hp⟩ := h.rd
  exact err_any B S.1 w hr.c0
theorem held_load_rc {a : Act} {w : World} {dst : Option Tmp} {x : Operand} {ty : TypeId} {pos : String} {after : Array Edge} {gd : Option (Nat × Bool)} {B : Nat} {r : Rv} (hx : a.eval x = .pointer (some ⟨B, 0, none⟩)) (hC : RB w B r) :
    (execOp a.eval (Oper.mk dst (.load 30 x) ty pos after gd)).run Tryz.prog w = .ok (.value (.agg (rcs r))) w := by
  unfold execOp
  simp only [hx, Instr.loadAt, Instr.sureAddr, Sem.run_bind, Sem.run_pure, Result.andThen_ok, run_loadVar_row w B 30 30 (rcs r) (0, 0) _ hC Tryz.underlying30 rfl (by kernel_rfl)]
/-- What was wrong first in all that was read. -/
def readE (B : List Nat) : Int := if kOk (((numR (0, B) 1).2 : Nat) : Int) = true then rdE (rdX (((numR (0, B) 1).2 : Nat) : Int) (numR (0, B) 1).1) else if (numR (0, B) 1).1.1 ≠ 0 then (numR (0, B) 1).1.1 else 8
/-- A record that is being read: the reader, the result's box R, the record's box X. -/
structure Qz (W w : World) (N B R X : Nat) (S : St) (r : Rv) : Prop where
  z : Zw w N B S
  x : RB w X r
  res : RB w R rz
  chg : Chg (fun k => k = B) W w
  ord : N ≤ R ∧ R < X ∧ W.heap.size ≤ R
theorem Qz.low {W w w' : World} {N B R X : Nat} {S S' : St} {r : Rv} (h : Qz W w N B R X S r) (hz : Zw w' N B S') (hc : Chg (fun k => k = B) w w') : Qz W w' N B R X S' r := by
  have ho := h.ord
  have hl := h.z.low
  exact ⟨hz, h.x.chg hc (by omega), h.res.chg hc (by omega), h.chg.trans hc fun _ _ e => e, ho⟩
theorem Qz.later {W w w' : World} {N B R X : Nat} {S : St} {r : Rv} (h : Qz W w N B R X S r) (hb : Below w.heap.size w w') : Qz W w' N B R X S r :=
  ⟨h.z.below hb, h.x.later hb, h.res.later hb, h.chg.trans (Chg.of_below (S := fun k => k = B) hb) fun _ _ e => e, h.ord⟩
theorem Qz.put {W w : World} {N B R X : Nat} {S : St} {r : Rv} (h : Qz W w N B R X S r) (j : Nat) (v : Value) (r' : Rv) (he : (rcs r).setIfInBounds j v = rcs r') : Qz W (w.setCell ⟨X, j, none⟩ v) N B R X S r' := by
  have ho := h.ord
  have hc : Chg (fun k => k = X) w (w.setCell ⟨X, j, none⟩ v) := (Chg.refl _ _).setCell ⟨X, j, none⟩ _ fun _ => rfl
  exact ⟨h.z.later (hc.mono fun k _ hk => by omega), h.x.put j v r' he, h.res.chg hc (by omega), h.chg.trans hc fun k hk e => by omega, ho⟩
theorem Qz.set {W w : World} {N B R X : Nat} {S : St} {r : Rv} (h : Qz W w N B R X S r) (r' : Rv) : Qz W (w.setRow X (rcs r')) N B R X S r' := by
  have ho := h.ord
  have hc : Chg (fun k => k = X) w (w.setRow X (rcs r')) := ⟨rfl, rfl, rfl, by simp [World.setRow], fun k _ hn => setRow_other _ _ _ _ hn⟩
  exact ⟨h.z.later (hc.mono fun k _ hk => by omega), h.x.set r', h.res.chg hc (by omega), h.chg.trans hc fun k hk e => by omega, ho⟩
theorem Qz.cx {W w : World} {N B R X : Nat} {S : St} {r : Rv} (h : Qz W w N B R X S r) {j : Nat} {v : Value} (hj : (rcs r)[j]? = some v) : w.cell? ⟨X, j, none⟩ = some v ∧ w.frozen? ⟨X, j, none⟩ = false := ⟨block_cell h.x hj, block_free j h.x⟩
/-- The same, with the box of what its kind has. -/
structure Qp (W w : World) (N B R X Pb : Nat) (C : Array Value) (S : St) (r : Rv) : Prop where
  q : Qz W w N B R X S r
  p : w.heap[Pb]? = some (.cells C 49 (0, 0))
  lt : X < Pb
theorem Qp.low {W w w' : World} {N B R X Pb : Nat} {C : Array Value} {S S' : St} {r : Rv} (h : Qp W w N B R X Pb C S r) (hz : Zw w' N B S') (hc : Chg (fun k => k = B) w w') : Qp W w' N B R X Pb C S' r := by
  have ho := h.q.ord
  have hl := h.q.z.low
  have ht := h.lt
  exact ⟨h.q.low hz hc, (hc.block Pb (block_lt h.p) (by omega)).trans h.p, h.lt⟩
theorem Qp.later {W w w' : World} {N B R X Pb : Nat} {C : Array Value} {S : St} {r : Rv} (h : Qp W w N B R X Pb C S r) (hb : Below w.heap.size w w') : Qp W w' N B R X Pb C S r := ⟨h.q.later hb, block_later h.p hb, h.lt⟩
theorem Qp.put {W w : World} {N B R X Pb : Nat} {C : Array Value} {S : St} {r : Rv} (h : Qp W w N B R X Pb C S r) (j : Nat) (v : Value) (r' : Rv) (he : (rcs r).setIfInBounds j v = rcs r') : Qp W (w.setCell ⟨X, j, none⟩ v) N B R X Pb C S r' :=
  ⟨h.q.put j v r' he, (Below.heap_setCell _ _ _ _ (by have := h.lt; show Pb ≠ X; omega)).trans h.p, h.lt⟩
theorem Qp.set {W w : World} {N B R X Pb : Nat} {C : Array Value} {S : St} {r : Rv} (h : Qp W w N B R X Pb C S r) (r' : Rv) : Qp W (w.setRow X (rcs r')) N B R X Pb C S r' :=
  ⟨h.q.set r', (setRow_other _ _ _ _ (by have := h.lt; omega)).trans h.p, h.lt⟩
theorem Qp.c {W w : World} {N B R X Pb : Nat} {C : Array Value} {S : St} {r : Rv} (h : Qp W w N B R X Pb C S r) {j : Nat} {v : Value} (hj : C[j]? = some v) : w.cell? ⟨Pb, j, none⟩ = some v := block_cell h.p hj
theorem rd_of {Bs : List Nat} {R0 : St × Nat} {kk : Int} {D : Rdd} (h0 : numR (0, Bs) 1 = R0) (hk : ((R0.2 : Nat) : Int) = kk) (ho : kOk kk = true) (hd : rdX kk R0.1 = D) : readE Bs = rdE D ∧ rdX (((numR (0, Bs) 1).2 : Nat) : Int) (numR (0, Bs) 1).1 = D := by
  subst h0 hk
  refine ⟨?_, hd⟩
  unfold readE
  rw [if_pos ho, hd]
theorem rd_bad {Bs : List Nat} {R0 : St × Nat} {kk : Int} (h0 : numR (0, Bs) 1 = R0) (hk : ((R0.2 : Nat) : Int) = kk) (ho : kOk kk = false) : readE Bs = if R0.1.1 ≠ 0 then R0.1.1 else 8 := by
  subst h0 hk
  unfold readE
  rw [if_neg (by rw [ho]; decide)]
/-- The zero record's cells, written out. -/
abbrev zr : Array Value := #[.int .u8 0, .int .u32 0, .int .u32 0, .int .u8 0, .bool false, .int .u8 0, .int .u8 0, .int .u8 0, .int .i64 0, .int .u8 0, .int .u8 0, .int .u32 0, .int .u8 0, .slice none 0 0, .slice none 0 0, .slice none 0 0, .int .u8 0, .int .u8 0, .int .u8 0, .int .i64 0]
theorem zr_rz : zr = rcs rz := rfl
/-- What rec.read hands back. -/
def GivesRd (W : World) (B : Nat) (Bs : List Nat) (e : Ending) (w' : World) : Prop := ∃ r L T M, e = .returned (.tuple #[.agg (rcs r), .int .i64 (readE Bs)]) ∧ RvM w' r L T M ∧ (readE Bs = 0 → r.x L T M = (rdX (((numR (0, Bs) 1).2 : Nat) : Int) (numR (0, Bs) 1).1).rx) ∧ Chg (fun k => k = B) W w' ∧ (∀ a, r.lp = some a → W.heap.size ≤ a.block) ∧ (∀ a, r.tp = some a → W.heap.size ≤ a.block) ∧ (∀ a, r.wp = some a → W.heap.size ≤ a.block)
theorem no_lists {r : Rv} (h : r.lp = none ∧ r.ln = 0 ∧ r.lcp = 0 ∧ r.tp = none ∧ r.tn = 0 ∧ r.tcp = 0 ∧ r.wp = none ∧ r.wn = 0 ∧ r.wcp = 0) (w : World) : RvM w r [] [] [] := by
  obtain ⟨e1, e2, e3, e4, e5, e6, e7, e8, e9⟩ := h
  unfold RvM
  rw [e1, e2, e3, e4, e5, e6, e7, e8, e9]
  exact ⟨SlG.empty _, SlG.empty _, SlG.empty _⟩
end Go.Proofs.YtdcanppiiikjgaaGreatDoor
