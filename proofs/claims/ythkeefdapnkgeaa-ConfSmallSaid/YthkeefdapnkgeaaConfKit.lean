/- A declaration and a configuration as cells; how much of a volume a configuration needs. -/
import Derived.Test.YthkeefdapnkgeaaRowG
import Derived.Test.YthkeefdapnkgeaaConfLeaf
namespace Go.Proofs.Ythkeefdapnkgeaa
open Go.RowKit Go.ChangeShapes Go.WideShapes
set_option linter.unusedVariables false
set_option linter.unusedSimpArgs false

/-- A declaration: its key, Lo, Init, Hi. -/
abbrev D := K × Int × Int × Int
abbrev d0 : D := ((0, 0, 0), 0, 0, 0)
/-- Its cells. -/
def dc (d : D) : List Value := [.int .u8 d.1.1, .int .u8 d.1.2.1, .int .u8 d.1.2.2, .int .i64 d.2.1, .int .i64 d.2.2.1, .int .i64 d.2.2.2]
def Dok (d : D) : Prop := Kok d.1 ∧ (Lit.int .i64 d.2.1).wf = true ∧ (Lit.int .i64 d.2.2.1).wf = true ∧ (Lit.int .i64 d.2.2.2).wf = true
theorem dc_len (d : D) : (dc d).length = 6 := rfl
theorem dc_one (d : D) : ∀ u ∈ dc d, u.oneCell' = true := by
  intro u hu
  simp only [dc, List.mem_cons, List.not_mem_nil, or_false] at hu
  rcases hu with rfl | rfl | rfl | rfl | rfl | rfl <;> rfl
abbrev DL (w : World) (p : Option Addr) (n c : Nat) (M : List D) : Prop := SlG dc 6 d0 w p n c M
abbrev FillD (W wr : World) (v : Value) (M : List D) (N : Nat) : Prop := FillG dc 6 39 W wr v M N
abbrev GivesD (W : World) (M : List D) (e : Ending) (w' : World) : Prop := GivesG dc 6 d0 W M e w'
theorem infoDecl : (Try.prog.info? 39).map (fun i => (i.zero, i.size, i.bytes)) = some (some (.agg #[.int .u8 0, .int .u8 0, .int .u8 0, .int .i64 0, .int .i64 0, .int .i64 0]), 6, 32) := by kernel_rfl
def declBox (d : D) : Obj := .cells #[.int .u8 d.1.1, .int .u8 d.1.2.1, .int .u8 d.1.2.2, .int .i64 d.2.1, .int .i64 d.2.2.1, .int .i64 d.2.2.2] 39
theorem decl_cells {w : World} {p : Option Addr} {n c : Nat} {M : List D} (h : DL w p n c M) {j : Nat} (hj : j < n) : ∃ b off, p = some ⟨b, off, none⟩ ∧ b < w.heap.size ∧ w.cell? ⟨b, off + j * 6, none⟩ = some (.int .u8 (M.getD j d0).1.1) ∧ w.cell? ⟨b, off + j * 6 + 1, none⟩ = some (.int .u8 (M.getD j d0).1.2.1) ∧ w.cell? ⟨b, off + j * 6 + 2, none⟩ = some (.int .u8 (M.getD j d0).1.2.2)
    ∧ w.cell? ⟨b, off + j * 6 + 3, none⟩ = some (.int .i64 (M.getD j d0).2.1) ∧ w.cell? ⟨b, off + j * 6 + 4, none⟩ = some (.int .i64 (M.getD j d0).2.2.1) ∧ w.cell? ⟨b, off + j * 6 + 5, none⟩ = some (.int .i64 (M.getD j d0).2.2.2) := by
  obtain ⟨b, off, rfl, hb, hc⟩ := h.cell (by omega)
  exact ⟨b, off, rfl, hb, hc j hj 0 _ rfl, hc j hj 1 _ rfl, hc j hj 2 _ rfl, hc j hj 3 _ rfl, hc j hj 4 _ rfl, hc j hj 5 _ rfl⟩
/-- append of one declaration onto a row of declarations. -/
theorem wpList_append_decl {w : World} {ops : Array Oper} {rest : List Oper} {o : Oper} {a : Act} {Q : Exit → Act → World → Prop} (hgd : o.guard = none) (s x : Operand)
    (ho : o.op = .call { callee := .builtin .append, args := #[s, x], argTypes := #[26, 26] })
    (base : Nat) (v : Value) (n : Nat) (M : List D) (hs : a.eval s = v) (hr : w.ownsRow base 39 6 v n (flatG dc M)) (hn : n ≤ 1000000) (e : D) (B : Nat)
    (hx : a.eval x = .slice (some ⟨B, 0, none⟩) 1 1) (hc : ∀ i u, (dc e)[i]? = some u → w.cell? ⟨B, i, none⟩ = some u) (hbase : base ≤ w.heap.size)
    (h : ∀ v' w', w'.ownsRow base 39 6 v' (n + 1) (flatG dc (M ++ [e])) → w.grownBy w' v.ownBlock → wpList Try.prog ops Q rest (a.put o.dst v') w') : wpList Try.prog ops Q (o :: rest) a w :=
  wpList_append_g dc_len dc_one (by decide) hgd s x _ _ ho Try.underlying26 _ 32 infoDecl rfl (by omega) base v n M hs hr hn e B hx hc hbase h
/-- A configuration. -/
structure Cf where
  s : Int
  w : Int
  fp : Option Addr
  fn : Nat
  fc : Nat
  pr : Nat → Int
  sg : Int
  od : Int
  rt : Int
  se : Int
  cp : Int
  bk : Int
  bs : Int
/-- Its cells. -/
def cc (C : Cf) : Array Value := #[.int .i64 C.s, .int .i64 C.w, .slice C.fp C.fn C.fc, .int .u8 (C.pr 0), .int .u8 (C.pr 1), .int .u8 (C.pr 2), .int .u8 (C.pr 3), .int .u8 (C.pr 4), .int .u8 (C.pr 5), .int .u8 (C.pr 6), .int .u8 (C.pr 7), .int .u8 (C.pr 8), .int .u8 (C.pr 9), .int .u8 (C.pr 10), .int .u8 (C.pr 11), .int .u8 (C.pr 12), .int .u8 (C.pr 13), .int .u8 (C.pr 14), .int .u8 (C.pr 15), .int .i64 C.sg, .int .i64 C.od, .int .i64 C.rt, .int .i64 C.se, .int .i64 C.cp, .int .i64 C.bk, .int .i64 C.bs]
theorem heads_any (C : Cf) (b : Nat) (hb : C.bk = b) (h1 : 16 ≤ b) (h2 : b ≤ 1000000) (hn : C.fn ≤ 1000000) (W : World) : Calls Try.prog 19 #[.agg (cc C)] W fun e w' => e = .returned (.int .i64 (piecesN C.fn (b / 16) : Nat)) ∧ Below W.heap.size W w' := by
  obtain ⟨s, w, fp, fn, fc, pr, sg, od, rt, se, cp, bk, bs⟩ := C
  replace hb : bk = b := hb
  subst hb
  replace hn : fn ≤ 1000000 := hn
  have hp := fun W => pieces_any fn (b / 16) (by omega) (by omega) (by omega) W
  have e1 : (b : Int).tdiv 16 = ((b / 16 : Nat) : Int) := rfl
  have hz : b / 16 ≤ b := Nat.div_le_self b 16
  simp only [cc]
  generalize b / 16 = z at *
  go_enter Try.func19, Try.ntmps19
  go_wp2_with fail
  refine (hp _).mono ?_
  rintro e w' ⟨rfl, hb⟩
  go_wp2_with fail
  go_ret
  exact ⟨rfl, ((Below.refl _ _).alloc (Nat.le_refl _) _).trans (hb.mono (by simp))⟩
end Go.Proofs.Ythkeefdapnkgeaa
