/- Records as plain data: whether one may be, its bytes, what bytes are as one. Nothing of the program's text. -/
/- A record in memory: its cells, a block that holds it, loads and stores of the whole and of its program. -/
/- Whether a record may be: by its kind, as the document says. Nothing of the program's text. -/
import Derived.Test.YtdcanppiiikjgaaGreatDoorGrProgf
import Derived.Test.YtdcanppiiikjgaaGreatDoorGrKey
import Derived.Test.YtdcanppiiikjgaaGreatDoorPgRow
import Derived.Test.YtdcanppiiikjgaaGreatDoorPgTakes
import Derived.Test.YtdcanppiiikjgaaGreatDoorGrBase
import Derived.Laws.Rows
import Derived.Laws.Tables
import Derived.KernelRfl
namespace Go.Proofs.YtdcanppiiikjgaaGreatDoor
open Go.RowKit Go.ChangeShapes Go.WideShapes
set_option linter.unusedVariables false
set_option maxRecDepth 10000

/-- A record. -/
structure Rx where
  k : Int
  sg : Int
  tx : Int
  st : Int
  cp : Bool
  key : K
  d : Int
  o : Int
  pg : Pg
deriving DecidableEq
structure Rxok (X : Rx) : Prop where
  k : 0 ≤ X.k ∧ X.k ≤ 255
  sg : 0 ≤ X.sg ∧ X.sg ≤ 4294967295
  tx : 0 ≤ X.tx ∧ X.tx ≤ 4294967295
  st : 0 ≤ X.st ∧ X.st ≤ 255
  key : Kok X.key
  d : In64 X.d
  o : 0 ≤ X.o ∧ X.o ≤ 255
  pg : Pgok X.pg
/-- What records of a kind have. -/
def kS (k : Int) : Bool := k == 1 || k == 2 || k == 8 || k == 9
def kT (k : Int) : Bool := k == 2 || k == 3 || k == 4 || k == 5 || k == 6 || k == 7
def kB (k : Int) : Bool := k == 2
def kA (k : Int) : Bool := k == 3 || k == 6
def kO (k : Int) : Bool := k == 9
def kP (k : Int) : Bool := k == 1
def kOk (k : Int) : Bool := k == 1 || k == 2 || k == 3 || k == 4 || k == 5 || k == 6 || k == 7 || k == 8 || k == 9
def stepB (h : Bool) (st : Int) (cp : Bool) : Bool := if h then decide (st < 5) else (st == 0 && !cp)
def addB (h : Bool) (key : K) (d : Int) : Bool := if h then (goodB 4 4 key.1 key.2.1 key.2.2 && d != 0) && d != -9223372036854775808 else (decide (key = (0, 0, 0)) && d == 0)
def outB (h : Bool) (o : Int) : Bool := if h then (o == 1 || o == 2) else o == 0
def progB (h : Bool) (pg : Pg) : Bool := if h then goodP 4 4 pg else decide (pg = noP)
/-- Whether a record may be. -/
def goodX (X : Rx) : Bool := kOk X.k && (kS X.k == (X.sg != 0)) && (kT X.k == (X.tx != 0)) && stepB (kB X.k) X.st X.cp && addB (kA X.k) X.key X.d && outB (kO X.k) X.o && progB (kP X.k) X.pg
/-- Nothing at all. -/
def noX : Rx := ⟨0, 0, 0, 0, false, (0, 0, 0), 0, 0, noP⟩
def bitN (b : Bool) : Nat := if b then 1 else 0
def keyB (k : K) : List Nat := [k.1.toNat, k.2.1.toNat, k.2.2.toNat]
/-- A record's bytes. -/
def bytesX (X : Rx) : List Nat := le X.k.toNat 1 ++ ((if kS X.k then le X.sg.toNat 4 else []) ++ ((if kT X.k then le X.tx.toNat 4 else []) ++ ((if kB X.k then le X.st.toNat 1 ++ [bitN X.cp] else []) ++ ((if kA X.k then keyB X.key ++ le (u64 X.d) 8 else []) ++ ((if kO X.k then le X.o.toNat 1 else []) ++ (if kP X.k then le (bytesP X.pg).length 2 ++ bytesP X.pg else []))))))
/-- What is left, the record as it was read, what was wrong in its program. -/
structure Rdd where
  st : St
  rx : Rx
  er : Int
def keyR (S : St) : St × K := ((numR (numR (numR S 1).1 1).1 1).1, (((numR S 1).2 : Nat), ((numR (numR S 1).1 1).2 : Nat), ((numR (numR (numR S 1).1 1).1 1).2 : Nat)))
def rd1 (S : St) : Rdd :=
  let a := numR S 4
  let b := bytesR a.1 512
  if b.1.1 = 0 then ⟨b.1, { noX with k := 1, sg := (a.2 : Nat), pg := (decP b.2).2 }, (decP b.2).1⟩ else ⟨b.1, { noX with k := 1, sg := (a.2 : Nat) }, 0⟩
def rd2 (S : St) : Rdd :=
  let a := numR S 4
  let b := numR a.1 4
  let c := numR b.1 1
  let e := boolR c.1
  ⟨e.1, { noX with k := 2, sg := (a.2 : Nat), tx := (b.2 : Nat), st := (c.2 : Nat), cp := e.2 }, 0⟩
def rd3 (k : Int) (S : St) : Rdd :=
  let a := numR S 4
  let b := keyR a.1
  let c := numR b.1 8
  ⟨c.1, { noX with k := k, tx := (a.2 : Nat), key := b.2, d := sgn c.2 }, 0⟩
def rd4 (k : Int) (S : St) : Rdd :=
  let a := numR S 4
  ⟨a.1, { noX with k := k, tx := (a.2 : Nat) }, 0⟩
def rd8 (S : St) : Rdd :=
  let a := numR S 4
  ⟨a.1, { noX with k := 8, sg := (a.2 : Nat) }, 0⟩
def rd9 (S : St) : Rdd :=
  let a := numR S 4
  let b := numR a.1 1
  ⟨b.1, { noX with k := 9, sg := (a.2 : Nat), o := (b.2 : Nat) }, 0⟩
/-- All that stands behind the first byte. -/
def rdX (k : Int) (S : St) : Rdd :=
  if k = 1 then rd1 S else if k = 2 then rd2 S else if k = 3 ∨ k = 6 then rd3 k S else if k = 4 ∨ k = 5 ∨ k = 7 then rd4 k S else if k = 8 then rd8 S else rd9 S
/-- What was wrong first, up to the end of the bytes. -/
def rdE (R : Rdd) : Int := if R.er = 0 then endR R.st else R.er
/-- What is decoded, or the first error. -/
def decX (B : List Nat) : Int × Rx :=
  let r := numR (0, B) 1
  if kOk ((r.2 : Nat) : Int) = true then
    let R := rdX ((r.2 : Nat) : Int) r.1
    if rdE R ≠ 0 then (rdE R, noX) else if goodX R.rx = true then (0, R.rx) else (8, noX)
  else ((if r.1.1 ≠ 0 then r.1.1 else 8), noX)
theorem kOk_cases {k : Int} (h : kOk k = true) : k = 1 ∨ k = 2 ∨ k = 3 ∨ k = 4 ∨ k = 5 ∨ k = 6 ∨ k = 7 ∨ k = 8 ∨ k = 9 := by
  simp only [kOk, Bool.or_eq_true, beq_iff_eq] at h
  omega
theorem not_kOk {k : Int} (h : kOk k = false) : k ≠ 1 ∧ k ≠ 2 ∧ k ≠ 3 ∧ k ≠ 4 ∧ k ≠ 5 ∧ k ≠ 6 ∧ k ≠ 7 ∧ k ≠ 8 ∧ k ≠ 9 := by
  simp only [kOk, Bool.or_eq_false_iff, beq_eq_false_iff_ne] at h
  omega
theorem goodX_kOk {X : Rx} (h : goodX X = true) : kOk X.k = true := by
  unfold goodX at h
  simp only [Bool.and_eq_true] at h
  exact h.1.1.1.1.1.1
theorem goodX_prog {X : Rx} (h : goodX X = true) : progB (kP X.k) X.pg = true := by
  unfold goodX at h
  simp only [Bool.and_eq_true] at h
  exact h.2
theorem pg_few {P : Pg} (h : goodP 4 4 P = true) : (bytesP P).length ≤ 400 := by
  obtain ⟨s1, s2, s3⟩ := good_small h
  unfold bytesP lnsB tksB
  simp only [List.length_append, le_len, lnf_len, tkf_len]
  omega
/-- How many bytes a record of a kind has, but of a start. -/
def lenK (k : Int) : Nat := if k = 1 then 7 else if k = 2 then 11 else if k = 3 ∨ k = 6 then 16 else if k = 9 then 6 else 5
theorem bytes_len {X : Rx} (h : kOk X.k = true) : (bytesX X).length = lenK X.k + if X.k = 1 then (bytesP X.pg).length else 0 := by
  unfold bytesX
  rcases kOk_cases h with h | h | h | h | h | h | h | h | h <;> rw [h] <;> simp [kS, kT, kB, kA, kO, kP, lenK, le_len, keyB] <;> omega
end Go.Proofs.YtdcanppiiikjgaaGreatDoor
namespace Go.Proofs.YtdcanppiiikjgaaGreatDoor
open Go.RowKit Go.ChangeShapes Go.WideShapes
set_option linter.unusedVariables false
set_option maxRecDepth 10000

/-- What a record's cells hold. -/
structure Rv where
  k : Int
  sg : Int
  tx : Int
  st : Int
  cp : Bool
  ka : Int
  kb : Int
  kc : Int
  d : Int
  o : Int
  pk : Int
  od : Int
  po : Int
  lp : Option Addr
  ln : Nat
  lcp : Nat
  tp : Option Addr
  tn : Nat
  tcp : Nat
  wp : Option Addr
  wn : Nat
  wcp : Nat
  sk : Int
  fr : Int
  to : Int
  q : Int
/-- Its program's cells. -/
def pcs (r : Rv) : Array Value := #[.int .u8 r.pk, .int .u32 r.od, .int .u8 r.po, .slice r.lp r.ln r.lcp, .slice r.tp r.tn r.tcp, .slice r.wp r.wn r.wcp, .int .u8 r.sk, .int .u8 r.fr, .int .u8 r.to, .int .i64 r.q]
/-- All its cells. -/
def rcs (r : Rv) : Array Value := #[.int .u8 r.k, .int .u32 r.sg, .int .u32 r.tx, .int .u8 r.st, .bool r.cp, .int .u8 r.ka, .int .u8 r.kb, .int .u8 r.kc, .int .i64 r.d, .int .u8 r.o, .int .u8 r.pk, .int .u32 r.od, .int .u8 r.po, .slice r.lp r.ln r.lcp, .slice r.tp r.tn r.tcp, .slice r.wp r.wn r.wcp, .int .u8 r.sk, .int .u8 r.fr, .int .u8 r.to, .int .i64 r.q]
/-- The empty one. -/
def rz : Rv := ⟨0, 0, 0, 0, false, 0, 0, 0, 0, 0, 0, 0, 0, none, 0, 0, none, 0, 0, none, 0, 0, 0, 0, 0, 0⟩
/-- The same, as plain data, over its lists. -/
def Rv.pg (r : Rv) (L : List Ln) (T : List Tk) (M : List Ln) : Pg := ⟨r.pk, r.od, r.po, L, T, M, r.sk, r.fr, r.to, r.q⟩
def Rv.x (r : Rv) (L : List Ln) (T : List Tk) (M : List Ln) : Rx := ⟨r.k, r.sg, r.tx, r.st, r.cp, (r.ka, r.kb, r.kc), r.d, r.o, r.pg L T M⟩
/-- Its lists' memory. -/
abbrev RvM (w : World) (r : Rv) (L : List Ln) (T : List Tk) (M : List Ln) : Prop := PgM w r.lp r.ln r.lcp L r.tp r.tn r.tcp T r.wp r.wn r.wcp M
theorem rz_x : rz.x [] [] [] = noX := rfl
theorem rz_m (w : World) : RvM w rz [] [] [] := ⟨SlG.empty _, SlG.empty _, SlG.empty _⟩
theorem rcs_size (r : Rv) : (rcs r).size = 20 := rfl
theorem rcs_one (r : Rv) : (rcs r).all (·.oneCell') = true := by simp [rcs, Value.oneCell']
/-- The block B holds the record r. -/
def RB (w : World) (B : Nat) (r : Rv) : Prop := w.heap[B]? = some (.cells (rcs r) 30 (0, 0))
theorem RB.later {w w' : World} {B : Nat} {r : Rv} (h : RB w B r) (hb : Below w.heap.size w w') : RB w' B r := block_later h hb
theorem RB.new (w : World) (r : Rv) : RB (w.alloc (.cells (rcs r) 30)) w.heap.size r := alloc_block _ _
theorem RB.lt {w : World} {B : Nat} {r : Rv} (h : RB w B r) : B < w.heap.size := block_lt h
theorem RB.at {w : World} {B : Nat} {r : Rv} (h : RB w B r) : w.cell? ⟨B, 0, none⟩ = some (.int .u8 r.k) ∧ w.cell? ⟨B, 1, none⟩ = some (.int .u32 r.sg) ∧ w.cell? ⟨B, 2, none⟩ = some (.int .u32 r.tx) ∧ w.cell? ⟨B, 3, none⟩ = some (.int .u8 r.st) ∧ w.cell? ⟨B, 4, none⟩ = some (.bool r.cp) ∧ w.cell? ⟨B, 5, none⟩ = some (.int .u8 r.ka) ∧ w.cell? ⟨B, 6, none⟩ = some (.int .u8 r.kb) ∧ w.cell? ⟨B, 7, none⟩ = some (.int .u8 r.kc) ∧ w.cell? ⟨B, 8, none⟩ = some (.int .i64 r.d) ∧ w.cell? ⟨B, 9, none⟩ = some (.int .u8 r.o) :=
  ⟨block_cell h rfl, block_cell h rfl, block_cell h rfl, block_cell h rfl, block_cell h rfl, block_cell h rfl, block_cell h rfl, block_cell h rfl, block_cell h rfl, block_cell h rfl⟩
theorem RB.free {w : World} {B : Nat} {r : Rv} (h : RB w B r) (j : Nat) : w.frozen? ⟨B, j, none⟩ = false := block_free j h
/-- One cell put. -/
theorem RB.put {w : World} {B : Nat} {r : Rv} (h : RB w B r) (j : Nat) (v : Value) (r' : Rv) (he : (rcs r).setIfInBounds j v = rcs r') : RB (w.setCell ⟨B, j, none⟩ v) B r' := by
  have := block_put j v h
  rw [he] at this
  exact this
theorem RB.chg {S : Nat → Prop} {w w' : World} {B : Nat} {r : Rv} (h : RB w B r) (hc : Chg S w w') (hs : ¬ S B) : RB w' B r := (hc.block B (block_lt h) hs).trans h
theorem RB.set {w : World} {B : Nat} {r : Rv} (h : RB w B r) (r' : Rv) : RB (w.setRow B (rcs r')) B r' := setRow_heap _ _ _ _ _ _ h
/-- A whole record out of its block: one law, and no cell by itself. -/
theorem wpList_load_rc {ops : Array Oper} {rest : List Oper} {a : Act} {w : World} {Q : Exit → Act → World → Prop} {dst : Option Tmp} {x : Operand} {ty : TypeId} {pos : String} {after : Array Edge} {B : Nat} {r : Rv} (hC : RB w B r) (hx : a.eval x = .pointer (some ⟨B, 0, none⟩))
    (h : wpList Tryz.prog ops Q rest (a.put dst (.agg (rcs r))) w) : wpList Tryz.prog ops Q (Oper.mk dst (.load 30 x) ty pos after none :: rest) a w :=
  wpList_load_row rfl 30 x rfl B hx 30 (rcs r) (0, 0) _ hC Tryz.underlying30 rfl (by kernel_rfl) h
theorem wpList_load_rcg {ops : Array Oper} {rest : List Oper} {a : Act} {w : World} {Q : Exit → Act → World → Prop} {dst : Option Tmp} {x : Operand} {ty : TypeId} {pos : String} {after : Array Edge} {gd : Option (Nat × Bool)} {B : Nat} {r : Rv} (hC : RB w B r) (hw : Region.wanted (Oper.mk dst (.load 30 x) ty pos after gd) (yielded ops a.tmps) = true) (hx : a.eval x = .pointer (some ⟨B, 0, none⟩))
    (h : wpList Tryz.prog ops Q rest (a.put dst (.agg (rcs r))) w) : wpList Tryz.prog ops Q (Oper.mk dst (.load 30 x) ty pos after gd :: rest) a w :=
  wpList_step fun K hK => by
    rw [if_pos hw]
    exact wp_load_row 30 x rfl B hx 30 (rcs r) (0, 0) _ hC Tryz.underlying30 rfl (by kernel_rfl) (hK _ _ h)
theorem rcs_prog (r : Rv) : ∀ j, j < (pcs r).size → (rcs r)[10 + j]? = (pcs r)[j]? := by
  intro j hj
  have h10 : j < 10 := hj
  rcases (by omega : j = 0 ∨ j = 1 ∨ j = 2 ∨ j = 3 ∨ j = 4 ∨ j = 5 ∨ j = 6 ∨ j = 7 ∨ j = 8 ∨ j = 9) with rfl | rfl | rfl | rfl | rfl | rfl | rfl | rfl | rfl | rfl <;> rfl
/-- Its program. -/
theorem wpList_load_pr {ops : Array Oper} {rest : List Oper} {a : Act} {w : World} {Q : Exit → Act → World → Prop} {dst : Option Tmp} {x : Operand} {ty : TypeId} {pos : String} {after : Array Edge} {B : Nat} {r : Rv} (hC : RB w B r) (hx : a.eval x = .pointer (some ⟨B, 10, none⟩))
    (h : wpList Tryz.prog ops Q rest (a.put dst (.agg (pcs r))) w) : wpList Tryz.prog ops Q (Oper.mk dst (.load 28 x) ty pos after none :: rest) a w :=
  wpList_load_part rfl 28 x rfl B 10 hx 30 (rcs r) (pcs r) (0, 0) _ hC (rcs_prog r) Tryz.underlying28 rfl (by kernel_rfl) h
theorem wpList_load_prg {ops : Array Oper} {rest : List Oper} {a : Act} {w : World} {Q : Exit → Act → World → Prop} {dst : Option Tmp} {x : Operand} {ty : TypeId} {pos : String} {after : Array Edge} {gd : Option (Nat × Bool)} {B : Nat} {r : Rv} (hC : RB w B r) (hw : Region.wanted (Oper.mk dst (.load 28 x) ty pos after gd) (yielded ops a.tmps) = true) (hx : a.eval x = .pointer (some ⟨B, 10, none⟩))
    (h : wpList Tryz.prog ops Q rest (a.put dst (.agg (pcs r))) w) : wpList Tryz.prog ops Q (Oper.mk dst (.load 28 x) ty pos after gd :: rest) a w :=
  wpList_step fun K hK => by
    rw [if_pos hw]
    unfold Oper.wp execOp
    simp only [hx, Instr.loadAt, Instr.sureAddr, Sem.run_bind, Sem.run_pure, Result.andThen_ok, run_loadVar_part w B 10 30 28 (rcs r) (pcs r) (0, 0) _ hC (rcs_prog r) Tryz.underlying28 rfl (by kernel_rfl)]
    exact hK _ _ h
/-- A whole record into a block that holds one. -/
theorem wpList_store_rc (r' : Rv) {ops : Array Oper} {rest : List Oper} {a : Act} {w : World} {Q : Exit → Act → World → Prop} {dst : Option Tmp} {x y : Operand} {ty : TypeId} {pos : String} {after : Array Edge} {B : Nat} {r : Rv} (hB : RB w B r)
    (hx : a.eval x = .pointer (some ⟨B, 0, none⟩)) (hy : a.eval y = .agg (rcs r'))
    (h : wpList Tryz.prog ops Q rest (a.put dst undef) (w.setRow B (rcs r'))) : wpList Tryz.prog ops Q (Oper.mk dst (.store 30 x y) ty pos after none :: rest) a w :=
  wpList_store_row rfl 30 x y rfl B (rcs r') hx hy 30 (rcs r) hB (by kernel_rfl) rfl (rcs_one r') h
/-- A program into its record. -/
def Rv.withP (r p : Rv) : Rv := { r with pk := p.pk, od := p.od, po := p.po, lp := p.lp, ln := p.ln, lcp := p.lcp, tp := p.tp, tn := p.tn, tcp := p.tcp, wp := p.wp, wn := p.wn, wcp := p.wcp, sk := p.sk, fr := p.fr, to := p.to, q := p.q }
theorem put_prog (r p : Rv) : putAt (rcs r) 10 (pcs p).toList = rcs (r.withP p) := by simp [putAt, rcs, pcs, Rv.withP]
theorem pcs_one (r : Rv) : (pcs r).all (·.oneCell') = true := by simp [pcs, Value.oneCell']
theorem wpList_store_pr (p : Rv) {ops : Array Oper} {rest : List Oper} {a : Act} {w : World} {Q : Exit → Act → World → Prop} {dst : Option Tmp} {x y : Operand} {ty : TypeId} {pos : String} {after : Array Edge} {B : Nat} {r : Rv} (hB : RB w B r)
    (hx : a.eval x = .pointer (some ⟨B, 10, none⟩)) (hy : a.eval y = .agg (pcs p))
    (h : wpList Tryz.prog ops Q rest (a.put dst undef) (w.setRow B (rcs (r.withP p)))) : wpList Tryz.prog ops Q (Oper.mk dst (.store 28 x y) ty pos after none :: rest) a w :=
  wpList_store_part rfl 28 x y rfl B 10 (pcs p) hx hy 30 (rcs r) hB (by kernel_rfl) (by show 10 + 10 ≤ 20; omega) (pcs_one p) (by rw [put_prog]; exact h)
theorem results_rc {fn : Func} (h : fn.results = #[.cell 2 30, .tmp 3]) (tmps : Array Value) (W : World) (R : Nat) (r : Rv) (v : Value) (hp : tmps.getD 2 undef = .pointer (some ⟨R, 0, none⟩)) (hv : tmps.getD 3 undef = v)
    (hB : RB W R r) : (results fn tmps).run Tryz.prog W = .ok (.tuple #[.agg (rcs r), v]) W := by
  rw [results_cell_tmp h, hp, hv]
  simp [asAddr, Result.andThen, run_loadVar_row W R 30 30 (rcs r) (0, 0) _ hB Tryz.underlying30 rfl (by kernel_rfl)]
end Go.Proofs.YtdcanppiiikjgaaGreatDoor
namespace Go.Proofs.YtdcanppiiikjgaaGreatDoor
open Go.RowKit Go.ChangeShapes Go.WideShapes
set_option linter.unusedVariables false
set_option linter.unusedSimpArgs false
set_option maxRecDepth 10000

theorem gk1 (sg tx st : Int) (cp : Bool) (key : K) (d o : Int) (pg : Pg) : goodX ⟨1, sg, tx, st, cp, key, d, o, pg⟩ = ((sg != 0) && goodP 4 4 pg && decide ((⟨1, sg, tx, st, cp, key, d, o, pg⟩ : Rx) = ⟨1, sg, 0, 0, false, (0, 0, 0), 0, 0, pg⟩)) := by
  rw [Bool.eq_iff_iff]
  simp [goodX, kOk, kS, kT, kB, kA, kO, kP, stepB, addB, outB, progB]
  grind
theorem gk2 (sg tx st : Int) (cp : Bool) (key : K) (d o : Int) (pg : Pg) : goodX ⟨2, sg, tx, st, cp, key, d, o, pg⟩ = ((sg != 0) && (tx != 0) && decide (st < 5) && decide ((⟨2, sg, tx, st, cp, key, d, o, pg⟩ : Rx) = ⟨2, sg, tx, st, cp, (0, 0, 0), 0, 0, noP⟩)) := by
  rw [Bool.eq_iff_iff]
  simp [goodX, kOk, kS, kT, kB, kA, kO, kP, stepB, addB, outB, progB]
  grind
theorem gk3 (sg tx st : Int) (cp : Bool) (key : K) (d o : Int) (pg : Pg) (hd : In64 d) : goodX ⟨3, sg, tx, st, cp, key, d, o, pg⟩ = ((tx != 0) && goodB 4 4 key.1 key.2.1 key.2.2 && (d != 0) && decide (-9223372036854775807 ≤ d) && decide ((⟨3, sg, tx, st, cp, key, d, o, pg⟩ : Rx) = ⟨3, 0, tx, 0, false, key, d, 0, noP⟩)) := by
  have h1 := hd.1
  have h2 : (d != -9223372036854775808) = decide (-9223372036854775807 ≤ d) := by
    rw [Bool.eq_iff_iff]; simp; omega
  rw [Bool.eq_iff_iff]
  simp [goodX, kOk, kS, kT, kB, kA, kO, kP, stepB, addB, outB, progB, h2]
  grind
theorem gk6 (sg tx st : Int) (cp : Bool) (key : K) (d o : Int) (pg : Pg) (hd : In64 d) : goodX ⟨6, sg, tx, st, cp, key, d, o, pg⟩ = ((tx != 0) && goodB 4 4 key.1 key.2.1 key.2.2 && (d != 0) && decide (-9223372036854775807 ≤ d) && decide ((⟨6, sg, tx, st, cp, key, d, o, pg⟩ : Rx) = ⟨6, 0, tx, 0, false, key, d, 0, noP⟩)) := by
  have h1 := hd.1
  have h2 : (d != -9223372036854775808) = decide (-9223372036854775807 ≤ d) := by
    rw [Bool.eq_iff_iff]; simp; omega
  rw [Bool.eq_iff_iff]
  simp [goodX, kOk, kS, kT, kB, kA, kO, kP, stepB, addB, outB, progB, h2]
  grind
theorem gk4 (k sg tx st : Int) (cp : Bool) (key : K) (d o : Int) (pg : Pg) (hk : k = 4 ∨ k = 5 ∨ k = 7) : goodX ⟨k, sg, tx, st, cp, key, d, o, pg⟩ = ((tx != 0) && decide ((⟨k, sg, tx, st, cp, key, d, o, pg⟩ : Rx) = ⟨k, 0, tx, 0, false, (0, 0, 0), 0, 0, noP⟩)) := by
  rw [Bool.eq_iff_iff]
  rcases hk with rfl | rfl | rfl <;> simp [goodX, kOk, kS, kT, kB, kA, kO, kP, stepB, addB, outB, progB] <;> grind
theorem gk8 (sg tx st : Int) (cp : Bool) (key : K) (d o : Int) (pg : Pg) : goodX ⟨8, sg, tx, st, cp, key, d, o, pg⟩ = ((sg != 0) && decide ((⟨8, sg, tx, st, cp, key, d, o, pg⟩ : Rx) = ⟨8, sg, 0, 0, false, (0, 0, 0), 0, 0, noP⟩)) := by
  rw [Bool.eq_iff_iff]
  simp [goodX, kOk, kS, kT, kB, kA, kO, kP, stepB, addB, outB, progB]
  grind
theorem gk9 (sg tx st : Int) (cp : Bool) (key : K) (d o : Int) (pg : Pg) : goodX ⟨9, sg, tx, st, cp, key, d, o, pg⟩ = ((sg != 0) && ((o == 1) || (o == 2)) && decide ((⟨9, sg, tx, st, cp, key, d, o, pg⟩ : Rx) = ⟨9, sg, 0, 0, false, (0, 0, 0), 0, o, noP⟩)) := by
  rw [Bool.eq_iff_iff]
  simp [goodX, kOk, kS, kT, kB, kA, kO, kP, stepB, addB, outB, progB]
  grind
end Go.Proofs.YtdcanppiiikjgaaGreatDoor
