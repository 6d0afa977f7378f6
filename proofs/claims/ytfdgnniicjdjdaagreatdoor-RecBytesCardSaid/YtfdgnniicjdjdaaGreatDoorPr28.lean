import Derived.Test.YtfdgnniicjdjdaaGreatDoorPr27
namespace Go.Proofs.YtfdgnniicjdjdaaGreatDoor
open Go.RowKit Go.ChangeShapes Go.WideShapes
set_option linter.unusedVariables false
set_option maxRecDepth 10000
set_option linter.unusedSimpArgs false
structure Rx where
 k : Int
 sg : Int
 tx : Int
 st : Int
 cp : Bool
 key : K
 d : Int
 o : Int
 pg : Pg
deriving DecidableEq
structure Rxok (X : Rx) : Prop where
 k : 0 ≤ X.k ∧ X.k ≤ 255
 sg : 0 ≤ X.sg ∧ X.sg ≤ 4294967295
 tx : 0 ≤ X.tx ∧ X.tx ≤ 4294967295
 st : 0 ≤ X.st ∧ X.st ≤ 255
 key : Kok X.key
 d : In64 X.d
 o : 0 ≤ X.o ∧ X.o ≤ 255
 pg : Pgok X.pg
def kS (k : Int) : Bool := k == 1 || k == 2 || k == 8 || k == 9
def kT (k : Int) : Bool := k == 2 || k == 3 || k == 4 || k == 5 || k == 6 || k == 7
def kB (k : Int) : Bool := k == 2
def kA (k : Int) : Bool := k == 3 || k == 6
def kO (k : Int) : Bool := k == 9
def kP (k : Int) : Bool := k == 1
def kOk (k : Int) : Bool := k == 1 || k == 2 || k == 3 || k == 4 || k == 5 || k == 6 || k == 7 || k == 8 || k == 9
def stepB (h : Bool) (st : Int) (cp : Bool) : Bool := if h then decide (st < 5) else (st == 0 && !cp)
def addB (h : Bool) (key : K) (d : Int) : Bool := if h then (goodB 4 4 key.1 key.2.1 key.2.2 && d != 0) && d != -9223372036854775808 else (decide (key = (0, 0, 0)) && d == 0)
def outB (h : Bool) (o : Int) : Bool := if h then (o == 1 || o == 2) else o == 0
def progB (h : Bool) (pg : Pg) : Bool := if h then goodP 4 4 pg else decide (pg = noP)
def goodX (X : Rx) : Bool := kOk X.k && (kS X.k == (X.sg != 0)) && (kT X.k == (X.tx != 0)) && stepB (kB X.k) X.st X.cp && addB (kA X.k) X.key X.d && outB (kO X.k) X.o && progB (kP X.k) X.pg
def noX : Rx := ⟨0, 0, 0, 0, false, (0, 0, 0), 0, 0, noP⟩
def bitN (b : Bool) : Nat := if b then 1 else 0
def keyB (k : K) : List Nat := [k.1.toNat, k.2.1.toNat, k.2.2.toNat]
def bytesX (X : Rx) : List Nat := le X.k.toNat 1 ++ ((if kS X.k then le X.sg.toNat 4 else []) ++ ((if kT X.k then le X.tx.toNat 4 else []) ++ ((if kB X.k then le X.st.toNat 1 ++ [bitN X.cp] else []) ++ ((if kA X.k then keyB X.key ++ le (u64 X.d) 8 else []) ++ ((if kO X.k then le X.o.toNat 1 else []) ++ (if kP X.k then le (bytesP X.pg).length 2 ++ bytesP X.pg else []))))))
structure Rdd where
 st : St
 rx : Rx
 er : Int
def keyR (S : St) : St × K := ((numR (numR (numR S 1).1 1).1 1).1, (((numR S 1).2 : Nat), ((numR (numR S 1).1 1).2 : Nat), ((numR (numR (numR S 1).1 1).1 1).2 : Nat)))
def rd1 (S : St) : Rdd :=
 let a := numR S 4
 let b := bytesR a.1 512
 if b.1.1 = 0 then ⟨b.1, { noX with k := 1, sg := (a.2 : Nat), pg := (decP b.2).2 }, (decP b.2).1⟩ else ⟨b.1, { noX with k := 1, sg := (a.2 : Nat) }, 0⟩
def rd2 (S : St) : Rdd :=
 let a := numR S 4
 let b := numR a.1 4
 let c := numR b.1 1
 let e := boolR c.1
 ⟨e.1, { noX with k := 2, sg := (a.2 : Nat), tx := (b.2 : Nat), st := (c.2 : Nat), cp := e.2 }, 0⟩
def rd3 (k : Int) (S : St) : Rdd :=
 let a := numR S 4
 let b := keyR a.1
 let c := numR b.1 8
 ⟨c.1, { noX with k := k, tx := (a.2 : Nat), key := b.2, d := sgn c.2 }, 0⟩
def rd4 (k : Int) (S : St) : Rdd :=
 let a := numR S 4
 ⟨a.1, { noX with k := k, tx := (a.2 : Nat) }, 0⟩
def rd8 (S : St) : Rdd :=
 let a := numR S 4
 ⟨a.1, { noX with k := 8, sg := (a.2 : Nat) }, 0⟩
def rd9 (S : St) : Rdd :=
 let a := numR S 4
 let b := numR a.1 1
 ⟨b.1, { noX with k := 9, sg := (a.2 : Nat), o := (b.2 : Nat) }, 0⟩
def rdX (k : Int) (S : St) : Rdd :=
 if k = 1 then rd1 S else if k = 2 then rd2 S else if k = 3 ∨ k = 6 then rd3 k S else if k = 4 ∨ k = 5 ∨ k = 7 then rd4 k S else if k = 8 then rd8 S else rd9 S
def rdE (R : Rdd) : Int := if R.er = 0 then endR R.st else R.er
def decX (B : List Nat) : Int × Rx :=
 let r := numR (0, B) 1
 if kOk ((r.2 : Nat) : Int) = true then
  let R := rdX ((r.2 : Nat) : Int) r.1
  if rdE R ≠ 0 then (rdE R, noX) else if goodX R.rx = true then (0, R.rx) else (8, noX)
 else ((if r.1.1 ≠ 0 then r.1.1 else 8), noX)
theorem kOk_cases {k : Int} (h : kOk k = true) : k = 1 ∨ k = 2 ∨ k = 3 ∨ k = 4 ∨ k = 5 ∨ k = 6 ∨ k = 7 ∨ k = 8 ∨ k = 9 := by
 simp only [kOk, Bool.or_eq_true, beq_iff_eq] at h
 omega
theorem not_kOk {k : Int} (h : kOk k = false) : k ≠ 1 ∧ k ≠ 2 ∧ k ≠ 3 ∧ k ≠ 4 ∧ k ≠ 5 ∧ k ≠ 6 ∧ k ≠ 7 ∧ k ≠ 8 ∧ k ≠ 9 := by
 simp only [kOk, Bool.or_eq_false_iff, beq_eq_false_iff_ne] at h
 omega
theorem goodX_kOk {X : Rx} (h : goodX X = true) : kOk X.k = true := by
 unfold goodX at h
 simp only [Bool.and_eq_true] at h
 exact h.1.1.1.1.1.1
theorem goodX_prog {X : Rx} (h : goodX X = true) : progB (kP X.k) X.pg = true := by
 unfold goodX at h
 simp only [Bool.and_eq_true] at h
 exact h.2
theorem pg_few {P : Pg} (h : goodP 4 4 P = true) : (bytesP P).length ≤ 400 := by
 obtain ⟨s1, s2, s3⟩ := good_small h
 unfold bytesP lnsB tksB
 simp only [List.length_append, le_len, lnf_len, tkf_len]
 omega
def lenK (k : Int) : Nat := if k = 1 then 7 else if k = 2 then 11 else if k = 3 ∨ k = 6 then 16 else if k = 9 then 6 else 5
theorem bytes_len {X : Rx} (h : kOk X.k = true) : (bytesX X).length = lenK X.k + if X.k = 1 then (bytesP X.pg).length else 0 := by
 unfold bytesX
 rcases kOk_cases h with h | h | h | h | h | h | h | h | h <;> rw [h] <;> simp [kS, kT, kB, kA, kO, kP, lenK, le_len, keyB] <;> omega
structure Rv where
 k : Int
 sg : Int
 tx : Int
 st : Int
 cp : Bool
 ka : Int
 kb : Int
 kc : Int
 d : Int
 o : Int
 pk : Int
 od : Int
 po : Int
 lp : Option Addr
 ln : Nat
 lcp : Nat
 tp : Option Addr
 tn : Nat
 tcp : Nat
 wp : Option Addr
 wn : Nat
 wcp : Nat
 sk : Int
 fr : Int
 to : Int
 q : Int
def pcs (r : Rv) : Array Value := #[.int .u8 r.pk, .int .u32 r.od, .int .u8 r.po, .slice r.lp r.ln r.lcp, .slice r.tp r.tn r.tcp, .slice r.wp r.wn r.wcp, .int .u8 r.sk, .int .u8 r.fr, .int .u8 r.to, .int .i64 r.q]
def rcs (r : Rv) : Array Value := #[.int .u8 r.k, .int .u32 r.sg, .int .u32 r.tx, .int .u8 r.st, .bool r.cp, .int .u8 r.ka, .int .u8 r.kb, .int .u8 r.kc, .int .i64 r.d, .int .u8 r.o, .int .u8 r.pk, .int .u32 r.od, .int .u8 r.po, .slice r.lp r.ln r.lcp, .slice r.tp r.tn r.tcp, .slice r.wp r.wn r.wcp, .int .u8 r.sk, .int .u8 r.fr, .int .u8 r.to, .int .i64 r.q]
def rz : Rv := ⟨0, 0, 0, 0, false, 0, 0, 0, 0, 0, 0, 0, 0, none, 0, 0, none, 0, 0, none, 0, 0, 0, 0, 0, 0⟩
def Rv.pg (r : Rv) (L : List Ln) (T : List Tk) (M : List Ln) : Pg := ⟨r.pk, r.od, r.po, L, T, M, r.sk, r.fr, r.to, r.q⟩
def Rv.x (r : Rv) (L : List Ln) (T : List Tk) (M : List Ln) : Rx := ⟨r.k, r.sg, r.tx, r.st, r.cp, (r.ka, r.kb, r.kc), r.d, r.o, r.pg L T M⟩
abbrev RvM (w : World) (r : Rv) (L : List Ln) (T : List Tk) (M : List Ln) : Prop := PgM w r.lp r.ln r.lcp L r.tp r.tn r.tcp T r.wp r.wn r.wcp M
theorem rz_m (w : World) : RvM w rz [] [] [] := ⟨SlG.empty _, SlG.empty _, SlG.empty _⟩
theorem rcs_one (r : Rv) : (rcs r).all (·.oneCell') = true := by simp [rcs, Value.oneCell']
def RB (w : World) (B : Nat) (r : Rv) : Prop := w.heap[B]? = some (.cells (rcs r) 51 (0, 0))
theorem RB.later {w w' : World} {B : Nat} {r : Rv} (h : RB w B r) (hb : Below w.heap.size w w') : RB w' B r := block_later h hb
theorem RB.new (w : World) (r : Rv) : RB (w.alloc (.cells (rcs r) 51)) w.heap.size r := alloc_block _ _
theorem RB.lt {w : World} {B : Nat} {r : Rv} (h : RB w B r) : B < w.heap.size := block_lt h
theorem RB.at {w : World} {B : Nat} {r : Rv} (h : RB w B r) : w.cell? ⟨B, 0, none⟩ = some (.int .u8 r.k) ∧ w.cell? ⟨B, 1, none⟩ = some (.int .u32 r.sg) ∧ w.cell? ⟨B, 2, none⟩ = some (.int .u32 r.tx) ∧ w.cell? ⟨B, 3, none⟩ = some (.int .u8 r.st) ∧ w.cell? ⟨B, 4, none⟩ = some (.bool r.cp) ∧ w.cell? ⟨B, 5, none⟩ = some (.int .u8 r.ka) ∧ w.cell? ⟨B, 6, none⟩ = some (.int .u8 r.kb) ∧ w.cell? ⟨B, 7, none⟩ = some (.int .u8 r.kc) ∧ w.cell? ⟨B, 8, none⟩ = some (.int .i64 r.d) ∧ w.cell? ⟨B, 9, none⟩ = some (.int .u8 r.o) :=
 ⟨block_cell h rfl, block_cell h rfl, block_cell h rfl, block_cell h rfl, block_cell h rfl, block_cell h rfl, block_cell h rfl, block_cell h rfl, block_cell h rfl, block_cell h rfl⟩
theorem RB.put {w : World} {B : Nat} {r : Rv} (h : RB w B r) (j : Nat) (v : Value) (r' : Rv) (he : (rcs r).setIfInBounds j v = rcs r') : RB (w.setCell ⟨B, j, none⟩ v) B r' := by
 have := block_put j v h
 rw [he] at this
 exact this
theorem RB.chg {S : Nat → Prop} {w w' : World} {B : Nat} {r : Rv} (h : RB w B r) (hc : Chg S w w') (hs : ¬ S B) : RB w' B r := (hc.block B (block_lt h) hs).trans h
theorem RB.set {w : World} {B : Nat} {r : Rv} (h : RB w B r) (r' : Rv) : RB (w.setRow B (rcs r')) B r' := setRow_heap _ _ _ _ _ _ h
theorem wpList_load_rc {ops : Array Oper} {rest : List Oper} {a : Act} {w : World} {Q : Exit → Act → World → Prop} {dst : Option Tmp} {x : Operand} {ty : TypeId} {pos : String} {after : Array Edge} {B : Nat} {r : Rv} (hC : RB w B r) (hx : a.eval x = .pointer (some ⟨B, 0, none⟩))
 (h : wpList Tryz.prog ops Q rest (a.put dst (.agg (rcs r))) w) : wpList Tryz.prog ops Q (Oper.mk dst (.load 51 x) ty pos after none :: rest) a w :=
 wpList_load_row rfl 51 x rfl B hx 51 (rcs r) (0, 0) _ hC Tryz.underlying51 rfl (by kernel_rfl) h
theorem wpList_load_rcg {ops : Array Oper} {rest : List Oper} {a : Act} {w : World} {Q : Exit → Act → World → Prop} {dst : Option Tmp} {x : Operand} {ty : TypeId} {pos : String} {after : Array Edge} {gd : Option (Nat × Bool)} {B : Nat} {r : Rv} (hC : RB w B r) (hw : Region.wanted (Oper.mk dst (.load 51 x) ty pos after gd) (yielded ops a.tmps) = true) (hx : a.eval x = .pointer (some ⟨B, 0, none⟩))
 (h : wpList Tryz.prog ops Q rest (a.put dst (.agg (rcs r))) w) : wpList Tryz.prog ops Q (Oper.mk dst (.load 51 x) ty pos after gd :: rest) a w :=
 wpList_step fun K hK => by
  rw [if_pos hw]
  exact wp_load_row 51 x rfl B hx 51 (rcs r) (0, 0) _ hC Tryz.underlying51 rfl (by kernel_rfl) (hK _ _ h)
theorem rcs_prog (r : Rv) : ∀ j, j < (pcs r).size → (rcs r)[10 + j]? = (pcs r)[j]? := by
 intro j hj
 have h10 : j < 10 := hj
 rcases (by omega : j = 0 ∨ j = 1 ∨ j = 2 ∨ j = 3 ∨ j = 4 ∨ j = 5 ∨ j = 6 ∨ j = 7 ∨ j = 8 ∨ j = 9) with rfl | rfl | rfl | rfl | rfl | rfl | rfl | rfl | rfl | rfl <;> rfl
theorem wpList_load_pr {ops : Array Oper} {rest : List Oper} {a : Act} {w : World} {Q : Exit → Act → World → Prop} {dst : Option Tmp} {x : Operand} {ty : TypeId} {pos : String} {after : Array Edge} {B : Nat} {r : Rv} (hC : RB w B r) (hx : a.eval x = .pointer (some ⟨B, 10, none⟩))
 (h : wpList Tryz.prog ops Q rest (a.put dst (.agg (pcs r))) w) : wpList Tryz.prog ops Q (Oper.mk dst (.load 49 x) ty pos after none :: rest) a w :=
 wpList_load_part rfl 49 x rfl B 10 hx 51 (rcs r) (pcs r) (0, 0) _ hC (rcs_prog r) Tryz.underlying49 rfl (by kernel_rfl) h
theorem wpList_load_prg {ops : Array Oper} {rest : List Oper} {a : Act} {w : World} {Q : Exit → Act → World → Prop} {dst : Option Tmp} {x : Operand} {ty : TypeId} {pos : String} {after : Array Edge} {gd : Option (Nat × Bool)} {B : Nat} {r : Rv} (hC : RB w B r) (hw : Region.wanted (Oper.mk dst (.load 49 x) ty pos after gd) (yielded ops a.tmps) = true) (hx : a.eval x = .pointer (some ⟨B, 10, none⟩))
 (h : wpList Tryz.prog ops Q rest (a.put dst (.agg (pcs r))) w) : wpList Tryz.prog ops Q (Oper.mk dst (.load 49 x) ty pos after gd :: rest) a w :=
 wpList_step fun K hK => by
  rw [if_pos hw]
  unfold Oper.wp execOp
  simp only [hx, Instr.loadAt, Instr.sureAddr, Sem.run_bind, Sem.run_pure, Result.andThen_ok, run_loadVar_part w B 10 51 49 (rcs r) (pcs r) (0, 0) _ hC (rcs_prog r) Tryz.underlying49 rfl (by kernel_rfl)]
  exact hK _ _ h
theorem wpList_store_rc (r' : Rv) {ops : Array Oper} {rest : List Oper} {a : Act} {w : World} {Q : Exit → Act → World → Prop} {dst : Option Tmp} {x y : Operand} {ty : TypeId} {pos : String} {after : Array Edge} {B : Nat} {r : Rv} (hB : RB w B r)
 (hx : a.eval x = .pointer (some ⟨B, 0, none⟩)) (hy : a.eval y = .agg (rcs r'))
 (h : wpList Tryz.prog ops Q rest (a.put dst undef) (w.setRow B (rcs r'))) : wpList Tryz.prog ops Q (Oper.mk dst (.store 51 x y) ty pos after none :: rest) a w :=
 wpList_store_row rfl 51 x y rfl B (rcs r') hx hy 51 (rcs r) hB (by kernel_rfl) rfl (rcs_one r') h
def Rv.withP (r p : Rv) : Rv := { r with pk := p.pk, od := p.od, po := p.po, lp := p.lp, ln := p.ln, lcp := p.lcp, tp := p.tp, tn := p.tn, tcp := p.tcp, wp := p.wp, wn := p.wn, wcp := p.wcp, sk := p.sk, fr := p.fr, to := p.to, q := p.q }
theorem put_prog (r p : Rv) : putAt (rcs r) 10 (pcs p).toList = rcs (r.withP p) := by simp [putAt, rcs, pcs, Rv.withP]
theorem pcs_one (r : Rv) : (pcs r).all (·.oneCell') = true := by simp [pcs, Value.oneCell']
theorem wpList_store_pr (p : Rv) {ops : Array Oper} {rest : List Oper} {a : Act} {w : World} {Q : Exit → Act → World → Prop} {dst : Option Tmp} {x y : Operand} {ty : TypeId} {pos : String} {after : Array Edge} {B : Nat} {r : Rv} (hB : RB w B r)
 (hx : a.eval x = .pointer (some ⟨B, 10, none⟩)) (hy : a.eval y = .agg (pcs p))
 (h : wpList Tryz.prog ops Q rest (a.put dst undef) (w.setRow B (rcs (r.withP p)))) : wpList Tryz.prog ops Q (Oper.mk dst (.store 49 x y) ty pos after none :: rest) a w :=
 wpList_store_part rfl 49 x y rfl B 10 (pcs p) hx hy 51 (rcs r) hB (by kernel_rfl) (by show 10 + 10 ≤ 20; omega) (pcs_one p) (by rw [put_prog]; exact h)
theorem results_rc {fn : Func} (h : fn.results = #[.cell 2 51, .tmp 3]) (tmps : Array Value) (W : World) (R : Nat) (r : Rv) (v : Value) (hp : tmps.getD 2 undef = .pointer (some ⟨R, 0, none⟩)) (hv : tmps.getD 3 undef = v)
 (hB : RB W R r) : (results fn tmps).run Tryz.prog W = .ok (.tuple #[.agg (rcs r), v]) W := by
 rw [results_cell_tmp h, hp, hv]
 simp [asAddr, Result.andThen, run_loadVar_row W R 51 51 (rcs r) (0, 0) _ hB Tryz.underlying51 rfl (by kernel_rfl)]
def ptc (k : Int) : Array Value := #[.bool (kS k), .bool (kT k), .bool (kB k), .bool (kA k), .bool (kO k), .bool (kP k)]
abbrev pz : Array Value := #[.bool false, .bool false, .bool false, .bool false, .bool false, .bool false]
theorem wpList_store_pt (C : Array Value) (hC : C.size = 6) (h1 : C.all (·.oneCell') = true) {ops : Array Oper} {rest : List Oper} {a : Act} {w : World} {Q : Exit → Act → World → Prop} {dst : Option Tmp} {x y : Operand} {ty : TypeId} {pos : String} {after : Array Edge} {B : Nat} (hB : w.heap[B]? = some (.cells pz 194 (0, 0)))
 (hx : a.eval x = .pointer (some ⟨B, 0, none⟩)) (hy : a.eval y = .agg C)
 (h : wpList Tryz.prog ops Q rest (a.put dst undef) (w.setRow B C)) : wpList Tryz.prog ops Q (Oper.mk dst (.store 194 x y) ty pos after none :: rest) a w :=
 wpList_store_row rfl 194 x y rfl B C hx hy 194 pz hB (by rw [hC]; kernel_rfl) (by rw [hC]; rfl) h1 h
theorem results_pt {fn : Func} (h : fn.results = #[.cell 2 194, .tmp 3]) (tmps : Array Value) (W : World) (R : Nat) (C : Array Value) (v : Value) (hp : tmps.getD 2 undef = .pointer (some ⟨R, 0, none⟩)) (hv : tmps.getD 3 undef = v)
 (hB : W.heap[R]? = some (.cells C 194 (0, 0))) (hC : C.size = 6) : (results fn tmps).run Tryz.prog W = .ok (.tuple #[.agg C, v]) W := by
 rw [results_cell_tmp h, hp, hv]
 simp [asAddr, Result.andThen, run_loadVar_row W R 194 194 C (0, 0) _ hB Tryz.underlying194 rfl (by rw [hC]; kernel_rfl)]
def GivesPt (W : World) (k : Int) (e : Ending) (w' : World) : Prop := e = .returned (.tuple #[.agg (ptc k), .bool (kOk k)]) ∧ Below W.heap.size W w'
set_option maxHeartbeats 4000000 in
theorem parts_any (k : Int) (W : World) : Calls Tryz.prog 120 #[.int .u8 k] W (GivesPt W k) := by
 obtain ⟨R, hR⟩ : ∃ R, W.heap.size = R := ⟨_, rfl⟩
 obtain ⟨W0, hW0, hr0, hb0⟩ : ∃ W0, W.alloc (.cells pz 194) = W0 ∧ W0.heap[R]? = some (.cells pz 194 (0, 0)) ∧ Below W.heap.size W W0 := ⟨_, rfl, by rw [← hR]; exact alloc_block W _, (Below.refl _ _).alloc (Nat.le_refl _) _⟩
 have HRE := Lib.hid hR
 have HW0 := Lib.hid hW0
 have HR0 := Lib.hid hr0
 have HB0 := Lib.hid hb0
 have HLE : Hid (W.heap.size ≤ R) := Lib.hid (by omega)
 clear hR hW0 hr0 hb0
 by_cases h1 : k = 1
 case pos =>
  subst h1
  have HF := Lib.hid (setRow_heap W0 R _ #[.bool true, .bool false, .bool false, .bool false, .bool false, .bool true] _ _ HR0.out)
  have HS6 : Hid ((#[.bool true, .bool false, .bool false, .bool false, .bool false, .bool true] : Array Value).size = 6) := Lib.hid rfl
  have HA6 : Hid ((#[.bool true, .bool false, .bool false, .bool false, .bool false, .bool true] : Array Value).all (·.oneCell') = true) := Lib.hid (by simp [Value.oneCell'])
  have HG : Hid (GivesPt W 1 (.returned (.tuple #[.agg #[.bool true, .bool false, .bool false, .bool false, .bool false, .bool true], .bool true])) (W0.setRow R #[.bool true, .bool false, .bool false, .bool false, .bool false, .bool true])) := Lib.hid ⟨rfl, below_setRow HB0.out HLE.out #[.bool true, .bool false, .bool false, .bool false, .bool false, .bool true]⟩
  go_enter Tryz.func120, Tryz.ntmps120
  go_upto_region 1 with (fail)
  rw [HW0.out, HRE.out]
  go_wp2_with ((with_reducible refine wpList_store_pt #[.bool true, .bool false, .bool false, .bool false, .bool false, .bool true] HS6.out HA6.out HR0.out ?_ ?_ ?_); rfl; rfl)
  (try simp only [Exit.inBlock, Exit.then])
  refine bodyPost_ret (v := .tuple #[.agg #[.bool true, .bool false, .bool false, .bool false, .bool false, .bool true], .bool true]) ?_ rfl HG.out
  exact results_pt rfl _ _ R #[.bool true, .bool false, .bool false, .bool false, .bool false, .bool true] _ rfl rfl HF.out rfl
 by_cases h2 : k = 2
 case pos =>
  subst h2
  clear h1
  have HF := Lib.hid (setRow_heap W0 R _ #[.bool true, .bool true, .bool true, .bool false, .bool false, .bool false] _ _ HR0.out)
  have HS6 : Hid ((#[.bool true, .bool true, .bool true, .bool false, .bool false, .bool false] : Array Value).size = 6) := Lib.hid rfl
  have HA6 : Hid ((#[.bool true, .bool true, .bool true, .bool false, .bool false, .bool false] : Array Value).all (·.oneCell') = true) := Lib.hid (by simp [Value.oneCell'])
  have HG : Hid (GivesPt W 2 (.returned (.tuple #[.agg #[.bool true, .bool true, .bool true, .bool false, .bool false, .bool false], .bool true])) (W0.setRow R #[.bool true, .bool true, .bool true, .bool false, .bool false, .bool false])) := Lib.hid ⟨rfl, below_setRow HB0.out HLE.out #[.bool true, .bool true, .bool true, .bool false, .bool false, .bool false]⟩
  go_enter Tryz.func120, Tryz.ntmps120
  go_upto_region 1 with (fail)
  rw [HW0.out, HRE.out]
  go_wp2_with ((with_reducible refine wpList_store_pt #[.bool true, .bool true, .bool true, .bool false, .bool false, .bool false] HS6.out HA6.out HR0.out ?_ ?_ ?_); rfl; rfl)
  (try simp only [Exit.inBlock, Exit.then])
  refine bodyPost_ret (v := .tuple #[.agg #[.bool true, .bool true, .bool true, .bool false, .bool false, .bool false], .bool true]) ?_ rfl HG.out
  exact results_pt rfl _ _ R #[.bool true, .bool true, .bool true, .bool false, .bool false, .bool false] _ rfl rfl HF.out rfl
 by_cases h3 : k = 3
 case pos =>
  subst h3
  clear h1
  clear h2
  have HF := Lib.hid (setRow_heap W0 R _ #[.bool false, .bool true, .bool false, .bool true, .bool false, .bool false] _ _ HR0.out)
  have HS6 : Hid ((#[.bool false, .bool true, .bool false, .bool true, .bool false, .bool false] : Array Value).size = 6) := Lib.hid rfl
  have HA6 : Hid ((#[.bool false, .bool true, .bool false, .bool true, .bool false, .bool false] : Array Value).all (·.oneCell') = true) := Lib.hid (by simp [Value.oneCell'])
  have HG : Hid (GivesPt W 3 (.returned (.tuple #[.agg #[.bool false, .bool true, .bool false, .bool true, .bool false, .bool false], .bool true])) (W0.setRow R #[.bool false, .bool true, .bool false, .bool true, .bool false, .bool false])) := Lib.hid ⟨rfl, below_setRow HB0.out HLE.out #[.bool false, .bool true, .bool false, .bool true, .bool false, .bool false]⟩
  go_enter Tryz.func120, Tryz.ntmps120
  go_upto_region 1 with (fail)
  rw [HW0.out, HRE.out]
  go_wp2_with ((with_reducible refine wpList_store_pt #[.bool false, .bool true, .bool false, .bool true, .bool false, .bool false] HS6.out HA6.out HR0.out ?_ ?_ ?_); rfl; rfl)
  (try simp only [Exit.inBlock, Exit.then])
  refine bodyPost_ret (v := .tuple #[.agg #[.bool false, .bool true, .bool false, .bool true, .bool false, .bool false], .bool true]) ?_ rfl HG.out
  exact results_pt rfl _ _ R #[.bool false, .bool true, .bool false, .bool true, .bool false, .bool false] _ rfl rfl HF.out rfl
 by_cases h4 : k = 4
 case pos =>
  subst h4
  clear h1
  clear h2
  clear h3
  have HF := Lib.hid (setRow_heap W0 R _ #[.bool false, .bool true, .bool false, .bool false, .bool false, .bool false] _ _ HR0.out)
  have HS6 : Hid ((#[.bool false, .bool true, .bool false, .bool false, .bool false, .bool false] : Array Value).size = 6) := Lib.hid rfl
  have HA6 : Hid ((#[.bool false, .bool true, .bool false, .bool false, .bool false, .bool false] : Array Value).all (·.oneCell') = true) := Lib.hid (by simp [Value.oneCell'])
  have HG : Hid (GivesPt W 4 (.returned (.tuple #[.agg #[.bool false, .bool true, .bool false, .bool false, .bool false, .bool false], .bool true])) (W0.setRow R #[.bool false, .bool true, .bool false, .bool false, .bool false, .bool false])) := Lib.hid ⟨rfl, below_setRow HB0.out HLE.out #[.bool false, .bool true, .bool false, .bool false, .bool false, .bool false]⟩
  go_enter Tryz.func120, Tryz.ntmps120
  go_upto_region 1 with (fail)
  rw [HW0.out, HRE.out]
  go_wp2_with ((with_reducible refine wpList_store_pt #[.bool false, .bool true, .bool false, .bool false, .bool false, .bool false] HS6.out HA6.out HR0.out ?_ ?_ ?_); rfl; rfl)
  (try simp only [Exit.inBlock, Exit.then])
  refine bodyPost_ret (v := .tuple #[.agg #[.bool false, .bool true, .bool false, .bool false, .bool false, .bool false], .bool true]) ?_ rfl HG.out
  exact results_pt rfl _ _ R #[.bool false, .bool true, .bool false, .bool false, .bool false, .bool false] _ rfl rfl HF.out rfl
 by_cases h5 : k = 5
 case pos =>
  subst h5
  clear h1
  clear h2
  clear h3
  clear h4
  have HF := Lib.hid (setRow_heap W0 R _ #[.bool false, .bool true, .bool false, .bool false, .bool false, .bool false] _ _ HR0.out)
  have HS6 : Hid ((#[.bool false, .bool true, .bool false, .bool false, .bool false, .bool false] : Array Value).size = 6) := Lib.hid rfl
  have HA6 : Hid ((#[.bool false, .bool true, .bool false, .bool false, .bool false, .bool false] : Array Value).all (·.oneCell') = true) := Lib.hid (by simp [Value.oneCell'])
  have HG : Hid (GivesPt W 5 (.returned (.tuple #[.agg #[.bool false, .bool true, .bool false, .bool false, .bool false, .bool false], .bool true])) (W0.setRow R #[.bool false, .bool true, .bool false, .bool false, .bool false, .bool false])) := Lib.hid ⟨rfl, below_setRow HB0.out HLE.out #[.bool false, .bool true, .bool false, .bool false, .bool false, .bool false]⟩
  go_enter Tryz.func120, Tryz.ntmps120
  go_upto_region 1 with (fail)
  rw [HW0.out, HRE.out]
  go_wp2_with ((with_reducible refine wpList_store_pt #[.bool false, .bool true, .bool false, .bool false, .bool false, .bool false] HS6.out HA6.out HR0.out ?_ ?_ ?_); rfl; rfl)
  (try simp only [Exit.inBlock, Exit.then])
  refine bodyPost_ret (v := .tuple #[.agg #[.bool false, .bool true, .bool false, .bool false, .bool false, .bool false], .bool true]) ?_ rfl HG.out
  exact results_pt rfl _ _ R #[.bool false, .bool true, .bool false, .bool false, .bool false, .bool false] _ rfl rfl HF.out rfl
 by_cases h6 : k = 6
 case pos =>
  subst h6
  clear h1
  clear h2
  clear h3
  clear h4
  clear h5
  have HF := Lib.hid (setRow_heap W0 R _ #[.bool false, .bool true, .bool false, .bool true, .bool false, .bool false] _ _ HR0.out)
  have HS6 : Hid ((#[.bool false, .bool true, .bool false, .bool true, .bool false, .bool false] : Array Value).size = 6) := Lib.hid rfl
  have HA6 : Hid ((#[.bool false, .bool true, .bool false, .bool true, .bool false, .bool false] : Array Value).all (·.oneCell') = true) := Lib.hid (by simp [Value.oneCell'])
  have HG : Hid (GivesPt W 6 (.returned (.tuple #[.agg #[.bool false, .bool true, .bool false, .bool true, .bool false, .bool false], .bool true])) (W0.setRow R #[.bool false, .bool true, .bool false, .bool true, .bool false, .bool false])) := Lib.hid ⟨rfl, below_setRow HB0.out HLE.out #[.bool false, .bool true, .bool false, .bool true, .bool false, .bool false]⟩
  go_enter Tryz.func120, Tryz.ntmps120
  go_upto_region 1 with (fail)
  rw [HW0.out, HRE.out]
  go_wp2_with ((with_reducible refine wpList_store_pt #[.bool false, .bool true, .bool false, .bool true, .bool false, .bool false] HS6.out HA6.out HR0.out ?_ ?_ ?_); rfl; rfl)
  (try simp only [Exit.inBlock, Exit.then])
  refine bodyPost_ret (v := .tuple #[.agg #[.bool false, .bool true, .bool false, .bool true, .bool false, .bool false], .bool true]) ?_ rfl HG.out
  exact results_pt rfl _ _ R #[.bool false, .bool true, .bool false, .bool true, .bool false, .bool false] _ rfl rfl HF.out rfl
 by_cases h7 : k = 7
 case pos =>
  subst h7
  clear h1
  clear h2
  clear h3
  clear h4
  clear h5
  clear h6
  have HF := Lib.hid (setRow_heap W0 R _ #[.bool false, .bool true, .bool false, .bool false, .bool false, .bool false] _ _ HR0.out)
  have HS6 : Hid ((#[.bool false, .bool true, .bool false, .bool false, .bool false, .bool false] : Array Value).size = 6) := Lib.hid rfl
  have HA6 : Hid ((#[.bool false, .bool true, .bool false, .bool false, .bool false, .bool false] : Array Value).all (·.oneCell') = true) := Lib.hid (by simp [Value.oneCell'])
  have HG : Hid (GivesPt W 7 (.returned (.tuple #[.agg #[.bool false, .bool true, .bool false, .bool false, .bool false, .bool false], .bool true])) (W0.setRow R #[.bool false, .bool true, .bool false, .bool false, .bool false, .bool false])) := Lib.hid ⟨rfl, below_setRow HB0.out HLE.out #[.bool false, .bool true, .bool false, .bool false, .bool false, .bool false]⟩
  go_enter Tryz.func120, Tryz.ntmps120
  go_upto_region 1 with (fail)
  rw [HW0.out, HRE.out]
  go_wp2_with ((with_reducible refine wpList_store_pt #[.bool false, .bool true, .bool false, .bool false, .bool false, .bool false] HS6.out HA6.out HR0.out ?_ ?_ ?_); rfl; rfl)
  (try simp only [Exit.inBlock, Exit.then])
  refine bodyPost_ret (v := .tuple #[.agg #[.bool false, .bool true, .bool false, .bool false, .bool false, .bool false], .bool true]) ?_ rfl HG.out
  exact results_pt rfl _ _ R #[.bool false, .bool true, .bool false, .bool false, .bool false, .bool false] _ rfl rfl HF.out rfl
 by_cases h8 : k = 8
 case pos =>
  subst h8
  clear h1
  clear h2
  clear h3
  clear h4
  clear h5
  clear h6
  clear h7
  have HF := Lib.hid (setRow_heap W0 R _ #[.bool true, .bool false, .bool false, .bool false, .bool false, .bool false] _ _ HR0.out)
  have HS6 : Hid ((#[.bool true, .bool false, .bool false, .bool false, .bool false, .bool false] : Array Value).size = 6) := Lib.hid rfl
  have HA6 : Hid ((#[.bool true, .bool false, .bool false, .bool false, .bool false, .bool false] : Array Value).all (·.oneCell') = true) := Lib.hid (by simp [Value.oneCell'])
  have HG : Hid (GivesPt W 8 (.returned (.tuple #[.agg #[.bool true, .bool false, .bool false, .bool false, .bool false, .bool false], .bool true])) (W0.setRow R #[.bool true, .bool false, .bool false, .bool false, .bool false, .bool false])) := Lib.hid ⟨rfl, below_setRow HB0.out HLE.out #[.bool true, .bool false, .bool false, .bool false, .bool false, .bool false]⟩
  go_enter Tryz.func120, Tryz.ntmps120
  go_upto_region 1 with (fail)
  rw [HW0.out, HRE.out]
  go_wp2_with ((with_reducible refine wpList_store_pt #[.bool true, .bool false, .bool false, .bool false, .bool false, .bool false] HS6.out HA6.out HR0.out ?_ ?_ ?_); rfl; rfl)
  (try simp only [Exit.inBlock, Exit.then])
  refine bodyPost_ret (v := .tuple #[.agg #[.bool true, .bool false, .bool false, .bool false, .bool false, .bool false], .bool true]) ?_ rfl HG.out
  exact results_pt rfl _ _ R #[.bool true, .bool false, .bool false, .bool false, .bool false, .bool false] _ rfl rfl HF.out rfl
 by_cases h9 : k = 9
 case pos =>
  subst h9
  clear h1
  clear h2
  clear h3
  clear h4
  clear h5
  clear h6
  clear h7
  clear h8
  have HF := Lib.hid (setRow_heap W0 R _ #[.bool true, .bool false, .bool false, .bool false, .bool true, .bool false] _ _ HR0.out)
  have HS6 : Hid ((#[.bool true, .bool false, .bool false, .bool false, .bool true, .bool false] : Array Value).size = 6) := Lib.hid rfl
  have HA6 : Hid ((#[.bool true, .bool false, .bool false, .bool false, .bool true, .bool false] : Array Value).all (·.oneCell') = true) := Lib.hid (by simp [Value.oneCell'])
  have HG : Hid (GivesPt W 9 (.returned (.tuple #[.agg #[.bool true, .bool false, .bool false, .bool false, .bool true, .bool false], .bool true])) (W0.setRow R #[.bool true, .bool false, .bool false, .bool false, .bool true, .bool false])) := Lib.hid ⟨rfl, below_setRow HB0.out HLE.out #[.bool true, .bool false, .bool false, .bool false, .bool true, .bool false]⟩
  go_enter Tryz.func120, Tryz.ntmps120
  go_upto_region 1 with (fail)
  rw [HW0.out, HRE.out]
  go_wp2_with ((with_reducible refine wpList_store_pt #[.bool true, .bool false, .bool false, .bool false, .bool true, .bool false] HS6.out HA6.out HR0.out ?_ ?_ ?_); rfl; rfl)
  (try simp only [Exit.inBlock, Exit.then])
  refine bodyPost_ret (v := .tuple #[.agg #[.bool true, .bool false, .bool false, .bool false, .bool true, .bool false], .bool true]) ?_ rfl HG.out
  exact results_pt rfl _ _ R #[.bool true, .bool false, .bool false, .bool false, .bool true, .bool false] _ rfl rfl HF.out rfl
 have e1 : (k == 1) = false := by simpa using h1
 have e2 : (k == 2) = false := by simpa using h2
 have e3 : (k == 3) = false := by simpa using h3
 have e4 : (k == 4) = false := by simpa using h4
 have e5 : (k == 5) = false := by simpa using h5
 have e6 : (k == 6) = false := by simpa using h6
 have e7 : (k == 7) = false := by simpa using h7
 have e8 : (k == 8) = false := by simpa using h8
 have e9 : (k == 9) = false := by simpa using h9
 have HK : Hid (ptc k = pz ∧ kOk k = false) := Lib.hid ⟨by unfold ptc kS kT kB kA kO kP; rw [e1, e2, e3, e4, e5, e6, e7, e8, e9]; rfl, by unfold kOk; rw [e1, e2, e3, e4, e5, e6, e7, e8, e9]; rfl⟩
 clear h1 h2 h3 h4 h5 h6 h7 h8 h9
 have HF := Lib.hid (setRow_heap W0 R _ pz _ _ HR0.out)
 have HS6 : Hid ((pz : Array Value).size = 6) := Lib.hid rfl
 have HA6 : Hid ((pz : Array Value).all (·.oneCell') = true) := Lib.hid (by simp [Value.oneCell'])
 have HG : Hid (GivesPt W k (.returned (.tuple #[.agg pz, .bool false])) (W0.setRow R pz)) := Lib.hid ⟨by rw [HK.out.1, HK.out.2], below_setRow HB0.out HLE.out pz⟩
 go_enter Tryz.func120, Tryz.ntmps120
 go_upto_region 1 with (fail)
 rw [HW0.out, HRE.out]
 go_wp2_with ((with_reducible refine wpList_store_pt pz HS6.out HA6.out HR0.out ?_ ?_ ?_); rfl; rfl)
 (try simp only [Exit.inBlock, Exit.then])
 refine bodyPost_ret (v := .tuple #[.agg pz, .bool false]) ?_ rfl HG.out
 exact results_pt rfl _ _ R pz _ rfl rfl HF.out rfl
theorem wpList_load_ky {ops : Array Oper} {rest : List Oper} {a : Act} {w : World} {Q : Exit → Act → World → Prop} {dst : Option Tmp} {x : Operand} {ty : TypeId} {pos : String} {after : Array Edge} {B : Nat} {r : Rv} (hC : RB w B r) (hx : a.eval x = .pointer (some ⟨B, 5, none⟩))
 (h : wpList Tryz.prog ops Q rest (a.put dst (.agg #[.int .u8 r.ka, .int .u8 r.kb, .int .u8 r.kc])) w) : wpList Tryz.prog ops Q (Oper.mk dst (.load 45 x) ty pos after none :: rest) a w :=
 wpList_load_part rfl 45 x rfl B 5 hx 51 (rcs r) #[.int .u8 r.ka, .int .u8 r.kb, .int .u8 r.kc] (0, 0) _ hC (by
  intro j hj
  have h3 : j < 3 := hj
  rcases (by omega : j = 0 ∨ j = 1 ∨ j = 2) with rfl | rfl | rfl <;> rfl) Tryz.underlying45 rfl (by kernel_rfl) h
theorem wpList_load_kyg {ops : Array Oper} {rest : List Oper} {a : Act} {w : World} {Q : Exit → Act → World → Prop} {dst : Option Tmp} {x : Operand} {ty : TypeId} {pos : String} {after : Array Edge} {gd : Option (Nat × Bool)} {B : Nat} {r : Rv} (hC : RB w B r) (hw : Region.wanted (Oper.mk dst (.load 45 x) ty pos after gd) (yielded ops a.tmps) = true) (hx : a.eval x = .pointer (some ⟨B, 5, none⟩))
 (h : wpList Tryz.prog ops Q rest (a.put dst (.agg #[.int .u8 r.ka, .int .u8 r.kb, .int .u8 r.kc])) w) : wpList Tryz.prog ops Q (Oper.mk dst (.load 45 x) ty pos after gd :: rest) a w :=
 wpList_step fun K hK => by
  rw [if_pos hw]
  unfold Oper.wp execOp
  simp only [hx, Instr.loadAt, Instr.sureAddr, Sem.run_bind, Sem.run_pure, Result.andThen_ok, run_loadVar_part w B 5 51 45 (rcs r) #[.int .u8 r.ka, .int .u8 r.kb, .int .u8 r.kc] (0, 0) _ hC (by
   intro j hj
   have h3 : j < 3 := hj
   rcases (by omega : j = 0 ∨ j = 1 ∨ j = 2) with rfl | rfl | rfl <;> rfl) Tryz.underlying45 rfl (by kernel_rfl)]
  exact hK _ _ h
theorem gstep_any (h : Bool) (r : Rv) (W : World) : Calls Tryz.prog 121 #[.bool h, .agg (rcs r)] W fun e w' => e = .returned (.bool (stepB h r.st r.cp)) ∧ Below W.heap.size W w' := by
 obtain ⟨W1, hW1, hb1⟩ : ∃ W1, W.alloc (.cells (rcs r) 51) = W1 ∧ Below W.heap.size W W1 := ⟨_, rfl, (Below.refl _ _).alloc (Nat.le_refl _) _⟩
 obtain ⟨B, hB⟩ : ∃ B, W.heap.size = B := ⟨_, rfl⟩
 have hrb := RB.new W r
 rw [hW1, hB] at hrb
 have HX1 := Lib.hid hrb
 have HW1 := Lib.hid hW1
 have HB1 := Lib.hid hb1
 have HRE := Lib.hid hB
 obtain ⟨c0, c1, c2, c3, c4, c5, c6, c7, c8, c9⟩ := hrb.at
 clear hW1 hb1 hB hrb
 clear c0 c1 c2 c5 c6 c7 c8 c9
 generalize r.st = st at *
 generalize r.cp = cp at *
 cases h with
 | false =>
  cases hs : (st == 0) with
  | false =>
   go_enter Tryz.func121, Tryz.ntmps121
   go_upto_region 1 with (fail)
   rw [HW1.out, HRE.out]
   go_wp2_with fail
   go_ret
   exact ⟨by simp [stepB, hs], HB1.out⟩
  | true =>
   go_enter Tryz.func121, Tryz.ntmps121
   go_upto_region 1 with (fail)
   rw [HW1.out, HRE.out]
   go_wp2_with fail
   go_ret
   exact ⟨by simp [stepB, hs], HB1.out⟩
 | true =>
  go_enter Tryz.func121, Tryz.ntmps121
  go_upto_region 1 with (fail)
  rw [HW1.out, HRE.out]
  go_wp2_with fail
  go_ret
  exact ⟨by simp [stepB], HB1.out⟩
theorem gout_any (h : Bool) (r : Rv) (W : World) : Calls Tryz.prog 123 #[.bool h, .agg (rcs r)] W fun e w' => e = .returned (.bool (outB h r.o)) ∧ Below W.heap.size W w' := by
 obtain ⟨W1, hW1, hb1⟩ : ∃ W1, W.alloc (.cells (rcs r) 51) = W1 ∧ Below W.heap.size W W1 := ⟨_, rfl, (Below.refl _ _).alloc (Nat.le_refl _) _⟩
 obtain ⟨B, hB⟩ : ∃ B, W.heap.size = B := ⟨_, rfl⟩
 have hrb := RB.new W r
 rw [hW1, hB] at hrb
 have HX1 := Lib.hid hrb
 have HW1 := Lib.hid hW1
 have HB1 := Lib.hid hb1
 have HRE := Lib.hid hB
 obtain ⟨c0, c1, c2, c3, c4, c5, c6, c7, c8, c9⟩ := hrb.at
 clear hW1 hb1 hB hrb
 clear c0 c1 c2 c3 c4 c5 c6 c7 c8
 generalize r.o = o at *
 cases h with
 | false =>
  go_enter Tryz.func123, Tryz.ntmps123
  go_upto_region 1 with (fail)
  rw [HW1.out, HRE.out]
  go_wp2_with fail
  go_ret
  exact ⟨by simp [outB], HB1.out⟩
 | true =>
  cases hs : (o == 1) with
  | false =>
   go_enter Tryz.func123, Tryz.ntmps123
   go_upto_region 1 with (fail)
   rw [HW1.out, HRE.out]
   go_wp2_with fail
   go_ret
   exact ⟨by simp [outB, hs], HB1.out⟩
  | true =>
   go_enter Tryz.func123, Tryz.ntmps123
   go_upto_region 1 with (fail)
   rw [HW1.out, HRE.out]
   go_wp2_with fail
   go_ret
   exact ⟨by simp [outB, hs], HB1.out⟩
set_option maxHeartbeats 2000000 in
theorem gadd_any (h : Bool) (r : Rv) (hb : (0 ≤ r.kb ∧ r.kb ≤ 255) ∧ (0 ≤ r.kc ∧ r.kc ≤ 255)) (W : World) : Calls Tryz.prog 122 #[.bool h, .agg (rcs r)] W fun e w' => e = .returned (.bool (addB h (r.ka, r.kb, r.kc) r.d)) ∧ Below W.heap.size W w' := by
 obtain ⟨W1, hW1, hb1⟩ : ∃ W1, W.alloc (.cells (rcs r) 51) = W1 ∧ Below W.heap.size W W1 := ⟨_, rfl, (Below.refl _ _).alloc (Nat.le_refl _) _⟩
 obtain ⟨B, hB⟩ : ∃ B, W.heap.size = B := ⟨_, rfl⟩
 have hrb := RB.new W r
 rw [hW1, hB] at hrb
 have HX1 := Lib.hid hrb
 have HW1 := Lib.hid hW1
 have HB1 := Lib.hid hb1
 have HRE := Lib.hid hB
 obtain ⟨c0, c1, c2, c3, c4, c5, c6, c7, c8, c9⟩ := hrb.at
 clear hW1 hb1 hB hrb
 clear c0 c1 c2 c3 c4 c5 c6 c7 c9
 have hkg := fun W => good_any 4 4 r.ka r.kb r.kc hb.1 hb.2 W
 have hke := fun w => key_eql r.ka r.kb r.kc 0 0 0 w
 clear hb
 generalize hdd : r.d = d at *
 cases h with
 | false =>
  clear hkg
  have HA : Hid (addB false (r.ka, r.kb, r.kc) d = (decide (((r.ka, r.kb, r.kc) : K) = (0, 0, 0)) && d == 0)) := Lib.hid rfl
  generalize decide (((r.ka, r.kb, r.kc) : K) = (0, 0, 0)) = y at *
  cases y with
  | false =>
   go_enter Tryz.func122, Tryz.ntmps122
   go_upto_region 1 with (fail)
   rw [HW1.out, HRE.out]
   go_wp2_with ((with_reducible refine wpList_load_ky HX1.out ?_ ?_); rfl)
   go_ret
   exact ⟨by rw [HA.out]; rfl, HB1.out⟩
  | true =>
   go_enter Tryz.func122, Tryz.ntmps122
   go_upto_region 1 with (fail)
   rw [HW1.out, HRE.out]
   go_wp2_with ((with_reducible refine wpList_load_ky HX1.out ?_ ?_); rfl)
   go_ret
   exact ⟨by rw [HA.out]; rfl, HB1.out⟩
 | true =>
  clear hke
  have HA : Hid (addB true (r.ka, r.kb, r.kc) d = ((goodB 4 4 r.ka r.kb r.kc && d != 0) && d != -9223372036854775808)) := Lib.hid rfl
  generalize goodB 4 4 r.ka r.kb r.kc = y at *
  cases y with
  | false =>
   go_enter Tryz.func122, Tryz.ntmps122
   go_upto_region 1 with (fail)
   rw [HW1.out, HRE.out]
   go_wp2_with ((with_reducible refine wpList_load_ky HX1.out ?_ ?_); rfl)
   refine (hkg _).mono ?_
   rintro e w2 ⟨rfl, h2⟩
   have HB2 := Lib.hid (HB1.out.trans (h2.below.mono HB1.out.size))
   clear h2 c8
   go_wp2_with fail
   go_ret
   exact ⟨by rw [HA.out]; rfl, HB2.out⟩
  | true =>
   cases hz : (d != 0) with
   | false =>
    go_enter Tryz.func122, Tryz.ntmps122
    go_upto_region 1 with (fail)
    rw [HW1.out, HRE.out]
    go_wp2_with ((with_reducible refine wpList_load_ky HX1.out ?_ ?_); rfl)
    refine (hkg _).mono ?_
    rintro e w2 ⟨rfl, h2⟩
    have HB2 := Lib.hid (HB1.out.trans (h2.below.mono HB1.out.size))
    have c8' : w2.cell? ⟨B, 8, none⟩ = some (.int .i64 d) := by rw [← hdd]; exact block_cell (HX1.out.later h2.below) rfl
    clear h2 c8 hdd
    go_wp2_with fail
    go_ret
    exact ⟨by rw [HA.out, hz]; rfl, HB2.out⟩
   | true =>
    go_enter Tryz.func122, Tryz.ntmps122
    go_upto_region 1 with (fail)
    rw [HW1.out, HRE.out]
    go_wp2_with ((with_reducible refine wpList_load_ky HX1.out ?_ ?_); rfl)
    refine (hkg _).mono ?_
    rintro e w2 ⟨rfl, h2⟩
    have HB2 := Lib.hid (HB1.out.trans (h2.below.mono HB1.out.size))
    have c8' : w2.cell? ⟨B, 8, none⟩ = some (.int .i64 d) := by rw [← hdd]; exact block_cell (HX1.out.later h2.below) rfl
    clear h2 c8 hdd
    go_wp2_with fail
    go_ret
    exact ⟨by rw [HA.out, hz]; rfl, HB2.out⟩
theorem gprog_any (h : Bool) (r : Rv) (L : List Ln) (T : List Tk) (M : List Ln) (W : World) (hw : Words W) (hP : RvM W r L T M) (hok : Pgok (r.pg L T M)) (h1 : r.ln ≤ 400 ∧ r.tn ≤ 400 ∧ r.wn ≤ 400) : Calls Tryz.prog 124 #[.bool h, .agg (rcs r)] W fun e w' => e = .returned (.bool (progB h (r.pg L T M))) ∧ Below W.heap.size W w' := by
 obtain ⟨W1, hW1, hb1⟩ : ∃ W1, W.alloc (.cells (rcs r) 51) = W1 ∧ Below W.heap.size W W1 := ⟨_, rfl, (Below.refl _ _).alloc (Nat.le_refl _) _⟩
 obtain ⟨B, hB⟩ : ∃ B, W.heap.size = B := ⟨_, rfl⟩
 have hrb := RB.new W r
 rw [hW1, hB] at hrb
 have HX1 := Lib.hid hrb
 have HW1 := Lib.hid hW1
 have HB1 := Lib.hid hb1
 have HRE := Lib.hid hB
 obtain ⟨c0, c1, c2, c3, c4, c5, c6, c7, c8, c9⟩ := hrb.at
 clear hW1 hb1 hB hrb
 clear c0 c1 c2 c3 c4 c5 c6 c7 c8 c9
 have hs := same_p r.pk r.od r.po r.lp r.ln r.lcp r.tp r.tn r.tcp r.wp r.wn r.wcp r.sk r.fr r.to r.q 0 0 0 none 0 0 none 0 0 none 0 0 0 0 0 0 L T M [] [] [] W1 (hP.later HB1.out) ⟨SlG.empty _, SlG.empty _, SlG.empty _⟩ ⟨by omega, by omega, by omega⟩ ⟨by omega, by omega, by omega⟩
 have hg := good_p 4 4 r.pk r.od r.po r.lp r.ln r.lcp r.tp r.tn r.tcp r.wp r.wn r.wcp r.sk r.fr r.to r.q L T M W1 (hw.later HB1.out) (hP.later HB1.out) hok h1
 clear hw hP hok h1
 obtain ⟨y, hy⟩ : ∃ y, decide ((⟨r.pk, r.od, r.po, L, T, M, r.sk, r.fr, r.to, r.q⟩ : Pg) = ⟨0, 0, 0, [], [], [], 0, 0, 0, 0⟩) = y := ⟨_, rfl⟩
 rw [hy] at hs
 have HA : Hid (progB false (r.pg L T M) = y) := Lib.hid hy
 clear hy
 cases h with
 | false =>
  clear hg
  go_enter Tryz.func124, Tryz.ntmps124
  go_upto_region 1 with (fail)
  rw [HW1.out, HRE.out]
  go_wp2_with ((with_reducible refine wpList_load_pr HX1.out ?_ ?_); rfl)
  refine hs.mono ?_
  rintro e w2 ⟨rfl, h2⟩
  have HB2 := Lib.hid (HB1.out.trans (h2.mono HB1.out.size))
  clear h2 hs
  go_wp2_with fail
  go_ret
  exact ⟨by rw [HA.out]; rfl, HB2.out⟩
 | true =>
  clear hs
  go_enter Tryz.func124, Tryz.ntmps124
  go_upto_region 1 with (fail)
  rw [HW1.out, HRE.out]
  go_wp2_with ((with_reducible refine wpList_load_pr HX1.out ?_ ?_); rfl)
  refine hg.mono ?_
  rintro e w2 ⟨rfl, h2⟩
  have HB2 := Lib.hid (HB1.out.trans (h2.mono HB1.out.size))
  clear h2 hg
  go_wp2_with fail
  go_ret
  exact ⟨rfl, HB2.out⟩
set_option maxHeartbeats 4000000 in
theorem rec_good (r : Rv) (L : List Ln) (T : List Tk) (M : List Ln) (W : World) (hw : Words W) (hP : RvM W r L T M) (hok : Rxok (r.x L T M)) (h1 : r.ln ≤ 400 ∧ r.tn ≤ 400 ∧ r.wn ≤ 400) : Calls Tryz.prog 83 #[.agg (rcs r)] W fun e w' => e = .returned (.bool (goodX (r.x L T M))) ∧ Below W.heap.size W w' := by
 obtain ⟨W1, hW1, hb1⟩ : ∃ W1, W.alloc (.cells (rcs r) 51) = W1 ∧ Below W.heap.size W W1 := ⟨_, rfl, (Below.refl _ _).alloc (Nat.le_refl _) _⟩
 obtain ⟨B, hB⟩ : ∃ B, W.heap.size = B := ⟨_, rfl⟩
 have hrb := RB.new W r
 rw [hW1, hB] at hrb
 have HX1 := Lib.hid hrb
 have HW1 := Lib.hid hW1
 have HB1 := Lib.hid hb1
 have HRE := Lib.hid hB
 have c0 : W1.cell? ⟨B, 0, none⟩ = some (.int .u8 r.k) := block_cell hrb rfl
 clear hW1 hb1 hB hrb
 obtain ⟨b0, hb0⟩ : ∃ b, kOk r.k = b := ⟨_, rfl⟩
 obtain ⟨b1, hb1⟩ : ∃ b, kS r.k = b := ⟨_, rfl⟩
 obtain ⟨b2, hb2⟩ : ∃ b, kT r.k = b := ⟨_, rfl⟩
 obtain ⟨b3, hb3⟩ : ∃ b, kB r.k = b := ⟨_, rfl⟩
 obtain ⟨b4, hb4⟩ : ∃ b, kA r.k = b := ⟨_, rfl⟩
 obtain ⟨b5, hb5⟩ : ∃ b, kO r.k = b := ⟨_, rfl⟩
 obtain ⟨b6, hb6⟩ : ∃ b, kP r.k = b := ⟨_, rfl⟩
 have hpt : ptc r.k = #[.bool b1, .bool b2, .bool b3, .bool b4, .bool b5, .bool b6] := by unfold ptc; rw [hb1, hb2, hb3, hb4, hb5, hb6]
 have hpa := parts_any r.k W1
 unfold GivesPt at hpa
 rw [hpt, hb0] at hpa
 obtain ⟨s, hs⟩ : ∃ y, stepB b3 r.st r.cp = y := ⟨_, rfl⟩
 obtain ⟨a, ha⟩ : ∃ y, addB b4 (r.ka, r.kb, r.kc) r.d = y := ⟨_, rfl⟩
 obtain ⟨o, ho⟩ : ∃ y, outB b5 r.o = y := ⟨_, rfl⟩
 obtain ⟨p, hp⟩ : ∃ y, progB b6 (r.pg L T M) = y := ⟨_, rfl⟩
 have HR : Hid (goodX (r.x L T M) = (b0 && (b1 == (r.sg != 0)) && (b2 == (r.tx != 0)) && s && a && o && p)) := Lib.hid (by
  rw [← hs, ← ha, ← ho, ← hp, ← hb0, ← hb1, ← hb2, ← hb3, ← hb4, ← hb5, ← hb6]
  rfl)
 have HCS := Lib.hid (fun W => gstep_any b3 r W)
 have HCA := Lib.hid (fun W => gadd_any b4 r ⟨hok.key.2.1, hok.key.2.2⟩ W)
 have HCO := Lib.hid (fun W => gout_any b5 r W)
 have HCP := Lib.hid (fun W' (hb : Below W.heap.size W W') => gprog_any b6 r L T M W' (hw.later hb) (hP.later hb) hok.pg h1)
 rw [hs] at HCS
 rw [ha] at HCA
 rw [ho] at HCO
 rw [hp] at HCP
 clear hpt hb0 hb1 hb2 hb3 hb4 hb5 hb6 hs ha ho hp hw hP hok h1
 go_enter Tryz.func83, Tryz.ntmps83
 go_upto_region 1 with (fail)
 rw [HW1.out, HRE.out]
 go_wp2_with fail
 refine hpa.mono ?_
 rintro e w2 ⟨rfl, h2⟩
 have HB2 := Lib.hid (HB1.out.trans (h2.mono HB1.out.size))
 have HX2 := Lib.hid (HX1.out.later h2)
 clear h2 hpa c0
 obtain ⟨N2, hN2⟩ : ∃ n, w2.heap.size = n := ⟨_, rfl⟩
 obtain ⟨w3, hwn, hxn, hbn⟩ : ∃ w3, (w2.alloc (.cells pz 194)).setRow N2 #[.bool b1, .bool b2, .bool b3, .bool b4, .bool b5, .bool b6] = w3 ∧ w3.heap[N2]? = some (.cells #[.bool b1, .bool b2, .bool b3, .bool b4, .bool b5, .bool b6] 194 (0, 0)) ∧ Below w2.heap.size w2 w3 := ⟨_, rfl, by rw [← hN2]; exact setRow_heap _ _ _ _ _ _ (alloc_block w2 _), below_setRow ((Below.refl _ _).alloc (Nat.le_refl _) _) (by omega) _⟩
 have hx2 := alloc_block w2 (.cells pz 194)
 rw [hN2] at hx2
 have HPX := Lib.hid hxn
 have HPZ := Lib.hid hx2
 have HBN := Lib.hid hbn
 have HWN := Lib.hid hwn
 have HNN := Lib.hid hN2
 have HS6 : Hid ((#[.bool b1, .bool b2, .bool b3, .bool b4, .bool b5, .bool b6] : Array Value).size = 6) := Lib.hid rfl
 have HA6 : Hid ((#[.bool b1, .bool b2, .bool b3, .bool b4, .bool b5, .bool b6] : Array Value).all (·.oneCell') = true) := Lib.hid (by simp [Value.oneCell'])
 clear hx2 hxn hbn hwn hN2
 have HB3 := Lib.hid (HB2.out.trans (HBN.out.mono HB2.out.size))
 have HX3 := Lib.hid (HX2.out.later HBN.out)
 have gp := block_later HPX.out (Below.refl _ _)
 have gx := HX3.out.later (Below.refl _ _)
 have p0 : w3.cell? ⟨N2, 0, none⟩ = some (.bool b1) := block_cell gp rfl
 have p1 : w3.cell? ⟨N2, 1, none⟩ = some (.bool b2) := block_cell gp rfl
 have p2 : w3.cell? ⟨N2, 2, none⟩ = some (.bool b3) := block_cell gp rfl
 have p3 : w3.cell? ⟨N2, 3, none⟩ = some (.bool b4) := block_cell gp rfl
 have p4 : w3.cell? ⟨N2, 4, none⟩ = some (.bool b5) := block_cell gp rfl
 have p5 : w3.cell? ⟨N2, 5, none⟩ = some (.bool b6) := block_cell gp rfl
 have c1 : w3.cell? ⟨B, 1, none⟩ = some (.int .u32 r.sg) := block_cell gx rfl
 have c2 : w3.cell? ⟨B, 2, none⟩ = some (.int .u32 r.tx) := block_cell gx rfl
 have HGX := Lib.hid gx
 clear gp gx
 cases b0
 case false =>
  go_wp2_with (first | ((try rw [HNN.out]); (with_reducible refine wpList_store_pt #[.bool b1, .bool b2, .bool b3, .bool b4, .bool b5, .bool b6] HS6.out HA6.out HPZ.out ?_ ?_ ?_); rfl; rfl; rw [HWN.out]) | ((with_reducible refine wpList_load_rcg HGX.out ?_ ?_ ?_); rfl; rfl))
  go_ret
  exact ⟨by rw [HR.out]; rfl, HB3.out⟩
 cases hq1 : (b1 == (r.sg != 0))
 case false =>
  go_wp2_with (first | ((try rw [HNN.out]); (with_reducible refine wpList_store_pt #[.bool b1, .bool b2, .bool b3, .bool b4, .bool b5, .bool b6] HS6.out HA6.out HPZ.out ?_ ?_ ?_); rfl; rfl; rw [HWN.out]) | ((with_reducible refine wpList_load_rcg HGX.out ?_ ?_ ?_); rfl; rfl))
  go_ret
  exact ⟨by rw [HR.out, hq1]; rfl, HB3.out⟩
 cases hq2 : (b2 == (r.tx != 0))
 case false =>
  go_wp2_with (first | ((try rw [HNN.out]); (with_reducible refine wpList_store_pt #[.bool b1, .bool b2, .bool b3, .bool b4, .bool b5, .bool b6] HS6.out HA6.out HPZ.out ?_ ?_ ?_); rfl; rfl; rw [HWN.out]) | ((with_reducible refine wpList_load_rcg HGX.out ?_ ?_ ?_); rfl; rfl))
  go_ret
  exact ⟨by rw [HR.out, hq1, hq2]; rfl, HB3.out⟩
 have HQ := Lib.hid (And.intro hq1 hq2)
 go_wp2_with (first | ((try rw [HNN.out]); (with_reducible refine wpList_store_pt #[.bool b1, .bool b2, .bool b3, .bool b4, .bool b5, .bool b6] HS6.out HA6.out HPZ.out ?_ ?_ ?_); rfl; rfl; rw [HWN.out]) | ((with_reducible refine wpList_load_rcg HGX.out ?_ ?_ ?_); rfl; rfl))
 refine (HCS.out _).mono ?_
 rintro e w4 ⟨rfl, h4⟩
 have HB4 := Lib.hid (HB3.out.trans (h4.mono HB3.out.size))
 have HD4 : Hid (Below w3.heap.size w3 w4) := Lib.hid h4
 clear h4
 clear p0 p1 p2 p3 p4 p5 c1 c2
 clear HGX
 have gp := block_later HPX.out HD4.out
 have gx := HX3.out.later HD4.out
 have p0 : w4.cell? ⟨N2, 0, none⟩ = some (.bool b1) := block_cell gp rfl
 have p1 : w4.cell? ⟨N2, 1, none⟩ = some (.bool b2) := block_cell gp rfl
 have p2 : w4.cell? ⟨N2, 2, none⟩ = some (.bool b3) := block_cell gp rfl
 have p3 : w4.cell? ⟨N2, 3, none⟩ = some (.bool b4) := block_cell gp rfl
 have p4 : w4.cell? ⟨N2, 4, none⟩ = some (.bool b5) := block_cell gp rfl
 have p5 : w4.cell? ⟨N2, 5, none⟩ = some (.bool b6) := block_cell gp rfl
 have c1 : w4.cell? ⟨B, 1, none⟩ = some (.int .u32 r.sg) := block_cell gx rfl
 have c2 : w4.cell? ⟨B, 2, none⟩ = some (.int .u32 r.tx) := block_cell gx rfl
 have HGX := Lib.hid gx
 clear gp gx
 clear hq1 hq2
 cases s
 case false =>
  go_wp2_with ((with_reducible refine wpList_load_rcg HGX.out ?_ ?_ ?_); rfl; rfl)
  go_ret
  exact ⟨by rw [HR.out, HQ.out.1, HQ.out.2]; rfl, HB4.out⟩
 go_wp2_with ((with_reducible refine wpList_load_rcg HGX.out ?_ ?_ ?_); rfl; rfl)
 refine (HCA.out _).mono ?_
 rintro e w5 ⟨rfl, h5⟩
 have HB5 := Lib.hid (HB4.out.trans (h5.mono HB4.out.size))
 have HD5 : Hid (Below w3.heap.size w3 w5) := Lib.hid (HD4.out.trans (h5.mono HD4.out.size))
 clear h5
 clear p0 p1 p2 p3 p4 p5 c1 c2
 clear HGX
 have gp := block_later HPX.out HD5.out
 have gx := HX3.out.later HD5.out
 have p0 : w5.cell? ⟨N2, 0, none⟩ = some (.bool b1) := block_cell gp rfl
 have p1 : w5.cell? ⟨N2, 1, none⟩ = some (.bool b2) := block_cell gp rfl
 have p2 : w5.cell? ⟨N2, 2, none⟩ = some (.bool b3) := block_cell gp rfl
 have p3 : w5.cell? ⟨N2, 3, none⟩ = some (.bool b4) := block_cell gp rfl
 have p4 : w5.cell? ⟨N2, 4, none⟩ = some (.bool b5) := block_cell gp rfl
 have p5 : w5.cell? ⟨N2, 5, none⟩ = some (.bool b6) := block_cell gp rfl
 have c1 : w5.cell? ⟨B, 1, none⟩ = some (.int .u32 r.sg) := block_cell gx rfl
 have c2 : w5.cell? ⟨B, 2, none⟩ = some (.int .u32 r.tx) := block_cell gx rfl
 have HGX := Lib.hid gx
 clear gp gx
 cases a
 case false =>
  go_wp2_with ((with_reducible refine wpList_load_rcg HGX.out ?_ ?_ ?_); rfl; rfl)
  go_ret
  exact ⟨by rw [HR.out, HQ.out.1, HQ.out.2]; rfl, HB5.out⟩
 go_wp2_with ((with_reducible refine wpList_load_rcg HGX.out ?_ ?_ ?_); rfl; rfl)
 refine (HCO.out _).mono ?_
 rintro e w6 ⟨rfl, h6⟩
 have HB6 := Lib.hid (HB5.out.trans (h6.mono HB5.out.size))
 have HD6 : Hid (Below w3.heap.size w3 w6) := Lib.hid (HD5.out.trans (h6.mono HD5.out.size))
 clear h6
 clear p0 p1 p2 p3 p4 p5 c1 c2
 clear HGX
 have gp := block_later HPX.out HD6.out
 have gx := HX3.out.later HD6.out
 have p0 : w6.cell? ⟨N2, 0, none⟩ = some (.bool b1) := block_cell gp rfl
 have p1 : w6.cell? ⟨N2, 1, none⟩ = some (.bool b2) := block_cell gp rfl
 have p2 : w6.cell? ⟨N2, 2, none⟩ = some (.bool b3) := block_cell gp rfl
 have p3 : w6.cell? ⟨N2, 3, none⟩ = some (.bool b4) := block_cell gp rfl
 have p4 : w6.cell? ⟨N2, 4, none⟩ = some (.bool b5) := block_cell gp rfl
 have p5 : w6.cell? ⟨N2, 5, none⟩ = some (.bool b6) := block_cell gp rfl
 have c1 : w6.cell? ⟨B, 1, none⟩ = some (.int .u32 r.sg) := block_cell gx rfl
 have c2 : w6.cell? ⟨B, 2, none⟩ = some (.int .u32 r.tx) := block_cell gx rfl
 have HGX := Lib.hid gx
 clear gp gx
 cases o
 case false =>
  go_wp2_with ((with_reducible refine wpList_load_rcg HGX.out ?_ ?_ ?_); rfl; rfl)
  go_ret
  exact ⟨by rw [HR.out, HQ.out.1, HQ.out.2]; rfl, HB6.out⟩
 go_wp2_with ((with_reducible refine wpList_load_rcg HGX.out ?_ ?_ ?_); rfl; rfl)
 refine (HCP.out _ HB6.out).mono ?_
 rintro e w7 ⟨rfl, h7⟩
 have HB7 := Lib.hid (HB6.out.trans (h7.mono HB6.out.size))
 clear h7
 clear p0 p1 p2 p3 p4 p5 c1 c2
 go_wp2_with fail
 go_ret
 exact ⟨by rw [HR.out, HQ.out.1, HQ.out.2]; rfl, HB7.out⟩
def GivesB (W : World) (Y : List Nat) (e : Ending) (w' : World) : Prop := ∃ p c, e = .returned (.tuple #[.slice p Y.length c, .int .i64 0]) ∧ Sl w' p Y.length c Y ∧ Below W.heap.size W w'
theorem wo_num1 {W w : World} {B : Nat} {L : List Nat} (h : WrOk W w B 512 (0, L)) (x : Int) (h0 : 0 ≤ x ∧ x ≤ 255) (hl : L.length + 1 ≤ 512) : Calls Tryz.prog 108 #[.pointer (some ⟨B, 0, none⟩), .int .u64 x, .int .i64 1] w (WrotOk W B 512 (0, L ++ le x.toNat 1)) := by
 refine h.step fun v hv => ?_
 have := num_w B v L x.toNat 1 w hv (by omega) (by omega) (by omega) hl
 rw [Int.toNat_of_nonneg h0.1] at this
 exact this
theorem wo_num4 {W w : World} {B : Nat} {L : List Nat} (h : WrOk W w B 512 (0, L)) (x : Int) (h0 : 0 ≤ x ∧ x ≤ 4294967295) (hl : L.length + 4 ≤ 512) : Calls Tryz.prog 108 #[.pointer (some ⟨B, 0, none⟩), .int .u64 x, .int .i64 4] w (WrotOk W B 512 (0, L ++ le x.toNat 4)) := by
 refine h.step fun v hv => ?_
 have := num_w B v L x.toNat 4 w hv (by omega) (by omega) (by omega) hl
 rw [Int.toNat_of_nonneg h0.1] at this
 exact this
theorem wo_int {W w : World} {B : Nat} {L : List Nat} (h : WrOk W w B 512 (0, L)) (q : Int) (hq : In64 q) (hl : L.length + 8 ≤ 512) : Calls Tryz.prog 126 #[.pointer (some ⟨B, 0, none⟩), .int .i64 q] w (WrotOk W B 512 (0, L ++ le (u64 q) 8)) :=
 h.step fun v hv => int_w B v L q w hv hq hl
theorem bit_bitN (b : Bool) : bit b = bitN b := rfl
theorem wo_bool {W w : World} {B : Nat} {L : List Nat} (h : WrOk W w B 512 (0, L)) (b : Bool) (hl : L.length + 1 ≤ 512) : Calls Tryz.prog 125 #[.pointer (some ⟨B, 0, none⟩), .bool b] w (WrotOk W B 512 (0, L ++ [bitN b])) := by
 refine h.step fun v hv => ?_
 have := bool_wr B v 512 (0, L) b w hv (by omega) (by omega) (by dsimp only; omega)
 rwa [rawW_fit (by simpa using hl), bit_bitN] at this
theorem wo_raw {W w : World} {B : Nat} {L : List Nat} (h : WrOk W w B 512 (0, L)) (p : Option Addr) (m c : Nat) (M : List Nat) (hs : Sl w p m c M) (hl : L.length + m ≤ 512) : Calls Tryz.prog 110 #[.pointer (some ⟨B, 0, none⟩), .slice p m c] w (WrotOk W B 512 (0, L ++ M)) := by
 refine h.step fun v hv => ?_
 have := raw_any B v 512 (0, L) w hv p m c M hs (by omega) (by omega) (by dsimp only; omega)
 rwa [rawW_fit (by rw [hs.len]; exact hl)] at this
theorem wo_bytes {W w : World} {B : Nat} {L : List Nat} (h : WrOk W w B 512 (0, L)) (p : Option Addr) (m c : Nat) (M : List Nat) (hs : Sl w p m c M) (hl : L.length + (m + 2) ≤ 512) : Calls Tryz.prog 128 #[.pointer (some ⟨B, 0, none⟩), .slice p m c] w (WrotOk W B 512 (0, L ++ (le M.length 2 ++ M))) := by
 refine h.step fun v hv => ?_
 have := bytes_wr B v 512 (0, L) p m c M w hv hs (by omega) (by omega) (by dsimp only; omega) (by omega)
 have e : bytesW 512 (0, L) M = (0, L ++ (le M.length 2 ++ M)) := by
  unfold bytesW
  have := hs.len
  rw [if_neg (by omega), rawW_fit (by rw [List.length_append, le_len]; omega)]
 rwa [e] at this
theorem sl_three (x y z : Int) (hx : 0 ≤ x ∧ x ≤ 255) (hy : 0 ≤ y ∧ y ≤ 255) (hz : 0 ≤ z ∧ z ≤ 255) (w : World) : Sl (w.alloc (.cells #[.int .u8 x, .int .u8 y, .int .u8 z] 5)) (some ⟨w.heap.size, 0, none⟩) 3 3 (keyB (x, y, z)) :=
 ⟨rfl, Nat.le_refl _, (fun h => by cases h), (fun u hu => by simp [keyB] at hu; omega), fun _ => ⟨_, 0, rfl, fun j hj => by
  match j, hj with
  | 0, _ => simp [keyB]; omega
  | 1, _ => simp [keyB]; omega
  | 2, _ => simp [keyB]; omega⟩⟩
theorem wrap_u64 {x : Int} (h : 0 ≤ x ∧ x ≤ 4294967295) : IntKind.u64.wrap x = x := by simp [IntKind.wrap, IntKind.bits, IntKind.signed]; omega
end Go.Proofs.YtfdgnniicjdjdaaGreatDoor
