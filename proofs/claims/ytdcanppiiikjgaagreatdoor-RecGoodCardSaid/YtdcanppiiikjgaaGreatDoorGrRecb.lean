/- What records of a kind have; the parts of rec.Good. -/
/- Whether a record may be: the program's way. -/
/- Two records, the same or not: the program's way and the document's. -/
import Derived.Test.YtdcanppiiikjgaaGreatDoorGrReca
import Derived.Test.YtdcanppiiikjgaaGreatDoorGrKey
import Derived.Test.YtdcanppiiikjgaaGreatDoorPgAlike
import Derived.Test.YtdcanppiiikjgaaGreatDoorPgWell
namespace Go.Proofs.YtdcanppiiikjgaaGreatDoor
open Go.RowKit Go.ChangeShapes Go.WideShapes
set_option linter.unusedVariables false
set_option linter.unusedSimpArgs false
set_option maxRecDepth 10000

/-- What records of a kind have, as cells. -/
def ptc (k : Int) : Array Value := #[.bool (kS k), .bool (kT k), .bool (kB k), .bool (kA k), .bool (kO k), .bool (kP k)]
abbrev pz : Array Value := #[.bool false, .bool false, .bool false, .bool false, .bool false, .bool false]
theorem wpList_store_pt (C : Array Value) (hC : C.size = 6) (h1 : C.all (·.oneCell') = true) {ops : Array Oper} {rest : List Oper} {a : Act} {w : World} {Q : Exit → Act → World → Prop} {dst : Option Tmp} {x y : Operand} {ty : TypeId} {pos : String} {after : Array Edge} {B : Nat} (hB : w.heap[B]? = some (.cells pz 49 (0, 0)))
    (hx : a.eval x = .pointer (some ⟨B, 0, none⟩)) (hy : a.eval y = .agg C)
    (h : wpList Tryz.prog ops Q rest (a.put dst undef) (w.setRow B C)) : wpList Tryz.prog ops Q (Oper.mk dst (.store 49 x y) ty pos after none :: rest) a w :=
  wpList_store_row rfl 49 x y rfl B C hx hy 49 pz hB (by rw [hC]; kernel_rfl) (by rw [hC]; rfl) h1 h
theorem results_pt {fn : Func} (h : fn.results = #[.cell 2 49, .tmp 3]) (tmps : Array Value) (W : World) (R : Nat) (C : Array Value) (v : Value) (hp : tmps.getD 2 undef = .pointer (some ⟨R, 0, none⟩)) (hv : tmps.getD 3 undef = v)
    (hB : W.heap[R]? = some (.cells C 49 (0, 0))) (hC : C.size = 6) : (results fn tmps).run Tryz.prog W = .ok (.tuple #[.agg C, v]) W := by
  rw [results_cell_tmp h, hp, hv]
  simp [asAddr, Result.andThen, run_loadVar_row W R 49 49 C (0, 0) _ hB Tryz.underlying49 rfl (by rw [hC]; kernel_rfl)]
/-- What partsOf hands back. -/
def GivesPt (W : World) (k : Int) (e : Ending) (w' : World) : Prop := e = .returned (.tuple #[.agg (ptc k), .bool (kOk k)]) ∧ Below W.heap.size W w'
set_option maxHeartbeats 4000000 in
theorem parts_any (k : Int) (W : World) : Calls Tryz.prog 21 #[.int .u8 k] W (GivesPt W k) := by
  obtain ⟨R, hR⟩ : ∃ R, W.heap.size = R := ⟨_, rfl⟩
  obtain ⟨W0, hW0, hr0, hb0⟩ : ∃ W0, W.alloc (.cells pz 49) = W0 ∧ W0.heap[R]? = some (.cells pz 49 (0, 0)) ∧ Below W.heap.size W W0 := ⟨_, rfl, by rw [← hR]; exact alloc_block W _, (Below.refl _ _).alloc (Nat.le_refl _) _⟩
  have HRE := Lib.hid hR
  have HW0 := Lib.hid hW0
  have HR0 := Lib.hid hr0
  have HB0 := Lib.hid hb0
  have HLE : Hid (W.heap.size ≤ R) := Lib.hid (by omega)
  clear hR hW0 hr0 hb0
  by_cases h1 : k = 1
  case pos =>
    subst h1
    have HF := Lib.hid (setRow_heap W0 R _ #[.bool true, .bool false, .bool false, .bool false, .bool false, .bool true] _ _ HR0.out)
    have HS6 : Hid ((#[.bool true, .bool false, .bool false, .bool false, .bool false, .bool true] : Array Value).size = 6) := Lib.hid rfl
    have HA6 : Hid ((#[.bool true, .bool false, .bool false, .bool false, .bool false, .bool true] : Array Value).all (·.oneCell') = true) := Lib.hid (by simp [Value.oneCell'])
    have HG : Hid (GivesPt W 1 (.returned (.tuple #[.agg #[.bool true, .bool false, .bool false, .bool false, .bool false, .bool true], .bool true])) (W0.setRow R #[.bool true, .bool false, .bool false, .bool false, .bool false, .bool true])) := Lib.hid ⟨rfl, below_setRow HB0.out HLE.out #[.bool true, .bool false, .bool false, .bool false, .bool false, .bool true]⟩
    go_enter Tryz.func21, Tryz.ntmps21
    go_upto_region 1 with (fail)
    rw [HW0.out, HRE.out]
    go_wp2_with ((with_reducible refine wpList_store_pt #[.bool true, .bool false, .bool false, .bool false, .bool false, .bool true] HS6.out HA6.out HR0.out ?_ ?_ ?_); rfl; rfl)
    (try simp only [Exit.inBlock, Exit.then])
    refine bodyPost_ret (v := .tuple #[.agg #[.bool true, .bool false, .bool false, .bool false, .bool false, .bool true], .bool true]) ?_ rfl HG.out
    exact results_pt rfl _ _ R #[.bool true, .bool false, .bool false, .bool false, .bool false, .bool true] _ rfl rfl HF.out rfl
  by_cases h2 : k = 2
  case pos =>
    subst h2
    clear h1
    have HF := Lib.hid (setRow_heap W0 R _ #[.bool true, .bool true, .bool true, .bool false, .bool false, .bool false] _ _ HR0.out)
    have HS6 : Hid ((#[.bool true, .bool true, .bool true, .bool false, .bool false, .bool false] : Array Value).size = 6) := Lib.hid rfl
    have HA6 : Hid ((#[.bool true, .bool true, .bool true, .bool false, .bool false, .bool false] : Array Value).all (·.oneCell') = true) := Lib.hid (by simp [Value.oneCell'])
    have HG : Hid (GivesPt W 2 (.returned (.tuple #[.agg #[.bool true, .bool true, .bool true, .bool false, .bool false, .bool false], .bool true])) (W0.setRow R #[.bool true, .bool true, .bool true, .bool false, .bool false, .bool false])) := Lib.hid ⟨rfl, below_setRow HB0.out HLE.out #[.bool true, .bool true, .bool true, .bool false, .bool false, .bool false]⟩
    go_enter Tryz.func21, Tryz.ntmps21
    go_upto_region 1 with (fail)
    rw [HW0.out, HRE.out]
    go_wp2_with ((with_reducible refine wpList_store_pt #[.bool true, .bool true, .bool true, .bool false, .bool false, .bool false] HS6.out HA6.out HR0.out ?_ ?_ ?_); rfl; rfl)
    (try simp only [Exit.inBlock, Exit.then])
    refine bodyPost_ret (v := .tuple #[.agg #[.bool true, .bool true, .bool true, .bool false, .bool false, .bool false], .bool true]) ?_ rfl HG.out
    exact results_pt rfl _ _ R #[.bool true, .bool true, .bool true, .bool false, .bool false, .bool false] _ rfl rfl HF.out rfl
  by_cases h3 : k = 3
  case pos =>
    subst h3
    clear h1
    clear h2
    have HF := Lib.hid (setRow_heap W0 R _ #[.bool false, .bool true, .bool false, .bool true, .bool false, .bool false] _ _ HR0.out)
    have HS6 : Hid ((#[.bool false, .bool true, .bool false, .bool true, .bool false, .bool false] : Array Value).size = 6) := Lib.hid rfl
    have HA6 : Hid ((#[.bool false, .bool true, .bool false, .bool true, .bool false, .bool false] : Array Value).all (·.oneCell') = true) := Lib.hid (by simp [Value.oneCell'])
    have HG : Hid (GivesPt W 3 (.returned (.tuple #[.agg #[.bool false, .bool true, .bool false, .bool true, .bool false, .bool false], .bool true])) (W0.setRow R #[.bool false, .bool true, .bool false, .bool true, .bool false, .bool false])) := Lib.hid ⟨rfl, below_setRow HB0.out HLE.out #[.bool false, .bool true, .bool false, .bool true, .bool false, .bool false]⟩
    go_enter Tryz.func21, Tryz.ntmps21
    go_upto_region 1 with (fail)
    rw [HW0.out, HRE.out]
    go_wp2_with ((with_reducible refine wpList_store_pt #[.bool false, .bool true, .bool false, .bool true, .bool false, .bool false] HS6.out HA6.out HR0.out ?_ ?_ ?_); rfl; rfl)
    (try simp only [Exit.inBlock, Exit.then])
    refine bodyPost_ret (v := .tuple #[.agg #[.bool false, .bool true, .bool false, .bool true, .bool false, .bool false], .bool true]) ?_ rfl HG.out
    exact results_pt rfl _ _ R #[.bool false, .bool true, .bool false, .bool true, .bool false, .bool false] _ rfl rfl HF.out rfl
  by_cases h4 : k = 4
  case pos =>
    subst h4
    clear h1
    clear h2
    clear h3
    have HF := Lib.hid (setRow_heap W0 R _ #[.bool false, .bool true, .bool false, .bool false, .bool false, .bool false] _ _ HR0.out)
    have HS6 : Hid ((#[.bool false, .bool true, .bool false, .bool false, .bool false, .bool false] : Array Value).size = 6) := Lib.hid rfl
    have HA6 : Hid ((#[.bool false, .bool true, .bool false, .bool false, .bool false, .bool false] : Array Value).all (·.oneCell') = true) := Lib.hid (by simp [Value.oneCell'])
    have HG : Hid (GivesPt W 4 (.returned (.tuple #[.agg #[.bool false, .bool true, .bool false, .bool false, .bool false, .bool false], .bool true])) (W0.setRow R #[.bool false, .bool true, .bool false, .bool false, .bool false, .bool false])) := Lib.hid ⟨rfl, below_setRow HB0.out HLE.out #[.bool false, .bool true, .bool false, .bool false, .bool false, .bool false]⟩
    go_enter Tryz.func21, Tryz.ntmps21
    go_upto_region 1 with (fail)
    rw [HW0.out, HRE.out]
    go_wp2_with ((with_reducible refine wpList_store_pt #[.bool false, .bool true, .bool false, .bool false, .bool false, .bool false] HS6.out HA6.out HR0.out ?_ ?_ ?_); rfl; rfl)
    (try simp only [Exit.inBlock, Exit.then])
    refine bodyPost_ret (v := .tuple #[.agg #[.bool false, .bool true, .bool false, .bool false, .bool false, .bool false], .bool true]) ?_ rfl HG.out
    exact results_pt rfl _ _ R #[.bool false, .bool true, .bool false, .bool false, .bool false, .bool false] _ rfl rfl HF.out rfl
  by_cases h5 : k = 5
  case pos =>
    subst h5
    clear h1
    clear h2
    clear h3
    clear h4
    have HF := Lib.hid (setRow_heap W0 R _ #[.bool false, .bool true, .bool false, .bool false, .bool false, .bool false] _ _ HR0.out)
    have HS6 : Hid ((#[.bool false, .bool true, .bool false, .bool false, .bool false, .bool false] : Array Value).size = 6) := Lib.hid rfl
    have HA6 : Hid ((#[.bool false, .bool true, .bool false, .bool false, .bool false, .bool false] : Array Value).all (·.oneCell') = true) := Lib.hid (by simp [Value.oneCell'])
    have HG : Hid (GivesPt W 5 (.returned (.tuple #[.agg #[.bool false, .bool true, .bool false, .bool false, .bool false, .bool false], .bool true])) (W0.setRow R #[.bool false, .bool true, .bool false, .bool false, .bool false, .bool false])) := Lib.hid ⟨rfl, below_setRow HB0.out HLE.out #[.bool false, .bool true, .bool false, .bool false, .bool false, .bool false]⟩
    go_enter Tryz.func21, Tryz.ntmps21
    go_upto_region 1 with (fail)
    rw [HW0.out, HRE.out]
    go_wp2_with ((with_reducible refine wpList_store_pt #[.bool false, .bool true, .bool false, .bool false, .bool false, .bool false] HS6.out HA6.out HR0.out ?_ ?_ ?_); rfl; rfl)
    (try simp only [Exit.inBlock, Exit.then])
    refine bodyPost_ret (v := .tuple #[.agg #[.bool false, .bool true, .bool false, .bool false, .bool false, .bool false], .bool true]) ?_ rfl HG.out
    exact results_pt rfl _ _ R #[.bool false, .bool true, .bool false, .bool false, .bool false, .bool false] _ rfl rfl HF.out rfl
  by_cases h6 : k = 6
  case pos =>
    subst h6
    clear h1
    clear h2
    clear h3
    clear h4
    clear h5
    have HF := Lib.hid (setRow_heap W0 R _ #[.bool false, .bool true, .bool false, .bool true, .bool false, .bool false] _ _ HR0.out)
    have HS6 : Hid ((#[.bool false, .bool true, .bool false, .bool true, .bool false, .bool false] : Array Value).size = 6) := Lib.hid rfl
    have HA6 : Hid ((#[.bool false, .bool true, .bool false, .bool true, .bool false, .bool false] : Array Value).all (·.oneCell') = true) := Lib.hid (by simp [Value.oneCell'])
    have HG : Hid (GivesPt W 6 (.returned (.tuple #[.agg #[.bool false, .bool true, .bool false, .bool true, .bool false, .bool false], .bool true])) (W0.setRow R #[.bool false, .bool true, .bool false, .bool true, .bool false, .bool false])) := Lib.hid ⟨rfl, below_setRow HB0.out HLE.out #[.bool false, .bool true, .bool false, .bool true, .bool false, .bool false]⟩
    go_enter Tryz.func21, Tryz.ntmps21
    go_upto_region 1 with (fail)
    rw [HW0.out, HRE.out]
    go_wp2_with ((with_reducible refine wpList_store_pt #[.bool false, .bool true, .bool false, .bool true, .bool false, .bool false] HS6.out HA6.out HR0.out ?_ ?_ ?_); rfl; rfl)
    (try simp only [Exit.inBlock, Exit.then])
    refine bodyPost_ret (v := .tuple #[.agg #[.bool false, .bool true, .bool false, .bool true, .bool false, .bool false], .bool true]) ?_ rfl HG.out
    exact results_pt rfl _ _ R #[.bool false, .bool true, .bool false, .bool true, .bool false, .bool false] _ rfl rfl HF.out rfl
  by_cases h7 : k = 7
  case pos =>
    subst h7
    clear h1
    clear h2
    clear h3
    clear h4
    clear h5
    clear h6
    have HF := Lib.hid (setRow_heap W0 R _ #[.bool false, .bool true, .bool false, .bool false, .bool false, .bool false] _ _ HR0.out)
    have HS6 : Hid ((#[.bool false, .bool true, .bool false, .bool false, .bool false, .bool false] : Array Value).size = 6) := Lib.hid rfl
    have HA6 : Hid ((#[.bool false, .bool true, .bool false, .bool false, .bool false, .bool false] : Array Value).all (·.oneCell') = true) := Lib.hid (by simp [Value.oneCell'])
    have HG : Hid (GivesPt W 7 (.returned (.tuple #[.agg #[.bool false, .bool true, .bool false, .bool false, .bool false, .bool false], .bool true])) (W0.setRow R #[.bool false, .bool true, .bool false, .bool false, .bool false, .bool false])) := Lib.hid ⟨rfl, below_setRow HB0.out HLE.out #[.bool false, .bool true, .bool false, .bool false, .bool false, .bool false]⟩
    go_enter Tryz.func21, Tryz.ntmps21
    go_upto_region 1 with (fail)
    rw [HW0.out, HRE.out]
    go_wp2_with ((with_reducible refine wpList_store_pt #[.bool false, .bool true, .bool false, .bool false, .bool false, .bool false] HS6.out HA6.out HR0.out ?_ ?_ ?_); rfl; rfl)
    (try simp only [Exit.inBlock, Exit.then])
    refine bodyPost_ret (v := .tuple #[.agg #[.bool false, .bool true, .bool false, .bool false, .bool false, .bool false], .bool true]) ?_ rfl HG.out
    exact results_pt rfl _ _ R #[.bool false, .bool true, .bool false, .bool false, .bool false, .bool false] _ rfl rfl HF.out rfl
  by_cases h8 : k = 8
  case pos =>
    subst h8
    clear h1
    clear h2
    clear h3
    clear h4
    clear h5
    clear h6
    clear h7
    have HF := Lib.hid (setRow_heap W0 R _ #[.bool true, .bool false, .bool false, .bool false, .bool false, .bool false] _ _ HR0.out)
    have HS6 : Hid ((#[.bool true, .bool false, .bool false, .bool false, .bool false, .bool false] : Array Value).size = 6) := Lib.hid rfl
    have HA6 : Hid ((#[.bool true, .bool false, .bool false, .bool false, .bool false, .bool false] : Array Value).all (·.oneCell') = true) := Lib.hid (by simp [Value.oneCell'])
    have HG : Hid (GivesPt W 8 (.returned (.tuple #[.agg #[.bool true, .bool false, .bool false, .bool false, .bool false, .bool false], .bool true])) (W0.setRow R #[.bool true, .bool false, .bool false, .bool false, .bool false, .bool false])) := Lib.hid ⟨rfl, below_setRow HB0.out HLE.out #[.bool true, .bool false, .bool false, .bool false, .bool false, .bool false]⟩
    go_enter Tryz.func21, Tryz.ntmps21
    go_upto_region 1 with (fail)
    rw [HW0.out, HRE.out]
    go_wp2_with ((with_reducible refine wpList_store_pt #[.bool true, .bool false, .bool false, .bool false, .bool false, .bool false] HS6.out HA6.out HR0.out ?_ ?_ ?_); rfl; rfl)
    (try simp only [Exit.inBlock, Exit.then])
    refine bodyPost_ret (v := .tuple #[.agg #[.bool true, .bool false, .bool false, .bool false, .bool false, .bool false], .bool true]) ?_ rfl HG.out
    exact results_pt rfl _ _ R #[.bool true, .bool false, .bool false, .bool false, .bool false, .bool false] _ rfl rfl HF.out rfl
  by_cases h9 : k = 9
  case pos =>
    subst h9
    clear h1
    clear h2
    clear h3
    clear h4
    clear h5
    clear h6
    clear h7
    clear h8
    have HF := Lib.hid (setRow_heap W0 R _ #[.bool true, .bool false, .bool false, .bool false, .bool true, .bool false] _ _ HR0.out)
    have HS6 : Hid ((#[.bool true, .bool false, .bool false, .bool false, .bool true, .bool false] : Array Value).size = 6) := Lib.hid rfl
    have HA6 : Hid ((#[.bool true, .bool false, .bool false, .bool false, .bool true, .bool false] : Array Value).all (·.oneCell') = true) := Lib.hid (by simp [Value.oneCell'])
    have HG : Hid (GivesPt W 9 (.returned (.tuple #[.agg #[.bool true, .bool false, .bool false, .bool false, .bool true, .bool false], .bool true])) (W0.setRow R #[.bool true, .bool false, .bool false, .bool false, .bool true, .bool false])) := Lib.hid ⟨rfl, below_setRow HB0.out HLE.out #[.bool true, .bool false, .bool false, .bool false, .bool true, .bool false]⟩
    go_enter Tryz.func21, Tryz.ntmps21
    go_upto_region 1 with (fail)
    rw [HW0.out, HRE.out]
    go_wp2_with ((with_reducible refine wpList_store_pt #[.bool true, .bool false, .bool false, .bool false, .bool true, .bool false] HS6.out HA6.out HR0.out ?_ ?_ ?_); rfl; rfl)
    (try simp only [Exit.inBlock, Exit.then])
    refine bodyPost_ret (v := .tuple #[.agg #[.bool true, .bool false, .bool false, .bool false, .bool true, .bool false], .bool true]) ?_ rfl HG.out
    exact results_pt rfl _ _ R #[.bool true, .bool false, .bool false, .bool false, .bool true, .bool false] _ rfl rfl HF.out rfl
  have e1 : (k == 1) = false := by simpa using h1
  have e2 : (k == 2) = false := by simpa using h2
  have e3 : (k == 3) = false := by simpa using h3
  have e4 : (k == 4) = false := by simpa using h4
  have e5 : (k == 5) = false := by simpa using h5
  have e6 : (k == 6) = false := by simpa using h6
  have e7 : (k == 7) = false := by simpa using h7
  have e8 : (k == 8) = false := by simpa using h8
  have e9 : (k == 9) = false := by simpa using h9
  have HK : Hid (ptc k = pz ∧ kOk k = false) := Lib.hid ⟨by unfold ptc kS kT kB kA kO kP; rw [e1, e2, e3, e4, e5, e6, e7, e8, e9]; rfl, by unfold kOk; rw [e1, e2, e3, e4, e5, e6, e7, e8, e9]; rfl⟩
  clear h1 h2 h3 h4 h5 h6 h7 h8 h9
  have HF := Lib.hid (setRow_heap W0 R _ pz _ _ HR0.out)
  have HS6 : Hid ((pz : Array Value).size = 6) := Lib.hid rfl
  have HA6 : Hid ((pz : Array Value).all (·.oneCell') = true) := Lib.hid (by simp [Value.oneCell'])
  have HG : Hid (GivesPt W k (.returned (.tuple #[.agg pz, .bool false])) (W0.setRow R pz)) := Lib.hid ⟨by rw [HK.out.1, HK.out.2], below_setRow HB0.out HLE.out pz⟩
  go_enter Tryz.func21, Tryz.ntmps21
  go_upto_region 1 with (fail)
  rw [HW0.out, HRE.out]
  go_wp2_with ((with_reducible refine wpList_store_pt pz HS6.out HA6.out HR0.out ?_ ?_ ?_); rfl; rfl)
  (try simp only [Exit.inBlock, Exit.then])
  refine bodyPost_ret (v := .tuple #[.agg pz, .bool false]) ?_ rfl HG.out
  exact results_pt rfl _ _ R pz _ rfl rfl HF.out rfl
theorem wpList_load_ky {ops : Array Oper} {rest : List Oper} {a : Act} {w : World} {Q : Exit → Act → World → Prop} {dst : Option Tmp} {x : Operand} {ty : TypeId} {pos : String} {after : Array Edge} {B : Nat} {r : Rv} (hC : RB w B r) (hx : a.eval x = .pointer (some ⟨B, 5, none⟩))
    (h : wpList Tryz.prog ops Q rest (a.put dst (.agg #[.int .u8 r.ka, .int .u8 r.kb, .int .u8 r.kc])) w) : wpList Tryz.prog ops Q (Oper.mk dst (.load 24 x) ty pos after none :: rest) a w :=
  wpList_load_part rfl 24 x rfl B 5 hx 30 (rcs r) #[.int .u8 r.ka, .int .u8 r.kb, .int .u8 r.kc] (0, 0) _ hC (by
    intro j hj
    have h3 : j < 3 := hj
    rcases (by omega : j = 0 ∨ j = 1 ∨ j = 2) with rfl | rfl | rfl <;> rfl) Tryz.underlying24 rfl (by kernel_rfl) h
theorem wpList_load_kyg {ops : Array Oper} {rest : List Oper} {a : Act} {w : World} {Q : Exit → Act → World → Prop} {dst : Option Tmp} {x : Operand} {ty : TypeId} {pos : String} {after : Array Edge} {gd : Option (Nat × Bool)} {B : Nat} {r : Rv} (hC : RB w B r) (hw : Region.wanted (Oper.mk dst (.load 24 x) ty pos after gd) (yielded ops a.tmps) = true) (hx : a.eval x = .pointer (some ⟨B, 5, none⟩))
    (h : wpList Tryz.prog ops Q rest (a.put dst (.agg #[.int .u8 r.ka, .int .u8 r.kb, .int .u8 r.kc])) w) : wpList Tryz.prog ops Q (Oper.mk dst (.load 24 x) ty pos after gd :: rest) a w :=
  wpList_step fun K hK => by
    rw [if_pos hw]
    unfold Oper.wp execOp
    simp only [hx, Instr.loadAt, Instr.sureAddr, Sem.run_bind, Sem.run_pure, Result.andThen_ok, run_loadVar_part w B 5 30 24 (rcs r) #[.int .u8 r.ka, .int .u8 r.kb, .int .u8 r.kc] (0, 0) _ hC (by
      intro j hj
      have h3 : j < 3 := hj
      rcases (by omega : j = 0 ∨ j = 1 ∨ j = 2) with rfl | rfl | rfl <;> rfl) Tryz.underlying24 rfl (by kernel_rfl)]
    exact hK _ _ h
theorem gstep_any (h : Bool) (r : Rv) (W : World) : Calls Tryz.prog 22 #[.bool h, .agg (rcs r)] W fun e w' => e = .returned (.bool (stepB h r.st r.cp)) ∧ Below W.heap.size W w' := by
  obtain ⟨W1, hW1, hb1⟩ : ∃ W1, W.alloc (.cells (rcs r) 30) = W1 ∧ Below W.heap.size W W1 := ⟨_, rfl, (Below.refl _ _).alloc (Nat.le_refl _) _⟩
  obtain ⟨B, hB⟩ : ∃ B, W.heap.size = B := ⟨_, rfl⟩
  have hrb := RB.new W r
  rw [hW1, hB] at hrb
  have HX1 := Lib.hid hrb
  have HW1 := Lib.hid hW1
  have HB1 := Lib.hid hb1
  have HRE := Lib.hid hB
  obtain ⟨c0, c1, c2, c3, c4, c5, c6, c7, c8, c9⟩ := hrb.at
  clear hW1 hb1 hB hrb
  clear c0 c1 c2 c5 c6 c7 c8 c9
  generalize r.st = st at *
  generalize r.cp = cp at *
  cases h with
  | false =>
    cases hs : (st == 0) with
    | false =>
      go_enter Tryz.func22, Tryz.ntmps22
      go_upto_region 1 with (fail)
      rw [HW1.out, HRE.out]
      go_wp2_with fail
      go_ret
      exact ⟨by simp [stepB, hs], HB1.out⟩
    | true =>
      go_enter Tryz.func22, Tryz.ntmps22
      go_upto_region 1 with (fail)
      rw [HW1.out, HRE.out]
      go_wp2_with fail
      go_ret
      exact ⟨by simp [stepB, hs], HB1.out⟩
  | true =>
    go_enter Tryz.func22, Tryz.ntmps22
    go_upto_region 1 with (fail)
    rw [HW1.out, HRE.out]
    go_wp2_with fail
    go_ret
    exact ⟨by simp [stepB], HB1.out⟩
theorem gout_any (h : Bool) (r : Rv) (W : World) : Calls Tryz.prog 24 #[.bool h, .agg (rcs r)] W fun e w' => e = .returned (.bool (outB h r.o)) ∧ Below W.heap.size W w' := by
  obtain ⟨W1, hW1, hb1⟩ : ∃ W1, W.alloc (.cells (rcs r) 30) = W1 ∧ Below W.heap.size W W1 := ⟨_, rfl, (Below.refl _ _).alloc (Nat.le_refl _) _⟩
  obtain ⟨B, hB⟩ : ∃ B, W.heap.size = B := ⟨_, rfl⟩
  have hrb := RB.new W r
  rw [hW1, hB] at hrb
  have HX1 := Lib.hid hrb
  have HW1 := Lib.hid hW1
  have HB1 := Lib.hid hb1
  have HRE := Lib.hid hB
  obtain ⟨c0, c1, c2, c3, c4, c5, c6, c7, c8, c9⟩ := hrb.at
  clear hW1 hb1 hB hrb
  clear c0 c1 c2 c3 c4 c5 c6 c7 c8
  generalize r.o = o at *
  cases h with
  | false =>
    go_enter Tryz.func24, Tryz.ntmps24
    go_upto_region 1 with (fail)
    rw [HW1.out, HRE.out]
    go_wp2_with fail
    go_ret
    exact ⟨by simp [outB], HB1.out⟩
  | true =>
    cases hs : (o == 1) with
    | false =>
      go_enter Tryz.func24, Tryz.ntmps24
      go_upto_region 1 with (fail)
      rw [HW1.out, HRE.out]
      go_wp2_with fail
      go_ret
      exact ⟨by simp [outB, hs], HB1.out⟩
    | true =>
      go_enter Tryz.func24, Tryz.ntmps24
      go_upto_region 1 with (fail)
      rw [HW1.out, HRE.out]
      go_wp2_with fail
      go_ret
      exact ⟨by simp [outB, hs], HB1.out⟩
set_option maxHeartbeats 2000000 in
theorem gadd_any (h : Bool) (r : Rv) (hb : (0 ≤ r.kb ∧ r.kb ≤ 255) ∧ (0 ≤ r.kc ∧ r.kc ≤ 255)) (W : World) : Calls Tryz.prog 23 #[.bool h, .agg (rcs r)] W fun e w' => e = .returned (.bool (addB h (r.ka, r.kb, r.kc) r.d)) ∧ Below W.heap.size W w' := by
  obtain ⟨W1, hW1, hb1⟩ : ∃ W1, W.alloc (.cells (rcs r) 30) = W1 ∧ Below W.heap.size W W1 := ⟨_, rfl, (Below.refl _ _).alloc (Nat.le_refl _) _⟩
  obtain ⟨B, hB⟩ : ∃ B, W.heap.size = B := ⟨_, rfl⟩
  have hrb := RB.new W r
  rw [hW1, hB] at hrb
  have HX1 := Lib.hid hrb
  have HW1 := Lib.hid hW1
  have HB1 := Lib.hid hb1
  have HRE := Lib.hid hB
  obtain ⟨c0, c1, c2, c3, c4, c5, c6, c7, c8, c9⟩ := hrb.at
  clear hW1 hb1 hB hrb
  clear c0 c1 c2 c3 c4 c5 c6 c7 c9
  have hkg := fun W => good_any 4 4 r.ka r.kb r.kc hb.1 hb.2 W
  have hke := fun w => key_eql r.ka r.kb r.kc 0 0 0 w
  clear hb
  generalize hdd : r.d = d at *
  cases h with
  | false =>
    clear hkg
    have HA : Hid (addB false (r.ka, r.kb, r.kc) d = (decide (((r.ka, r.kb, r.kc) : K) = (0, 0, 0)) && d == 0)) := Lib.hid rfl
    generalize decide (((r.ka, r.kb, r.kc) : K) = (0, 0, 0)) = y at *
    cases y with
    | false =>
      go_enter Tryz.func23, Tryz.ntmps23
      go_upto_region 1 with (fail)
      rw [HW1.out, HRE.out]
      go_wp2_with ((with_reducible refine wpList_load_ky HX1.out ?_ ?_); rfl)
      go_ret
      exact ⟨by rw [HA.out]; rfl, HB1.out⟩
    | true =>
      go_enter Tryz.func23, Tryz.ntmps23
      go_upto_region 1 with (fail)
      rw [HW1.out, HRE.out]
      go_wp2_with ((with_reducible refine wpList_load_ky HX1.out ?_ ?_); rfl)
      go_ret
      exact ⟨by rw [HA.out]; rfl, HB1.out⟩
  | true =>
    clear hke
    have HA : Hid (addB true (r.ka, r.kb, r.kc) d = ((goodB 4 4 r.ka r.kb r.kc && d != 0) && d != -9223372036854775808)) := Lib.hid rfl
    generalize goodB 4 4 r.ka r.kb r.kc = y at *
    cases y with
    | false =>
      go_enter Tryz.func23, Tryz.ntmps23
      go_upto_region 1 with (fail)
      rw [HW1.out, HRE.out]
      go_wp2_with ((with_reducible refine wpList_load_ky HX1.out ?_ ?_); rfl)
      refine (hkg _).mono ?_
      rintro e w2 ⟨rfl, h2⟩
      have HB2 := Lib.hid (HB1.out.trans (h2.below.mono HB1.out.size))
      clear h2 c8
      go_wp2_with fail
      go_ret
      exact ⟨by rw [HA.out]; rfl, HB2.out⟩
    | true =>
      cases hz : (d != 0) with
      | false =>
        go_enter Tryz.func23, Tryz.ntmps23
        go_upto_region 1 with (fail)
        rw [HW1.out, HRE.out]
        go_wp2_with ((with_reducible refine wpList_load_ky HX1.out ?_ ?_); rfl)
        refine (hkg _).mono ?_
        rintro e w2 ⟨rfl, h2⟩
        have HB2 := Lib.hid (HB1.out.trans (h2.below.mono HB1.out.size))
        have c8' : w2.cell? ⟨B, 8, none⟩ = some (.int .i64 d) := by rw [← hdd]; exact block_cell (HX1.out.later h2.below) rfl
        clear h2 c8 hdd
        go_wp2_with fail
        go_ret
        exact ⟨by rw [HA.out, hz]; rfl, HB2.out⟩
      | true =>
        go_enter Tryz.func23, Tryz.ntmps23
        go_upto_region 1 with (fail)
        rw [HW1.out, HRE.out]
        go_wp2_with ((with_reducible refine wpList_load_ky HX1.out ?_ ?_); rfl)
        refine (hkg _).mono ?_
        rintro e w2 ⟨rfl, h2⟩
        have HB2 := Lib.hid (HB1.out.trans (h2.below.mono HB1.out.size))
        have c8' : w2.cell? ⟨B, 8, none⟩ = some (.int .i64 d) := by rw [← hdd]; exact block_cell (HX1.out.later h2.below) rfl
        clear h2 c8 hdd
        go_wp2_with fail
        go_ret
        exact ⟨by rw [HA.out, hz]; rfl, HB2.out⟩
theorem gprog_any (h : Bool) (r : Rv) (L : List Ln) (T : List Tk) (M : List Ln) (W : World) (hw : Words W) (hP : RvM W r L T M) (hok : Pgok (r.pg L T M)) (h1 : r.ln ≤ 400 ∧ r.tn ≤ 400 ∧ r.wn ≤ 400) : Calls Tryz.prog 25 #[.bool h, .agg (rcs r)] W fun e w' => e = .returned (.bool (progB h (r.pg L T M))) ∧ Below W.heap.size W w' := by
  obtain ⟨W1, hW1, hb1⟩ : ∃ W1, W.alloc (.cells (rcs r) 30) = W1 ∧ Below W.heap.size W W1 := ⟨_, rfl, (Below.refl _ _).alloc (Nat.le_refl _) _⟩
  obtain ⟨B, hB⟩ : ∃ B, W.heap.size = B := ⟨_, rfl⟩
  have hrb := RB.new W r
  rw [hW1, hB] at hrb
  have HX1 := Lib.hid hrb
  have HW1 := Lib.hid hW1
  have HB1 := Lib.hid hb1
  have HRE := Lib.hid hB
  obtain ⟨c0, c1, c2, c3, c4, c5, c6, c7, c8, c9⟩ := hrb.at
  clear hW1 hb1 hB hrb
  clear c0 c1 c2 c3 c4 c5 c6 c7 c8 c9
  have hs := same_p r.pk r.od r.po r.lp r.ln r.lcp r.tp r.tn r.tcp r.wp r.wn r.wcp r.sk r.fr r.to r.q 0 0 0 none 0 0 none 0 0 none 0 0 0 0 0 0 L T M [] [] [] W1 (hP.later HB1.out) ⟨SlG.empty _, SlG.empty _, SlG.empty _⟩ ⟨by omega, by omega, by omega⟩ ⟨by omega, by omega, by omega⟩
  have hg := good_p 4 4 r.pk r.od r.po r.lp r.ln r.lcp r.tp r.tn r.tcp r.wp r.wn r.wcp r.sk r.fr r.to r.q L T M W1 (hw.later HB1.out) (hP.later HB1.out) hok h1
  clear hw hP hok h1
  obtain ⟨y, hy⟩ : ∃ y, decide ((⟨r.pk, r.od, r.po, L, T, M, r.sk, r.fr, r.to, r.q⟩ : Pg) = ⟨0, 0, 0, [], [], [], 0, 0, 0, 0⟩) = y := ⟨_, rfl⟩
  rw [hy] at hs
  have HA : Hid (progB false (r.pg L T M) = y) := Lib.hid hy
  clear hy
  cases h with
  | false =>
    clear hg
    go_enter Tryz.func25, Tryz.ntmps25
    go_upto_region 1 with (fail)
    rw [HW1.out, HRE.out]
    go_wp2_with ((with_reducible refine wpList_load_pr HX1.out ?_ ?_); rfl)
    refine hs.mono ?_
    rintro e w2 ⟨rfl, h2⟩
    have HB2 := Lib.hid (HB1.out.trans (h2.mono HB1.out.size))
    clear h2 hs
    go_wp2_with fail
    go_ret
    exact ⟨by rw [HA.out]; rfl, HB2.out⟩
  | true =>
    clear hs
    go_enter Tryz.func25, Tryz.ntmps25
    go_upto_region 1 with (fail)
    rw [HW1.out, HRE.out]
    go_wp2_with ((with_reducible refine wpList_load_pr HX1.out ?_ ?_); rfl)
    refine hg.mono ?_
    rintro e w2 ⟨rfl, h2⟩
    have HB2 := Lib.hid (HB1.out.trans (h2.mono HB1.out.size))
    clear h2 hg
    go_wp2_with fail
    go_ret
    exact ⟨rfl, HB2.out⟩
end Go.Proofs.YtdcanppiiikjgaaGreatDoor
namespace Go.Proofs.YtdcanppiiikjgaaGreatDoor
open Go.RowKit Go.ChangeShapes Go.WideShapes
set_option linter.unusedVariables false
set_option linter.unusedSimpArgs false
set_option maxRecDepth 10000

set_option maxHeartbeats 4000000 in
theorem rec_good (r : Rv) (L : List Ln) (T : List Tk) (M : List Ln) (W : World) (hw : Words W) (hP : RvM W r L T M) (hok : Rxok (r.x L T M)) (h1 : r.ln ≤ 400 ∧ r.tn ≤ 400 ∧ r.wn ≤ 400) : Calls Tryz.prog 7 #[.agg (rcs r)] W fun e w' => e = .returned (.bool (goodX (r.x L T M))) ∧ Below W.heap.size W w' := by
  obtain ⟨W1, hW1, hb1⟩ : ∃ W1, W.alloc (.cells (rcs r) 30) = W1 ∧ Below W.heap.size W W1 := ⟨_, rfl, (Below.refl _ _).alloc (Nat.le_refl _) _⟩
  obtain ⟨B, hB⟩ : ∃ B, W.heap.size = B := ⟨_, rfl⟩
  have hrb := RB.new W r
  rw [hW1, hB] at hrb
  have HX1 := Lib.hid hrb
  have HW1 := Lib.hid hW1
  have HB1 := Lib.hid hb1
  have HRE := Lib.hid hB
  have c0 : W1.cell? ⟨B, 0, none⟩ = some (.int .u8 r.k) := block_cell hrb rfl
  clear hW1 hb1 hB hrb
  obtain ⟨b0, hb0⟩ : ∃ b, kOk r.k = b := ⟨_, rfl⟩
  obtain ⟨b1, hb1⟩ : ∃ b, kS r.k = b := ⟨_, rfl⟩
  obtain ⟨b2, hb2⟩ : ∃ b, kT r.k = b := ⟨_, rfl⟩
  obtain ⟨b3, hb3⟩ : ∃ b, kB r.k = b := ⟨_, rfl⟩
  obtain ⟨b4, hb4⟩ : ∃ b, kA r.k = b := ⟨_, rfl⟩
  obtain ⟨b5, hb5⟩ : ∃ b, kO r.k = b := ⟨_, rfl⟩
  obtain ⟨b6, hb6⟩ : ∃ b, kP r.k = b := ⟨_, rfl⟩
  have hpt : ptc r.k = #[.bool b1, .bool b2, .bool b3, .bool b4, .bool b5, .bool b6] := by unfold ptc; rw [hb1, hb2, hb3, hb4, hb5, hb6]
  have hpa := parts_any r.k W1
  unfold GivesPt at hpa
  rw [hpt, hb0] at hpa
  obtain ⟨s, hs⟩ : ∃ y, stepB b3 r.st r.cp = y := ⟨_, rfl⟩
  obtain ⟨a, ha⟩ : ∃ y, addB b4 (r.ka, r.kb, r.kc) r.d = y := ⟨_, rfl⟩
  obtain ⟨o, ho⟩ : ∃ y, outB b5 r.o = y := ⟨_, rfl⟩
  obtain ⟨p, hp⟩ : ∃ y, progB b6 (r.pg L T M) = y := ⟨_, rfl⟩
  have HR : Hid (goodX (r.x L T M) = (b0 && (b1 == (r.sg != 0)) && (b2 == (r.tx != 0)) && s && a && o && p)) := Lib.hid (by
    rw [← hs, ← ha, ← ho, ← hp, ← hb0, ← hb1, ← hb2, ← hb3, ← hb4, ← hb5, ← hb6]
    rfl)
  have HCS := Lib.hid (fun W => gstep_any b3 r W)
  have HCA := Lib.hid (fun W => gadd_any b4 r ⟨hok.key.2.1, hok.key.2.2⟩ W)
  have HCO := Lib.hid (fun W => gout_any b5 r W)
  have HCP := Lib.hid (fun W' (hb : Below W.heap.size W W') => gprog_any b6 r L T M W' (hw.later hb) (hP.later hb) hok.pg h1)
  rw [hs] at HCS
  rw [ha] at HCA
  rw [ho] at HCO
  rw [hp] at HCP
  clear hpt hb0 hb1 hb2 hb3 hb4 hb5 hb6 hs ha ho hp hw hP hok h1
  go_enter Tryz.func7, Tryz.ntmps7
  go_upto_region 1 with (fail)
  rw [HW1.out, HRE.out]
  go_wp2_with fail
  refine hpa.mono ?_
  rintro e w2 ⟨rfl, h2⟩
  have HB2 := Lib.hid (HB1.out.trans (h2.mono HB1.out.size))
  have HX2 := Lib.hid (HX1.out.later h2)
  clear h2 hpa c0
  obtain ⟨N2, hN2⟩ : ∃ n, w2.heap.size = n := ⟨_, rfl⟩
  obtain ⟨w3, hwn, hxn, hbn⟩ : ∃ w3, (w2.alloc (.cells pz 49)).setRow N2 #[.bool b1, .bool b2, .bool b3, .bool b4, .bool b5, .bool b6] = w3 ∧ w3.heap[N2]? = some (.cells #[.bool b1, .bool b2, .bool b3, .bool b4, .bool b5, .bool b6] 49 (0, 0)) ∧ Below w2.heap.size w2 w3 := ⟨_, rfl, by rw [← hN2]; exact setRow_heap _ _ _ _ _ _ (alloc_block w2 _), below_setRow ((Below.refl _ _).alloc (Nat.le_refl _) _) (by omega) _⟩
  have hx2 := alloc_block w2 (.cells pz 49)
  rw [hN2] at hx2
  have HPX := Lib.hid hxn
  have HPZ := Lib.hid hx2
  have HBN := Lib.hid hbn
  have HWN := Lib.hid hwn
  have HNN := Lib.hid hN2
  have HS6 : Hid ((#[.bool b1, .bool b2, .bool b3, .bool b4, .bool b5, .bool b6] : Array Value).size = 6) := Lib.hid rfl
  have HA6 : Hid ((#[.bool b1, .bool b2, .bool b3, .bool b4, .bool b5, .bool b6] : Array Value).all (·.oneCell') = true) := Lib.hid (by simp [Value.oneCell'])
  clear hx2 hxn hbn hwn hN2
  have HB3 := Lib.hid (HB2.out.trans (HBN.out.mono HB2.out.size))
  have HX3 := Lib.hid (HX2.out.later HBN.out)
  have gp := block_later HPX.out (Below.refl _ _)
  have gx := HX3.out.later (Below.refl _ _)
  have p0 : w3.cell? ⟨N2, 0, none⟩ = some (.bool b1) := block_cell gp rfl
  have p1 : w3.cell? ⟨N2, 1, none⟩ = some (.bool b2) := block_cell gp rfl
  have p2 : w3.cell? ⟨N2, 2, none⟩ = some (.bool b3) := block_cell gp rfl
  have p3 : w3.cell? ⟨N2, 3, none⟩ = some (.bool b4) := block_cell gp rfl
  have p4 : w3.cell? ⟨N2, 4, none⟩ = some (.bool b5) := block_cell gp rfl
  have p5 : w3.cell? ⟨N2, 5, none⟩ = some (.bool b6) := block_cell gp rfl
  have c1 : w3.cell? ⟨B, 1, none⟩ = some (.int .u32 r.sg) := block_cell gx rfl
  have c2 : w3.cell? ⟨B, 2, none⟩ = some (.int .u32 r.tx) := block_cell gx rfl
  have HGX := Lib.hid gx
  clear gp gx
  cases b0
  case false =>
    go_wp2_with (first | ((try rw [HNN.out]); (with_reducible refine wpList_store_pt #[.bool b1, .bool b2, .bool b3, .bool b4, .bool b5, .bool b6] HS6.out HA6.out HPZ.out ?_ ?_ ?_); rfl; rfl; rw [HWN.out]) | ((with_reducible refine wpList_load_rcg HGX.out ?_ ?_ ?_); rfl; rfl))
    go_ret
    exact ⟨by rw [HR.out]; rfl, HB3.out⟩
  cases hq1 : (b1 == (r.sg != 0))
  case false =>
    go_wp2_with (first | ((try rw [HNN.out]); (with_reducible refine wpList_store_pt #[.bool b1, .bool b2, .bool b3, .bool b4, .bool b5, .bool b6] HS6.out HA6.out HPZ.out ?_ ?_ ?_); rfl; rfl; rw [HWN.out]) | ((with_reducible refine wpList_load_rcg HGX.out ?_ ?_ ?_); rfl; rfl))
    go_ret
    exact ⟨by rw [HR.out, hq1]; rfl, HB3.out⟩
  cases hq2 : (b2 == (r.tx != 0))
  case false =>
    go_wp2_with (first | ((try rw [HNN.out]); (with_reducible refine wpList_store_pt #[.bool b1, .bool b2, .bool b3, .bool b4, .bool b5, .bool b6] HS6.out HA6.out HPZ.out ?_ ?_ ?_); rfl; rfl; rw [HWN.out]) | ((with_reducible refine wpList_load_rcg HGX.out ?_ ?_ ?_); rfl; rfl))
    go_ret
    exact ⟨by rw [HR.out, hq1, hq2]; rfl, HB3.out⟩
  have HQ := Lib.hid (And.intro hq1 hq2)
  go_wp2_with (first | ((try rw [HNN.out]); (with_reducible refine wpList_store_pt #[.bool b1, .bool b2, .bool b3, .bool b4, .bool b5, .bool b6] HS6.out HA6.out HPZ.out ?_ ?_ ?_); rfl; rfl; rw [HWN.out]) | ((with_reducible refine wpList_load_rcg HGX.out ?_ ?_ ?_); rfl; rfl))
  refine (HCS.out _).mono ?_
  rintro e w4 ⟨rfl, h4⟩
  have HB4 := Lib.hid (HB3.out.trans (h4.mono HB3.out.size))
  have HD4 : Hid (Below w3.heap.size w3 w4) := Lib.hid h4
  clear h4
  clear p0 p1 p2 p3 p4 p5 c1 c2
  clear HGX
  have gp := block_later HPX.out HD4.out
  have gx := HX3.out.later HD4.out
  have p0 : w4.cell? ⟨N2, 0, none⟩ = some (.bool b1) := block_cell gp rfl
  have p1 : w4.cell? ⟨N2, 1, none⟩ = some (.bool b2) := block_cell gp rfl
  have p2 : w4.cell? ⟨N2, 2, none⟩ = some (.bool b3) := block_cell gp rfl
  have p3 : w4.cell? ⟨N2, 3, none⟩ = some (.bool b4) := block_cell gp rfl
  have p4 : w4.cell? ⟨N2, 4, none⟩ = some (.bool b5) := block_cell gp rfl
  have p5 : w4.cell? ⟨N2, 5, none⟩ = some (.bool b6) := block_cell gp rfl
  have c1 : w4.cell? ⟨B, 1, none⟩ = some (.int .u32 r.sg) := block_cell gx rfl
  have c2 : w4.cell? ⟨B, 2, none⟩ = some (.int .u32 r.tx) := block_cell gx rfl
  have HGX := Lib.hid gx
  clear gp gx
  clear hq1 hq2
  cases s
  case false =>
    go_wp2_with ((with_reducible refine wpList_load_rcg HGX.out ?_ ?_ ?_); rfl; rfl)
    go_ret
    exact ⟨by rw [HR.out, HQ.out.1, HQ.out.2]; rfl, HB4.out⟩
  go_wp2_with ((with_reducible refine wpList_load_rcg HGX.out ?_ ?_ ?_); rfl; rfl)
  refine (HCA.out _).mono ?_
  rintro e w5 ⟨rfl, h5⟩
  have HB5 := Lib.hid (HB4.out.trans (h5.mono HB4.out.size))
  have HD5 : Hid (Below w3.heap.size w3 w5) := Lib.hid (HD4.out.trans (h5.mono HD4.out.size))
  clear h5
  clear p0 p1 p2 p3 p4 p5 c1 c2
  clear HGX
  have gp := block_later HPX.out HD5.out
  have gx := HX3.out.later HD5.out
  have p0 : w5.cell? ⟨N2, 0, none⟩ = some (.bool b1) := block_cell gp rfl
  have p1 : w5.cell? ⟨N2, 1, none⟩ = some (.bool b2) := block_cell gp rfl
  have p2 : w5.cell? ⟨N2, 2, none⟩ = some (.bool b3) := block_cell gp rfl
  have p3 : w5.cell? ⟨N2, 3, none⟩ = some (.bool b4) := block_cell gp rfl
  have p4 : w5.cell? ⟨N2, 4, none⟩ = some (.bool b5) := block_cell gp rfl
  have p5 : w5.cell? ⟨N2, 5, none⟩ = some (.bool b6) := block_cell gp rfl
  have c1 : w5.cell? ⟨B, 1, none⟩ = some (.int .u32 r.sg) := block_cell gx rfl
  have c2 : w5.cell? ⟨B, 2, none⟩ = some (.int .u32 r.tx) := block_cell gx rfl
  have HGX := Lib.hid gx
  clear gp gx
  cases a
  case false =>
    go_wp2_with ((with_reducible refine wpList_load_rcg HGX.out ?_ ?_ ?_); rfl; rfl)
    go_ret
    exact ⟨by rw [HR.out, HQ.out.1, HQ.out.2]; rfl, HB5.out⟩
  go_wp2_with ((with_reducible refine wpList_load_rcg HGX.out ?_ ?_ ?_); rfl; rfl)
  refine (HCO.out _).mono ?_
  rintro e w6 ⟨rfl, h6⟩
  have HB6 := Lib.hid (HB5.out.trans (h6.mono HB5.out.size))
  have HD6 : Hid (Below w3.heap.size w3 w6) := Lib.hid (HD5.out.trans (h6.mono HD5.out.size))
  clear h6
  clear p0 p1 p2 p3 p4 p5 c1 c2
  clear HGX
  have gp := block_later HPX.out HD6.out
  have gx := HX3.out.later HD6.out
  have p0 : w6.cell? ⟨N2, 0, none⟩ = some (.bool b1) := block_cell gp rfl
  have p1 : w6.cell? ⟨N2, 1, none⟩ = some (.bool b2) := block_cell gp rfl
  have p2 : w6.cell? ⟨N2, 2, none⟩ = some (.bool b3) := block_cell gp rfl
  have p3 : w6.cell? ⟨N2, 3, none⟩ = some (.bool b4) := block_cell gp rfl
  have p4 : w6.cell? ⟨N2, 4, none⟩ = some (.bool b5) := block_cell gp rfl
  have p5 : w6.cell? ⟨N2, 5, none⟩ = some (.bool b6) := block_cell gp rfl
  have c1 : w6.cell? ⟨B, 1, none⟩ = some (.int .u32 r.sg) := block_cell gx rfl
  have c2 : w6.cell? ⟨B, 2, none⟩ = some (.int .u32 r.tx) := block_cell gx rfl
  have HGX := Lib.hid gx
  clear gp gx
  cases o
  case false =>
    go_wp2_with ((with_reducible refine wpList_load_rcg HGX.out ?_ ?_ ?_); rfl; rfl)
    go_ret
    exact ⟨by rw [HR.out, HQ.out.1, HQ.out.2]; rfl, HB6.out⟩
  go_wp2_with ((with_reducible refine wpList_load_rcg HGX.out ?_ ?_ ?_); rfl; rfl)
  refine (HCP.out _ HB6.out).mono ?_
  rintro e w7 ⟨rfl, h7⟩
  have HB7 := Lib.hid (HB6.out.trans (h7.mono HB6.out.size))
  clear h7
  clear p0 p1 p2 p3 p4 p5 c1 c2
  go_wp2_with fail
  go_ret
  exact ⟨by rw [HR.out, HQ.out.1, HQ.out.2]; rfl, HB7.out⟩
end Go.Proofs.YtdcanppiiikjgaaGreatDoor
namespace Go.Proofs.YtdcanppiiikjgaaGreatDoor
open Go.RowKit Go.ChangeShapes Go.WideShapes
set_option linter.unusedVariables false
set_option linter.unusedSimpArgs false
set_option maxRecDepth 10000

theorem two_recs (W : World) (r r' : Rv) : ∃ W1, (W.alloc (.cells (rcs r) 30)).alloc (.cells (rcs r') 30) = W1 ∧ RB W1 W.heap.size r ∧ RB W1 (W.heap.size + 1) r' ∧ Below W.heap.size W W1 := by
  refine ⟨_, rfl, ?_, ?_, ((Below.refl _ _).alloc (Nat.le_refl _) _).alloc (by simp) _⟩
  · exact (Below.heap_alloc _ _ _ (by simp)).trans (alloc_block W _)
  · have := alloc_block (W.alloc (.cells (rcs r) 30)) (.cells (rcs r') 30)
    rw [World.size_alloc] at this
    exact this
theorem rx_eq (r r' : Rv) (L : List Ln) (T : List Tk) (M : List Ln) (L' : List Ln) (T' : List Tk) (M' : List Ln) : decide (r.x L T M = r'.x L' T' M') = (r.k == r'.k && r.sg == r'.sg && r.tx == r'.tx && r.st == r'.st && r.cp == r'.cp && decide (((r.ka, r.kb, r.kc) : K) = (r'.ka, r'.kb, r'.kc)) && r.d == r'.d && r.o == r'.o && decide (r.pg L T M = r'.pg L' T' M')) := by
  rw [Bool.eq_iff_iff]
  simp only [decide_eq_true_eq, Bool.and_eq_true, beq_iff_eq]
  constructor
  · intro h
    refine ⟨⟨⟨⟨⟨⟨⟨⟨?_, ?_⟩, ?_⟩, ?_⟩, ?_⟩, ?_⟩, ?_⟩, ?_⟩, ?_⟩
    · exact congrArg Rx.k h
    · exact congrArg Rx.sg h
    · exact congrArg Rx.tx h
    · exact congrArg Rx.st h
    · exact congrArg Rx.cp h
    · exact congrArg Rx.key h
    · exact congrArg Rx.d h
    · exact congrArg Rx.o h
    · exact congrArg Rx.pg h
  · rintro ⟨⟨⟨⟨⟨⟨⟨⟨h1, h2⟩, h3⟩, h4⟩, h5⟩, h6⟩, h7⟩, h8⟩, h9⟩
    unfold Rv.x
    rw [h1, h2, h3, h4, h5, h6, h7, h8, h9]
set_option maxHeartbeats 8000000 in
theorem rrec_same (r r' : Rv) (L : List Ln) (T : List Tk) (M : List Ln) (L' : List Ln) (T' : List Tk) (M' : List Ln) (W : World) (hP : RvM W r L T M) (hP' : RvM W r' L' T' M') (h1 : r.ln ≤ 1000 ∧ r.tn ≤ 1000 ∧ r.wn ≤ 1000) (h2 : r'.ln ≤ 1000 ∧ r'.tn ≤ 1000 ∧ r'.wn ≤ 1000) : Calls Tryz.prog 19 #[.agg (rcs r), .agg (rcs r')] W fun e w' => e = .returned (.bool (decide (r.x L T M = r'.x L' T' M'))) ∧ Below W.heap.size W w' := by
  obtain ⟨W1, hW1, hx, hx', hb1⟩ := two_recs W r r'
  have HP := Lib.hid (hP.later hb1)
  have HP' := Lib.hid (hP'.later hb1)
  have hpp := rsame_p r.pk r.od r.po r.lp r.ln r.lcp r.tp r.tn r.tcp r.wp r.wn r.wcp r.sk r.fr r.to r.q r'.pk r'.od r'.po r'.lp r'.ln r'.lcp r'.tp r'.tn r'.tcp r'.wp r'.wn r'.wcp r'.sk r'.fr r'.to r'.q L T M L' T' M' W1 HP.out HP'.out h1 h2
  have hkk := fun w => key_eql r.ka r.kb r.kc r'.ka r'.kb r'.kc w
  obtain ⟨y, hy⟩ : ∃ y, decide (((r.ka, r.kb, r.kc) : K) = (r'.ka, r'.kb, r'.kc)) = y := ⟨_, rfl⟩
  obtain ⟨z, hz⟩ : ∃ z, decide (r.pg L T M = r'.pg L' T' M') = z := ⟨_, rfl⟩
  have hz' : decide ((⟨r.pk, r.od, r.po, L, T, M, r.sk, r.fr, r.to, r.q⟩ : Pg) = ⟨r'.pk, r'.od, r'.po, L', T', M', r'.sk, r'.fr, r'.to, r'.q⟩) = z := hz
  rw [hz'] at hpp
  rw [hy] at hkk
  have HA := Lib.hid (rx_eq r r' L T M L' T' M')
  rw [hy, hz] at HA
  have HX := Lib.hid hx
  have HX' := Lib.hid hx'
  have HW1 := Lib.hid hW1
  have HB1 := Lib.hid hb1
  have c0 : W1.cell? ⟨W.heap.size, 0, none⟩ = some (.int .u8 r.k) := block_cell hx rfl
  have d0 : W1.cell? ⟨W.heap.size + 1, 0, none⟩ = some (.int .u8 r'.k) := block_cell hx' rfl
  have c1 : W1.cell? ⟨W.heap.size, 1, none⟩ = some (.int .u32 r.sg) := block_cell hx rfl
  have d1 : W1.cell? ⟨W.heap.size + 1, 1, none⟩ = some (.int .u32 r'.sg) := block_cell hx' rfl
  have c2 : W1.cell? ⟨W.heap.size, 2, none⟩ = some (.int .u32 r.tx) := block_cell hx rfl
  have d2 : W1.cell? ⟨W.heap.size + 1, 2, none⟩ = some (.int .u32 r'.tx) := block_cell hx' rfl
  have c3 : W1.cell? ⟨W.heap.size, 3, none⟩ = some (.int .u8 r.st) := block_cell hx rfl
  have d3 : W1.cell? ⟨W.heap.size + 1, 3, none⟩ = some (.int .u8 r'.st) := block_cell hx' rfl
  have c4 : W1.cell? ⟨W.heap.size, 4, none⟩ = some (.bool r.cp) := block_cell hx rfl
  have d4 : W1.cell? ⟨W.heap.size + 1, 4, none⟩ = some (.bool r'.cp) := block_cell hx' rfl
  have c8 : W1.cell? ⟨W.heap.size, 8, none⟩ = some (.int .i64 r.d) := block_cell hx rfl
  have d8 : W1.cell? ⟨W.heap.size + 1, 8, none⟩ = some (.int .i64 r'.d) := block_cell hx' rfl
  have c9 : W1.cell? ⟨W.heap.size, 9, none⟩ = some (.int .u8 r.o) := block_cell hx rfl
  have d9 : W1.cell? ⟨W.heap.size + 1, 9, none⟩ = some (.int .u8 r'.o) := block_cell hx' rfl
  clear hW1 hx hx' hb1 hP hP' h1 h2 hy hz hz'
  cases qk : (r.k == r'.k)
  case false =>
    go_enter Tryz.func19, Tryz.ntmps19
    go_upto_region 1 with (fail)
    rw [HW1.out]
    go_wp2_with (first | ((with_reducible refine wpList_load_kyg HX.out ?_ ?_ ?_); rfl; rfl) | ((with_reducible refine wpList_load_kyg HX'.out ?_ ?_ ?_); rfl; rfl) | ((with_reducible refine wpList_load_prg HX.out ?_ ?_ ?_); rfl; rfl) | ((with_reducible refine wpList_load_prg HX'.out ?_ ?_ ?_); rfl; rfl))
    go_ret
    exact ⟨by rw [HA.out, qk]; rfl, HB1.out⟩
  cases qsg : (r.sg == r'.sg)
  case false =>
    go_enter Tryz.func19, Tryz.ntmps19
    go_upto_region 1 with (fail)
    rw [HW1.out]
    go_wp2_with (first | ((with_reducible refine wpList_load_kyg HX.out ?_ ?_ ?_); rfl; rfl) | ((with_reducible refine wpList_load_kyg HX'.out ?_ ?_ ?_); rfl; rfl) | ((with_reducible refine wpList_load_prg HX.out ?_ ?_ ?_); rfl; rfl) | ((with_reducible refine wpList_load_prg HX'.out ?_ ?_ ?_); rfl; rfl))
    go_ret
    exact ⟨by rw [HA.out, qk, qsg]; rfl, HB1.out⟩
  cases qtx : (r.tx == r'.tx)
  case false =>
    go_enter Tryz.func19, Tryz.ntmps19
    go_upto_region 1 with (fail)
    rw [HW1.out]
    go_wp2_with (first | ((with_reducible refine wpList_load_kyg HX.out ?_ ?_ ?_); rfl; rfl) | ((with_reducible refine wpList_load_kyg HX'.out ?_ ?_ ?_); rfl; rfl) | ((with_reducible refine wpList_load_prg HX.out ?_ ?_ ?_); rfl; rfl) | ((with_reducible refine wpList_load_prg HX'.out ?_ ?_ ?_); rfl; rfl))
    go_ret
    exact ⟨by rw [HA.out, qk, qsg, qtx]; rfl, HB1.out⟩
  cases qst : (r.st == r'.st)
  case false =>
    go_enter Tryz.func19, Tryz.ntmps19
    go_upto_region 1 with (fail)
    rw [HW1.out]
    go_wp2_with (first | ((with_reducible refine wpList_load_kyg HX.out ?_ ?_ ?_); rfl; rfl) | ((with_reducible refine wpList_load_kyg HX'.out ?_ ?_ ?_); rfl; rfl) | ((with_reducible refine wpList_load_prg HX.out ?_ ?_ ?_); rfl; rfl) | ((with_reducible refine wpList_load_prg HX'.out ?_ ?_ ?_); rfl; rfl))
    go_ret
    exact ⟨by rw [HA.out, qk, qsg, qtx, qst]; rfl, HB1.out⟩
  cases qcp : (r.cp == r'.cp)
  case false =>
    go_enter Tryz.func19, Tryz.ntmps19
    go_upto_region 1 with (fail)
    rw [HW1.out]
    go_wp2_with (first | ((with_reducible refine wpList_load_kyg HX.out ?_ ?_ ?_); rfl; rfl) | ((with_reducible refine wpList_load_kyg HX'.out ?_ ?_ ?_); rfl; rfl) | ((with_reducible refine wpList_load_prg HX.out ?_ ?_ ?_); rfl; rfl) | ((with_reducible refine wpList_load_prg HX'.out ?_ ?_ ?_); rfl; rfl))
    go_ret
    exact ⟨by rw [HA.out, qk, qsg, qtx, qst, qcp]; rfl, HB1.out⟩
  cases y
  case false =>
    go_enter Tryz.func19, Tryz.ntmps19
    go_upto_region 1 with (fail)
    rw [HW1.out]
    go_wp2_with (first | ((with_reducible refine wpList_load_kyg HX.out ?_ ?_ ?_); rfl; rfl) | ((with_reducible refine wpList_load_kyg HX'.out ?_ ?_ ?_); rfl; rfl) | ((with_reducible refine wpList_load_prg HX.out ?_ ?_ ?_); rfl; rfl) | ((with_reducible refine wpList_load_prg HX'.out ?_ ?_ ?_); rfl; rfl))
    go_ret
    exact ⟨by rw [HA.out, qk, qsg, qtx, qst, qcp]; rfl, HB1.out⟩
  cases qd : (r.d == r'.d)
  case false =>
    go_enter Tryz.func19, Tryz.ntmps19
    go_upto_region 1 with (fail)
    rw [HW1.out]
    go_wp2_with (first | ((with_reducible refine wpList_load_kyg HX.out ?_ ?_ ?_); rfl; rfl) | ((with_reducible refine wpList_load_kyg HX'.out ?_ ?_ ?_); rfl; rfl) | ((with_reducible refine wpList_load_prg HX.out ?_ ?_ ?_); rfl; rfl) | ((with_reducible refine wpList_load_prg HX'.out ?_ ?_ ?_); rfl; rfl))
    go_ret
    exact ⟨by rw [HA.out, qk, qsg, qtx, qst, qcp, qd]; rfl, HB1.out⟩
  cases qo : (r.o == r'.o)
  case false =>
    go_enter Tryz.func19, Tryz.ntmps19
    go_upto_region 1 with (fail)
    rw [HW1.out]
    go_wp2_with (first | ((with_reducible refine wpList_load_kyg HX.out ?_ ?_ ?_); rfl; rfl) | ((with_reducible refine wpList_load_kyg HX'.out ?_ ?_ ?_); rfl; rfl) | ((with_reducible refine wpList_load_prg HX.out ?_ ?_ ?_); rfl; rfl) | ((with_reducible refine wpList_load_prg HX'.out ?_ ?_ ?_); rfl; rfl))
    go_ret
    exact ⟨by rw [HA.out, qk, qsg, qtx, qst, qcp, qd, qo]; rfl, HB1.out⟩
  go_enter Tryz.func19, Tryz.ntmps19
  go_upto_region 1 with (fail)
  rw [HW1.out]
  go_wp2_with (first | ((with_reducible refine wpList_load_kyg HX.out ?_ ?_ ?_); rfl; rfl) | ((with_reducible refine wpList_load_kyg HX'.out ?_ ?_ ?_); rfl; rfl) | ((with_reducible refine wpList_load_prg HX.out ?_ ?_ ?_); rfl; rfl) | ((with_reducible refine wpList_load_prg HX'.out ?_ ?_ ?_); rfl; rfl))
  refine hpp.mono ?_
  rintro e w2 ⟨rfl, h2⟩
  have HB2 := Lib.hid (HB1.out.trans (h2.mono HB1.out.size))
  clear h2 hpp c0 d0 c1 d1 c2 d2 c3 d3 c4 d4 c8 d8 c9 d9
  go_wp2_with fail
  go_ret
  exact ⟨by rw [HA.out, qk, qsg, qtx, qst, qcp, qd, qo]; rfl, HB2.out⟩
end Go.Proofs.YtdcanppiiikjgaaGreatDoor
