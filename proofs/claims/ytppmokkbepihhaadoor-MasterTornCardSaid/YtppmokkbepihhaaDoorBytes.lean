/- Bytes in memory, as lists of whole numbers: as a string; copied into a row; cleared in a row; a new row. -/
import Derived.Test.YtppmokkbepihhaaDoorBase
import Derived.Test.YtppmokkbepihhaaDoorRowG
import Derived.Laws.CopyOwn
import Derived.Laws.BytesArg
import Derived.Laws.MakeOwn
import Derived.Lib.SliceRun
namespace Go.Proofs.YtppmokkbepihhaaDoor
open Go.RowKit Go.ChangeShapes Go.WideShapes
set_option linter.unusedVariables false
set_option maxRecDepth 10000
set_option linter.unusedSimpArgs false

/-- A byte's cells. -/
def eb (x : Int) : List Value := [.int .u8 x]
theorem eb_len (x : Int) : (eb x).length = 1 := rfl
theorem eb_one (x : Int) : ∀ u ∈ eb x, u.oneCell' = true := by
  intro u hu
  simp only [eb, List.mem_cons, List.not_mem_nil, or_false] at hu
  subst hu
  rfl
/-- A slice holds the bytes L. -/
abbrev BL (w : World) (p : Option Addr) (n c : Nat) (L : List Int) : Prop := SlG eb 1 0 w p n c L
/-- Bytes as values. -/
def vB (L : List Int) : List Value := L.map (Value.int .u8)
theorem vB_len (L : List Int) : (vB L).length = L.length := by simp [vB]
theorem vB_one (L : List Int) : ∀ u ∈ vB L, u.oneCell' = true := by
  intro u hu
  obtain ⟨x, _, rfl⟩ := List.mem_map.1 hu
  rfl
theorem vB_at (L : List Int) (j : Nat) (h : j < L.length) : (vB L)[j]? = some (.int .u8 (L.getD j 0)) := by simp [vB, List.getD, List.getElem?_eq_getElem h]
theorem vB_take (L : List Int) (k : Nat) : (vB L).take k = vB (L.take k) := by simp [vB]
theorem vB_drop (L : List Int) (k : Nat) : (vB L).drop k = vB (L.drop k) := by simp [vB]
theorem vB_append (L M : List Int) : vB (L ++ M) = vB L ++ vB M := by simp [vB]
theorem vB_flat (L : List Int) : flatG eb L = vB L := by
  induction L with
  | nil => rfl
  | cons x L ih =>
    unfold flatG at *
    rw [List.flatMap_cons, ih]
    rfl
theorem vB_splice (L M : List Int) (k : Nat) : splice (vB L) k (vB M) = vB (splice L k M) := by simp only [splice, vB_take, vB_drop, vB_append, vB_len]
theorem BL.at {w : World} {p : Option Addr} {n c : Nat} {L : List Int} (h : BL w p n c L) (h0 : 0 < n) : ∃ b off, p = some ⟨b, off, none⟩ ∧ b < w.heap.size ∧ ∀ j, j < n → w.cell? ⟨b, off + j, none⟩ = some (.int .u8 (L.getD j 0)) := by
  obtain ⟨b, off, hp, hlt, hc⟩ := h.cell h0
  refine ⟨b, off, hp, hlt, fun j hj => ?_⟩
  have := hc j hj 0 _ rfl
  rwa [Nat.mul_one, Nat.add_zero] at this
theorem BL.mk {w : World} {p : Option Addr} {n c : Nat} {L : List Int} (hl : L.length = n) (hc : n ≤ c) (hm : c ≤ maxLen) (hn : p = none → c = 0) (h : 0 < n → ∃ b off, p = some ⟨b, off, none⟩ ∧ b < w.heap.size ∧ ∀ j, j < n → w.cell? ⟨b, off + j, none⟩ = some (.int .u8 (L.getD j 0))) : BL w p n c L := by
  refine ⟨hl, hc, hm, hn, fun h0 => ?_⟩
  obtain ⟨b, off, hp, hlt, hcell⟩ := h h0
  refine ⟨b, off, hp, hlt, fun j hj i v hv => ?_⟩
  match i, hv with
  | 0, hv =>
    simp only [eb, List.getElem?_cons_zero, Option.some.injEq] at hv
    subst hv
    rw [Nat.mul_one, Nat.add_zero]
    exact hcell j hj
theorem BL.keep {w w' : World} {p : Option Addr} {n c : Nat} {L : List Int} {S : Nat → Prop} (h : BL w p n c L) (hc : Chg S w w') (hs : 0 < n → ∀ a, p = some a → ¬ S a.block) : BL w' p n c L :=
  SlG.turn h hc.size fun h0 a ha hlt => hc.block _ hlt (hs h0 a ha)
/-- A part of a row that is known whole. -/
theorem BL.of_row {w : World} {g off n c : Nat} {cur : List Int} {t : TypeId} (hg : w.heap[g]? = some (.cells (vB cur).toArray t (0, 0))) (hn : off + n ≤ cur.length) (hc : n ≤ c) (hm : c ≤ maxLen) : BL w (some ⟨g, off, none⟩) n c ((cur.drop off).take n) := by
  refine BL.mk (by rw [List.length_take, List.length_drop]; omega) hc hm (fun h => by cases h) fun h0 => ⟨g, off, rfl, block_lt hg, fun j hj => ?_⟩
  refine block_cell hg ?_
  rw [List.getElem?_toArray, vB_at _ _ (by omega)]
  congr 2
  rw [List.getD, List.getD, List.getElem?_take, if_pos hj, List.getElem?_drop]
/-- A slice of bytes as a string. -/
theorem conv_bl {w : World} {p : Option Addr} {n c : Nat} {L : List Int} (h : BL w p n c L) : (convert 25 9 (.slice p n c)).run Tryd.prog w = .ok (.string (strOfNums L)) w := by
  cases p with
  | none =>
    have h1 := h.nil rfl
    have h2 := h.cap
    have h3 := h.len
    obtain rfl : n = 0 := by omega
    obtain rfl : L = [] := List.eq_nil_of_length_eq_zero h3
    exact run_convert_bytes_nil w _ _ Tryd.underlying25 Tryd.underlying5 0 c _ Tryd.underlying9
  | some a =>
    have hl : (loadCells a n).run Tryd.prog w = .ok (L.map (Value.int .u8)).toArray w := by
      have := run_loadCells_list (P := Tryd.prog) w a (L.map (Value.int .u8)) (fun j v hj => by
        have hjl : j < n := by
          rcases Nat.lt_or_ge j n with h' | h'
          · exact h'
          · rw [List.getElem?_eq_none (by simp [h.len]; exact h')] at hj; cases hj
        obtain ⟨b, off, hp, _, hc⟩ := h.at (by omega)
        cases hp
        rw [Go.WideShapes.add_plain, hc j hjl, ← hj]
        have : j < L.length := by rw [h.len]; exact hjl
        simp [List.getD, List.getElem?_eq_getElem this])
      simpa [h.len] using this
    rw [run_convert_bytes_string w _ _ _ _ n c Tryd.underlying25 Tryd.underlying5 Tryd.underlying9, run_bytesToString w _ n c _ hl, foldl_push_bytes]
    simp [strOfNums, ByteArray.empty, ByteArray.emptyWithCapacity]
    rfl
theorem Chg.setRow {w : World} {g : Nat} (cs : Array Value) : Chg (fun k => k = g) w (w.setRow g cs) := ⟨rfl, rfl, rfl, by simp [World.setRow], fun k hk hn => setRow_other w g k cs hn⟩
theorem cells_u8 : (Value.int .u8 0).cells = #[.int .u8 0] := rfl
theorem size_u8 : (Tryd.prog.info? 5).map (·.size) = some 1 := by kernel_rfl
theorem zero_u8 (w : World) : (zeroValue 5).run Tryd.prog w = .ok (.int .u8 0) w := by kernel_rfl
/-- copy of bytes into a row that is known whole. -/
theorem wpList_copy_at {w : World} {ops : Array Oper} {rest : List Oper} {o : Oper} {a : Act} {Q : Exit → Act → World → Prop} (hgd : o.guard = none) (d s : Operand)
    (ho : o.op = .call { callee := .builtin .copy, args := #[d, s], argTypes := #[25, 25] }) (dp sp : Option Addr) (dLen dCap sLen sCap m : Nat) (hd : a.eval d = .slice dp dLen dCap) (hs : a.eval s = .slice sp sLen sCap) (hm : Nat.min sLen dLen = m)
    (g off : Nat) (cur : List Int) (t : TypeId) (hg : w.heap[g]? = some (.cells (vB cur).toArray t (0, 0))) (src : List Int) (hsrc : BL w sp sLen sCap src)
    (hpos : 0 < m → dp = some ⟨g, off, none⟩) (hfit : off + m ≤ cur.length)
    (h : ∀ w', Hid (w'.heap[g]? = some (.cells (vB (splice cur off (src.take m))).toArray t (0, 0))) → Chg (fun k => k = g) w w' → wpList Tryd.prog ops Q rest (a.put o.dst (.int .i64 (m : Nat))) w') : wpList Tryd.prog ops Q (o :: rest) a w := by
  subst hm
  have hle : Nat.min sLen dLen ≤ sLen := Nat.min_le_left ..
  have hlen : (src.take (Nat.min sLen dLen)).length = Nat.min sLen dLen := by rw [List.length_take, hsrc.len]; omega
  by_cases h0 : Nat.min sLen dLen = 0
  · refine wpList_copy_nothing hgd d s _ _ ho 5 Tryd.underlying25 size_u8 dp sp dLen dCap sLen sCap hd hs h0 ?_
    have := h w (Lib.hid (by rw [h0]; simpa [splice] using hg)) (Chg.refl _ _)
    rw [h0] at this
    exact this
  · obtain rfl := hpos (by omega)
    obtain ⟨b, off', rfl, _, hc⟩ := hsrc.at (by omega)
    refine wpList_copy_own hgd d s _ _ ho 5 Tryd.underlying25 size_u8 g off dLen dCap ⟨b, off', none⟩ sLen sCap hd hs _ t hg (vB (src.take (Nat.min sLen dLen))) (by rw [vB_len, hlen]) ?_ (by simpa [vB_len, hlen] using hfit) (vB_one _) ?_
    · intro j v hv
      have hj : j < Nat.min sLen dLen := by
        rcases Nat.lt_or_ge j (Nat.min sLen dLen) with h' | h'
        · exact h'
        · rw [List.getElem?_eq_none (by rw [vB_len, hlen]; exact h')] at hv; cases hv
      rw [Go.WideShapes.add_plain, hc j (by omega), ← hv, vB_at _ _ (by rw [hlen]; exact hj)]
      rw [List.getD, List.getD, List.getElem?_take, if_pos hj]
    · rw [vB_len, hlen]
      refine h _ (Lib.hid ?_) (Chg.setRow _)
      rw [setRow_heap w g _ _ t _ hg, ← vB_splice]
      simp [splice, vB_len, hlen]
/-- clear of bytes in a row that is known whole. -/
theorem wpList_clear_at {w : World} {ops : Array Oper} {rest : List Oper} {o : Oper} {a : Act} {Q : Exit → Act → World → Prop} (hgd : o.guard = none) (d : Operand)
    (ho : o.op = .call { callee := .builtin .clear, args := #[d], argTypes := #[25] }) (dp : Option Addr) (n c : Nat) (hd : a.eval d = .slice dp n c)
    (g off : Nat) (cur : List Int) (t : TypeId) (hg : w.heap[g]? = some (.cells (vB cur).toArray t (0, 0))) (hpos : 0 < n → dp = some ⟨g, off, none⟩) (hfit : off + n ≤ cur.length)
    (h : ∀ w', Hid (w'.heap[g]? = some (.cells (vB (splice cur off (List.replicate n 0))).toArray t (0, 0))) → Chg (fun k => k = g) w w' → wpList Tryd.prog ops Q rest (a.put o.dst (.tuple #[])) w') : wpList Tryd.prog ops Q (o :: rest) a w := by
  refine wpList_plain hgd fun K hK => ?_
  by_cases h0 : n = 0
  · subst h0
    have hw := h w (Lib.hid (by simpa [splice] using hg)) (Chg.refl _ _)
    have hrun : (Builtin.clear_ #[25] o.type #[.slice dp 0 c]).run Tryd.prog w = .ok (.tuple #[]) w := by
      cases dp <;> simp [Builtin.clear_, run_underlying Tryd.underlying25]
    unfold Oper.wp
    simp [execOp, ho, resolve, invoke, builtin, hd, hrun, Result.andThen]
    exact hK _ _ hw
  · obtain rfl := hpos (by omega)
    obtain ⟨n, rfl⟩ : ∃ m, n = m + 1 := ⟨n - 1, by omega⟩
    have hst := run_storeCells_at Tryd.prog g off t (vB (List.replicate (n + 1) 0)) 0 _ w hg (by simp [vB_len]; omega) (vB_one _)
    have hz : (Builtin.zeroCells (Value.int .u8 0).cells (n + 1)).toList = vB (List.replicate (n + 1) 0) := by
      apply List.ext_getElem
      · simp [Builtin.zeroCells, vB, cells_u8]
      · intro i h1 h2
        simp [Builtin.zeroCells, vB, cells_u8, Nat.mod_one]
    have hrun : (Builtin.clear_ #[25] o.type #[.slice (some ⟨g, off, none⟩) (n + 1) c]).run Tryd.prog w = .ok (.tuple #[]) (w.setRow g (vB (splice cur off (List.replicate (n + 1) 0))).toArray) := by
      simp only [Builtin.clear_]
      simp [run_underlying Tryd.underlying25, zero_u8, hz, hst]
      rw [← vB_splice]
      simp [splice, vB_len]
    unfold Oper.wp
    simp [execOp, ho, resolve, invoke, builtin, hd, hrun, Result.andThen]
    exact hK _ _ (h _ (Lib.hid (setRow_heap w g _ _ t _ hg)) (Chg.setRow _))
/-- The same two laws at an operation that is written out: for an arm of go_wp2_with. -/
theorem wpList_copy_op {w : World} {ops : Array Oper} {rest : List Oper} {a : Act} {Q : Exit → Act → World → Prop} {dst : Option Tmp} {d s : Operand} {ty : TypeId} {pos : String} {after : Array Edge} {dp sp : Option Addr} {dLen dCap sLen sCap m g off : Nat} {cur src : List Int} {t : TypeId}
    (hg : w.heap[g]? = some (.cells (vB cur).toArray t (0, 0))) (hsrc : BL w sp sLen sCap src) (hm : Nat.min sLen dLen = m) (hpos : 0 < m → dp = some ⟨g, off, none⟩) (hfit : off + m ≤ cur.length)
    (hd : a.eval d = .slice dp dLen dCap) (hs : a.eval s = .slice sp sLen sCap)
    (h : ∀ w', Hid (w'.heap[g]? = some (.cells (vB (splice cur off (src.take m))).toArray t (0, 0))) → Chg (fun k => k = g) w w' → wpList Tryd.prog ops Q rest (a.put dst (.int .i64 (m : Nat))) w') :
    wpList Tryd.prog ops Q (Oper.mk dst (.call { callee := .builtin .copy, args := #[d, s], argTypes := #[25, 25] }) ty pos after none :: rest) a w :=
  wpList_copy_at rfl d s rfl dp sp dLen dCap sLen sCap m hd hs hm g off cur t hg src hsrc hpos hfit h
theorem wpList_clear_op {w : World} {ops : Array Oper} {rest : List Oper} {a : Act} {Q : Exit → Act → World → Prop} {dst : Option Tmp} {d : Operand} {ty : TypeId} {pos : String} {after : Array Edge} {dp : Option Addr} {n c g off : Nat} {cur : List Int} {t : TypeId}
    (hg : w.heap[g]? = some (.cells (vB cur).toArray t (0, 0))) (hpos : 0 < n → dp = some ⟨g, off, none⟩) (hfit : off + n ≤ cur.length) (hd : a.eval d = .slice dp n c)
    (h : ∀ w', Hid (w'.heap[g]? = some (.cells (vB (splice cur off (List.replicate n 0))).toArray t (0, 0))) → Chg (fun k => k = g) w w' → wpList Tryd.prog ops Q rest (a.put dst (.tuple #[])) w') :
    wpList Tryd.prog ops Q (Oper.mk dst (.call { callee := .builtin .clear, args := #[d], argTypes := #[25] }) ty pos after none :: rest) a w :=
  wpList_clear_at rfl d rfl dp n c hd g off cur t hg hpos hfit h
/-- A new row of bytes 0. -/
theorem made_bytes (n : Nat) (hn : n ≤ 5000000) (w : World) : (Instr.makeSlice 25 (.int .i64 (n : Nat)) (.int .i64 (n : Nat))).run Tryd.prog w = .ok (.slice (some ⟨w.heap.size, 0, none⟩) n n) (w.alloc (.cells (vB (List.replicate n 0)).toArray 5)) := by
  obtain ⟨i, hi, hz0, hz1, hz2⟩ := info_parts info_u8
  have hr := run_make (P := Tryd.prog) w 25 5 i _ Tryd.underlying25 hi hz0 .i64 .i64 (n : Nat) (n : Nat) (by omega) (by omega) (by rw [hz2]; omega) (by omega)
  rw [hr, hz1, Int.toNat_natCast, Nat.mul_one]
  refine congrArg (fun c => Result.ok _ (w.alloc (.cells c 5))) ?_
  apply Array.ext
  · simp [size_madeCells, vB, cells_u8]
  · intro j h1 h2
    simp [madeCells, vB, cells_u8, Nat.mod_one]
end Go.Proofs.YtppmokkbepihhaaDoor
