/- Additions as plain data: what undoes them, what they come to. Nothing of the program. -/
/- Additions in memory; those that came in. -/
/- Two lists of additions, the same or not: the program's way and the document's. -/
/- What undoes additions: the document's way. -/
/- append of a whole list of additions. -/
import Derived.Test.YtdcanppiiikjgaaGreatDoorGrCalc
import Derived.Test.YtdcanppiiikjgaaGreatDoorGrKey
import Derived.Test.YtdcanppiiikjgaaGreatDoorGrBase
import Derived.Deep.Slices
import Derived.Deep.Fields
import Derived.Deep.Fields23
import Derived.ChangeSame
namespace Go.Proofs.YtdcanppiiikjgaaGreatDoor
open Go.RowKit
set_option linter.unusedVariables false
set_option maxRecDepth 10000

/-- An addition: a key, and how much. -/
abbrev O := K × Int
abbrev o0 : O := ((0, 0, 0), 0)
def In64 (z : Int) : Prop := -9223372036854775808 ≤ z ∧ z ≤ 9223372036854775807
def Ook (o : O) : Prop := Kok o.1 ∧ In64 o.2
/-- What is added to a key. -/
def dsL (L : List O) (k : K) : List Int := (L.filter fun o => decide (o.1 = k)).map (·.2)
/-- The keys, rising, each once. -/
def keysO (L : List O) : List K := setL (L.map (·.1))
def sumO (L : List O) (k : K) : Int := total (dsL L k)
def netF (L : List O) (S : List K) : List O := (S.filter fun k => decide (sumO L k ≠ 0)).map fun k => (k, sumO L k)
def netOk (L : List O) (S : List K) : Bool := S.all fun k => okB (sumO L k)
def netB (L : List O) : Bool := netOk L (keysO L)
/-- What additions come to. -/
def netV (L : List O) : List O := if netB L = true then netF L (keysO L) else []
def negO (o : O) : O := (o.1, -o.2)
def negF (L : List O) : List O := (L.map negO).reverse
def negB (L : List O) : Bool := L.all fun o => okB (-o.2)
/-- What undoes them. -/
def negV (L : List O) : List O := if negB L = true then negF L else []
theorem okB_iff (z : Int) : okB z = true ↔ In64 z := by unfold okB In64; exact decide_eq_true_iff
theorem dsL_append (L M : List O) (k : K) : dsL (L ++ M) k = dsL L k ++ dsL M k := by simp [dsL]
theorem dsL_one (o : O) (k : K) : dsL [o] k = if o.1 = k then [o.2] else [] := by
  by_cases h : o.1 = k <;> simp [dsL, h]
theorem dsL_in {L : List O} (h : ∀ o ∈ L, Ook o) (k : K) : ∀ x ∈ dsL L k, In64 x := by
  intro x hx
  obtain ⟨o, ho, rfl⟩ := List.mem_map.1 hx
  exact (h o (List.mem_filter.1 ho).1).2
theorem dsL_len (L : List O) (k : K) : (dsL L k).length ≤ L.length := by
  unfold dsL
  rw [List.length_map]
  exact List.length_filter_le _ _
theorem dsL_nil {L : List O} {k : K} (h : k ∉ L.map (·.1)) : dsL L k = [] := by
  unfold dsL
  rw [List.map_eq_nil_iff, List.filter_eq_nil_iff]
  intro o ho he
  exact h (List.mem_map.2 ⟨o, ho, by simpa using he⟩)
theorem dsL_reverse (L : List O) (k : K) : dsL L.reverse k = (dsL L k).reverse := by simp [dsL, List.filter_reverse]
theorem total_rev (xs : List Int) : total xs.reverse = total xs := by
  induction xs with
  | nil => rfl
  | cons x r ih => rw [List.reverse_cons, total_append, ih]; simp [total]; omega
theorem total_neg (xs : List Int) : total (xs.map fun x => -x) = - total xs := by
  induction xs with
  | nil => rfl
  | cons x r ih => rw [List.map_cons]; simp only [total]; rw [ih]; omega
theorem sum_reverse (L : List O) (k : K) : sumO L.reverse k = sumO L k := by unfold sumO; rw [dsL_reverse, total_rev]
theorem keys_congr {L M : List O} (h : ∀ k, k ∈ L.map (·.1) ↔ k ∈ M.map (·.1)) : keysO L = keysO M :=
  up_one _ _ (set_up _) (set_up _) fun x => by unfold keysO; rw [set_mem, set_mem, h]
theorem keys_reverse (L : List O) : keysO L.reverse = keysO L := keys_congr fun k => by simp
theorem netF_congr {L M : List O} {S : List K} (h : ∀ k, sumO L k = sumO M k) : netF L S = netF M S := by unfold netF; simp only [h]
theorem netOk_congr {L M : List O} {S : List K} (h : ∀ k, sumO L k = sumO M k) : netOk L S = netOk M S := by unfold netOk; simp only [h]
theorem net_reverse (L : List O) : netV L.reverse = netV L ∧ netB L.reverse = netB L := by
  have h2 : netB L.reverse = netB L := by unfold netB; rw [keys_reverse, netOk_congr (sum_reverse L)]
  refine ⟨?_, h2⟩
  unfold netV
  rw [h2, keys_reverse, netF_congr (sum_reverse L)]
theorem dsL_neg (L : List O) (k : K) : dsL (negF L) k = ((dsL L k).map fun x => -x).reverse := by
  unfold negF
  rw [dsL_reverse]
  congr 1
  unfold dsL
  rw [List.filter_map, List.map_map, List.map_map]
  rfl
theorem net_undone (L : List O) : netV (L ++ negF L) = [] ∧ netB (L ++ negF L) = true := by
  have hs : ∀ k, sumO (L ++ negF L) k = 0 := fun k => by
    unfold sumO
    rw [dsL_append, dsL_neg, total_append, total_rev, total_neg]
    omega
  have hb : netB (L ++ negF L) = true := by
    unfold netB netOk
    rw [List.all_eq_true]
    intro k _
    rw [hs]
    rfl
  refine ⟨?_, hb⟩
  unfold netV
  rw [if_pos hb]
  unfold netF
  rw [List.map_eq_nil_iff, List.filter_eq_nil_iff]
  intro k _
  simp [hs]
theorem neg_neg_list (L : List O) : negF (negF L) = L := by
  unfold negF
  rw [List.map_reverse, List.reverse_reverse, List.map_map]
  have : (negO ∘ negO) = id := by funext o; simp [negO]
  rw [this, List.map_id]
theorem neg_again {L : List O} (h : ∀ o ∈ L, Ook o) : negB (negF L) = true := by
  unfold negB negF
  rw [List.all_eq_true]
  intro o ho
  obtain ⟨x, hx, rfl⟩ := List.mem_map.1 (List.mem_reverse.1 ho)
  rw [okB_iff]
  have := (h x hx).2
  simpa [negO] using this
theorem neg_ok {L : List O} (h : ∀ o ∈ L, Ook o) (hb : negB L = true) : ∀ o ∈ negF L, Ook o := by
  intro o ho
  obtain ⟨x, hx, rfl⟩ := List.mem_map.1 (List.mem_reverse.1 ho)
  exact ⟨(h x hx).1, (okB_iff _).1 (List.all_eq_true.1 hb x hx)⟩
theorem negV_ok {L : List O} (h : ∀ o ∈ L, Ook o) : ∀ o ∈ negV L, Ook o := by
  unfold negV
  split
  · next hb => exact neg_ok h hb
  · intro o ho; cases ho
theorem set_ok {L : List O} (h : ∀ o ∈ L, Ook o) : ∀ k ∈ keysO L, Kok k := by
  intro k hk
  obtain ⟨o, ho, rfl⟩ := List.mem_map.1 ((set_mem _ _).1 hk)
  exact (h o ho).1
theorem netV_ok {L : List O} (h : ∀ o ∈ L, Ook o) : ∀ o ∈ netV L, Ook o := by
  unfold netV
  split
  · next hb =>
    intro o ho
    obtain ⟨k, hk, rfl⟩ := List.mem_map.1 ho
    have hk2 := (List.mem_filter.1 hk).1
    exact ⟨set_ok h k hk2, (okB_iff _).1 (List.all_eq_true.1 hb k hk2)⟩
  · intro o ho; cases ho
theorem up_nodup {L : List K} (h : Up L) : L.Nodup := h.imp fun {a b} hab e => by rw [e, less_irrefl] at hab; cases hab
theorem ins_len (k : K) : ∀ L : List K, (insK L k).length ≤ L.length + 1
  | [] => by simp [insK]
  | x :: L => by
    have ih := ins_len k L
    have hf := List.length_filter_le (fun y => decide (y ≠ k)) (x :: L)
    unfold insK
    split
    · simp only [List.length_cons]; omega
    · simp only [List.length_cons] at *; omega
theorem set_len_to : ∀ (L acc : List K), (L.foldl insK acc).length ≤ acc.length + L.length
  | [], acc => by simp
  | k :: L, acc => by
    have := set_len_to L (insK acc k)
    have h2 := ins_len k acc
    rw [List.foldl_cons, List.length_cons]
    omega
theorem keys_len (L : List O) : (keysO L).length ≤ L.length := by
  have := set_len_to (L.map (·.1)) []
  simpa [keysO, setL] using this
theorem netF_len (L : List O) (S : List K) : (netF L S).length ≤ S.length := by
  unfold netF
  rw [List.length_map]
  exact List.length_filter_le _ _
theorem netV_len (L : List O) : (netV L).length ≤ L.length := by
  unfold netV
  split
  · exact Nat.le_trans (netF_len _ _) (keys_len L)
  · simp
theorem negV_len (L : List O) : (negV L).length ≤ L.length := by
  unfold negV negF
  split <;> simp
/-- Each key once, with a number. -/
theorem ds_once (f : K → Int) (k : K) : ∀ T : List K, T.Nodup → dsL (T.map fun x => (x, f x)) k = if k ∈ T then [f k] else []
  | [], _ => rfl
  | x :: T, h => by
    obtain ⟨h1, h2⟩ := List.nodup_cons.1 h
    have ih := ds_once f k T h2
    have e : dsL ((x :: T).map fun x => (x, f x)) k = dsL [(x, f x)] k ++ dsL (T.map fun x => (x, f x)) k := by rw [List.map_cons, ← List.singleton_append, dsL_append]
    rw [e, ih, dsL_one]
    by_cases hx : x = k
    · subst hx
      simp [h1]
    · have : k ≠ x := fun e => hx e.symm
      simp [hx, this]
theorem net_again (L : List O) : netV (netV L) = netV L ∧ netB (netV L) = true := by
  by_cases hb : netB L = true
  · have hv : netV L = netF L (keysO L) := by unfold netV; rw [if_pos hb]
    rw [hv]
    have hu : Up (keysO L) := set_up _
    obtain ⟨T, hT⟩ : ∃ T, T = (keysO L).filter fun k => decide (sumO L k ≠ 0) := ⟨_, rfl⟩
    have hM : netF L (keysO L) = T.map fun k => (k, sumO L k) := by rw [hT]; rfl
    have hup : Up T := by rw [hT]; exact List.Pairwise.filter _ hu
    have hne : ∀ k ∈ T, sumO L k ≠ 0 := fun k hk => by rw [hT] at hk; simpa using (List.mem_filter.1 hk).2
    have hin : ∀ k ∈ T, okB (sumO L k) = true := fun k hk => by rw [hT] at hk; exact List.all_eq_true.1 hb k (List.mem_filter.1 hk).1
    rw [hM]
    have hs : ∀ k ∈ T, sumO (T.map fun k => (k, sumO L k)) k = sumO L k := fun k hk => by
      have := ds_once (sumO L) k T (up_nodup hup)
      unfold sumO at this ⊢
      rw [this, if_pos hk]
      simp [total]
    have hk : keysO (T.map fun k => (k, sumO L k)) = T := by
      refine up_one _ _ (set_up _) hup fun x => ?_
      unfold keysO
      rw [set_mem, List.map_map]
      have : ((fun o : O => o.1) ∘ fun k => (k, sumO L k)) = id := by funext k; rfl
      rw [this, List.map_id]
    have hb2 : netB (T.map fun k => (k, sumO L k)) = true := by
      unfold netB netOk
      rw [hk, List.all_eq_true]
      intro k hkT
      rw [hs k hkT]
      exact hin k hkT
    refine ⟨?_, hb2⟩
    unfold netV
    rw [if_pos hb2, hk]
    unfold netF
    have hf : (T.filter fun k => decide (sumO (T.map fun k => (k, sumO L k)) k ≠ 0)) = T := by
      rw [List.filter_eq_self]
      intro k hkT
      rw [hs k hkT]
      simpa using hne k hkT
    rw [hf]
    exact List.map_congr_left fun k hkT => by rw [hs k hkT]
  · have hv : netV L = [] := by unfold netV; rw [if_neg hb]
    rw [hv]
    exact ⟨rfl, rfl⟩
/-- The loop over the keys, one further. -/
theorem netF_take (L : List O) (S : List K) (j : Nat) (h : j < S.length) : netF L (S.take (j + 1)) = if sumO L (S.getD j (0, 0, 0)) = 0 then netF L (S.take j) else netF L (S.take j) ++ [(S.getD j (0, 0, 0), sumO L (S.getD j (0, 0, 0)))] := by
  unfold netF
  rw [List.take_add_one, List.getElem?_eq_getElem h, List.filter_append, List.map_append]
  have e : S.getD j (0, 0, 0) = S[j] := by simp [List.getD, List.getElem?_eq_getElem h]
  rw [e]
  by_cases h0 : sumO L S[j] = 0 <;> simp [h0]
theorem netOk_take (L : List O) (S : List K) (j : Nat) (h : j < S.length) : netOk L (S.take (j + 1)) = (netOk L (S.take j) && okB (sumO L (S.getD j (0, 0, 0)))) := by
  unfold netOk
  rw [List.take_add_one, List.getElem?_eq_getElem h, List.all_append]
  have e : S.getD j (0, 0, 0) = S[j] := by simp [List.getD, List.getElem?_eq_getElem h]
  rw [e]
  simp
theorem netOk_false (L : List O) (S : List K) (j : Nat) (h : j < S.length) (hf : okB (sumO L (S.getD j (0, 0, 0))) = false) : netOk L S = false := by
  have e : S.getD j (0, 0, 0) = S[j] := by simp [List.getD, List.getElem?_eq_getElem h]
  rw [e] at hf
  cases hc : netOk L S with
  | false => rfl
  | true =>
    have := List.all_eq_true.1 hc S[j] (List.getElem_mem h)
    rw [hf] at this
    cases this
theorem take_ds (L : List O) (k : K) (j : Nat) (h : j < L.length) : dsL (L.take (j + 1)) k = if (L.getD j o0).1 = k then dsL (L.take j) k ++ [(L.getD j o0).2] else dsL (L.take j) k := by
  rw [List.take_add_one, List.getElem?_eq_getElem h, Option.toList_some, dsL_append, dsL_one]
  have e : L.getD j o0 = L[j] := by simp [List.getD, List.getElem?_eq_getElem h]
  rw [e]
  by_cases hk : L[j].1 = k <;> simp [hk]
/-- What undoes them, from the end on, once j are left. -/
def gathN (L : List O) (j : Nat) : List O := negF (L.drop j)
theorem gathN_start (L : List O) (n : Nat) (h : L.length = n) : gathN L n = [] := by subst h; simp [gathN, negF]
theorem gathN_end (L : List O) : gathN L 0 = negF L := by simp [gathN]
theorem gathN_step (L : List O) (t : Nat) (h : t < L.length) : gathN L t = gathN L (t + 1) ++ [((L.getD t o0).1, -(L.getD t o0).2)] := by
  unfold gathN negF
  rw [List.drop_eq_getElem_cons h, List.map_cons, List.reverse_cons, List.getD, List.getElem?_eq_getElem h]
  rfl
theorem gathN_len (L : List O) (j : Nat) : (gathN L j).length = L.length - j := by simp [gathN, negF]
theorem negB_false (L : List O) (j : Nat) (h : j < L.length) (hf : okB (-(L.getD j o0).2) = false) : negB L = false := by
  have e : L.getD j o0 = L[j] := by simp [List.getD, List.getElem?_eq_getElem h]
  rw [e] at hf
  cases hc : negB L with
  | false => rfl
  | true =>
    have := List.all_eq_true.1 hc L[j] (List.getElem_mem h)
    rw [hf] at this
    cases this
theorem negB_true (L : List O) (h : ∀ j, j < L.length → okB (-(L.getD j o0).2) = true) : negB L = true := by
  unfold negB
  rw [List.all_eq_true]
  intro o ho
  obtain ⟨j, hj, rfl⟩ := List.getElem_of_mem ho
  have := h j hj
  simpa [List.getD, List.getElem?_eq_getElem hj] using this
end Go.Proofs.YtdcanppiiikjgaaGreatDoor
namespace Go.Proofs.YtdcanppiiikjgaaGreatDoor
open Go.RowKit Go.ChangeShapes Go.WideShapes Go.Deep
set_option linter.unusedVariables false
set_option maxRecDepth 10000

/-- An addition's cells. -/
def oc (o : O) : List Value := [.int .u8 o.1.1, .int .u8 o.1.2.1, .int .u8 o.1.2.2, .int .i64 o.2]
theorem oc_len (o : O) : (oc o).length = 4 := rfl
theorem oc_one (o : O) : ∀ u ∈ oc o, u.oneCell' = true := by
  intro u hu
  simp only [oc, List.mem_cons, List.not_mem_nil, or_false] at hu
  rcases hu with rfl | rfl | rfl | rfl <;> rfl
abbrev OL (w : World) (p : Option Addr) (n c : Nat) (L : List O) : Prop := SlG oc 4 o0 w p n c L
abbrev GivesO (W : World) (L : List O) (e : Ending) (w' : World) : Prop := GivesG oc 4 o0 W L e w'
theorem info_int : (Tryz.prog.info? 2).map (fun i => (i.zero, i.size, i.bytes)) = some (some (.int .i64 0), 1, 8) := by kernel_rfl
theorem op_cells {w : World} {p : Option Addr} {n c : Nat} {L : List O} (h : OL w p n c L) {j : Nat} (hj : j < n) : ∃ b off, p = some ⟨b, off, none⟩ ∧ b < w.heap.size ∧ w.cell? ⟨b, off + j * 4, none⟩ = some (.int .u8 (L.getD j o0).1.1) ∧ w.cell? ⟨b, off + j * 4 + 1, none⟩ = some (.int .u8 (L.getD j o0).1.2.1) ∧ w.cell? ⟨b, off + j * 4 + 2, none⟩ = some (.int .u8 (L.getD j o0).1.2.2) ∧ w.cell? ⟨b, off + j * 4 + 3, none⟩ = some (.int .i64 (L.getD j o0).2) := by
  obtain ⟨b, off, rfl, hb, hc⟩ := h.cell (by omega)
  exact ⟨b, off, rfl, hb, hc j hj 0 _ rfl, hc j hj 1 _ rfl, hc j hj 2 _ rfl, hc j hj 3 _ rfl⟩
theorem ok_at {L : List O} (h : ∀ o ∈ L, Ook o) {j : Nat} (hj : j < L.length) : Ook (L.getD j o0) := by
  rw [List.getD, List.getElem?_eq_getElem hj]
  exact h _ (List.getElem_mem _)
/-- Numbers in memory. -/
def ic (x : Int) : List Value := [.int .i64 x]
theorem ic_len (x : Int) : (ic x).length = 1 := rfl
theorem ic_one (x : Int) : ∀ u ∈ ic x, u.oneCell' = true := by
  intro u hu
  simp only [ic, List.mem_cons, List.not_mem_nil, or_false] at hu
  rw [hu]; rfl
abbrev IL (w : World) (p : Option Addr) (n c : Nat) (L : List Int) : Prop := SlG ic 1 0 w p n c L
abbrev FillI (W wr : World) (v : Value) (L : List Int) (N : Nat) : Prop := FillG ic 1 2 W wr v L N
abbrev GivesI (W : World) (L : List Int) (e : Ending) (w' : World) : Prop := GivesG ic 1 0 W L e w'
theorem int_news (w : World) (x : Int) : ∀ i u, (ic x)[i]? = some u → (w.alloc (.cells #[.int .i64 x] 2)).cell? ⟨w.heap.size, i, none⟩ = some u :=
  fun i u hu => block_cell (alloc_block w _) (by simpa [ic] using hu)
theorem wpList_append_i {w : World} {ops : Array Oper} {rest : List Oper} {o : Oper} {a : Act} {Q : Exit → Act → World → Prop} (hgd : o.guard = none) (s x : Operand)
    (ho : o.op = .call { callee := .builtin .append, args := #[s, x], argTypes := #[140, 140] })
    (base : Nat) (v : Value) (n : Nat) (L : List Int) (hs : a.eval s = v) (hr : w.ownsRow base 2 1 v n (flatG ic L)) (hn : n ≤ 1000000) (e : Int) (B : Nat)
    (hx : a.eval x = .slice (some ⟨B, 0, none⟩) 1 1) (hc : ∀ i u, (ic e)[i]? = some u → w.cell? ⟨B, i, none⟩ = some u) (hbase : base ≤ w.heap.size)
    (h : ∀ v' w', w'.ownsRow base 2 1 v' (n + 1) (flatG ic (L ++ [e])) → w.grownBy w' v.ownBlock → wpList Tryz.prog ops Q rest (a.put o.dst v') w') : wpList Tryz.prog ops Q (o :: rest) a w :=
  wpList_append_g ic_len ic_one (by decide) hgd s x _ _ ho Tryz.underlying140 _ 8 info_int rfl (by omega) base v n L hs hr hn e B hx hc hbase h
/-- Numbers, as both sums want them. -/
theorem IL.row {w : World} {p : Option Addr} {n c : Nat} {xs : List Int} (h : IL w p n c xs) (hr : ∀ x ∈ xs, In64 x) : RowN w p n xs := by
  refine ⟨h.len.symm, hr, ?_⟩
  by_cases h0 : n = 0
  · exact .inl h0
  · obtain ⟨b, off, rfl, hb, hc⟩ := h.cell (by omega)
    refine .inr ⟨b, off, rfl, hb, fun j hj => ?_⟩
    have := hc j (by rw [← h.len]; exact hj) 0 _ rfl
    simpa using this

theorem intCells : Tryz.prog.cellsOf 2 = 1 := by kernel_rfl
section
variable {H : Type} {enc : TypeId × Value → H} {w : World} {base : Nat} {spare : Nat → Bool} {held : Bool}
theorem key_trod {fuel : Nat} {x y z : Value} {d : DataW H × List MemPlace} (h : DataW.trod enc Tryz.prog w base spare held fuel 24 [x, y, z] = some d) : ∃ k : K, Kok k ∧ x = .int .u8 k.1 ∧ y = .int .u8 k.2.1 ∧ z = .int .u8 k.2.2 := by
  obtain ⟨y0, y1, y2, n, _, _, t0, t1, t2⟩ := trod_struct3 Tryz.underlying24 h
  simp only [byteCells, List.drop_zero, List.drop_succ_cons, List.take_succ_cons, List.take_zero] at t0 t1 t2
  obtain ⟨z0, hv0, _, wf0⟩ := DataW.trod_int Tryz.underlying5 t0
  obtain ⟨z1, hv1, _, wf1⟩ := DataW.trod_int Tryz.underlying5 t1
  obtain ⟨z2, hv2, _, wf2⟩ := DataW.trod_int Tryz.underlying5 t2
  simp at hv0 hv1 hv2
  exact ⟨(z0, z1, z2), ⟨bounds_u8 wf0, bounds_u8 wf1, bounds_u8 wf2⟩, hv0, hv1, hv2⟩
end
end Go.Proofs.YtdcanppiiikjgaaGreatDoor
namespace Go.Proofs.YtdcanppiiikjgaaGreatDoor
open Go.RowKit Go.ChangeShapes Go.WideShapes
set_option linter.unusedVariables false
set_option maxRecDepth 10000

theorem lists_same {L M : List O} {n : Nat} (hL : L.length = n) (hM : M.length = n) (h : ∀ j, j < n → L.getD j o0 = M.getD j o0) : L = M := by
  apply List.ext_getElem (by omega)
  intro i h1 h2
  have := h i (by omega)
  simpa [List.getD, List.getElem?_eq_getElem h1, List.getElem?_eq_getElem h2] using this

end Go.Proofs.YtdcanppiiikjgaaGreatDoor
namespace Go.Proofs.YtdcanppiiikjgaaGreatDoor
open Go.RowKit Go.ChangeShapes Go.WideShapes
set_option linter.unusedVariables false
set_option maxRecDepth 10000

/-- A call that hands back additions of its own, and a bool. -/
def GivesOB (W : World) (V : List O) (ok : Bool) (e : Ending) (w' : World) : Prop := ∃ p c, e = .returned (.tuple #[.slice p V.length c, .bool ok]) ∧ OL w' p V.length c V ∧ Below W.heap.size W w' ∧ ∀ a, p = some a → W.heap.size ≤ a.block
theorem givesOB_none {W w' : World} (hb : Below W.heap.size W w') : GivesOB W [] false (.returned (.tuple #[.slice none 0 0, .bool false])) w' := ⟨none, 0, rfl, SlG.empty _, hb, fun a ha => by cases ha⟩
theorem negV_true {L : List O} (h : negB L = true) : negV L = negF L := if_pos h
theorem negV_false {L : List O} (h : negB L = false) : negV L = [] := by unfold negV; rw [h]; rfl

end Go.Proofs.YtdcanppiiikjgaaGreatDoor
namespace Go.Proofs.YtdcanppiiikjgaaGreatDoor
open Go.RowKit Go.ChangeShapes Go.WideShapes
set_option linter.unusedVariables false
set_option maxRecDepth 10000

/-- The cells of a slice, as append wants them. -/
theorem ol_news {w : World} {p : Option Addr} {n c : Nat} {L : List O} (h : OL w p n c L) : ∀ ad, p = some ad → ∀ j u, (flatG oc L)[j]? = some u → w.cell? (ad.add j) = some u := by
  intro ad ha j u hu
  have hj : j < L.length * 4 := by
    rw [← flatG_len oc_len L]
    exact (List.getElem?_eq_some_iff.1 hu).1
  have hn := h.len
  obtain ⟨b, off, rfl, _, hc⟩ := h.cell (by omega)
  cases ha
  have e : j = j / 4 * 4 + j % 4 := by omega
  rw [e, flatG_at (d := o0) oc_len L (j / 4) (j % 4) (by omega) (by omega)] at hu
  have := hc (j / 4) (by omega) (j % 4) u hu
  rw [Go.WideShapes.add_plain]
  rwa [Nat.add_assoc, ← e] at this
theorem ol_none {w : World} {p : Option Addr} {n c : Nat} {L : List O} (h : OL w p n c L) : p = none → n = 0 ∧ c = 0 := fun hp => by
  have h1 := h.nil hp
  have h2 := h.cap
  exact ⟨by omega, h1⟩
end Go.Proofs.YtdcanppiiikjgaaGreatDoor
