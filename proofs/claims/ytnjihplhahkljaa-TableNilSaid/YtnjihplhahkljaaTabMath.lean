/- Tables as rows in order, and what a map reads as that has just these rows. -/
import Derived.Test.YtnjihplhahkljaaKeyMap
import Derived.Test.YtnjihplhahkljaaKeySort
namespace Go.Proofs.Ytnjihplhahkljaa
open Go.RowKit Go.ChangeShapes Go.WideShapes Go.Maps
set_option linter.unusedVariables false

abbrev Rw := K × Int
def keysM (M : List Rw) : List K := M.map (·.1)
def getM (M : List Rw) (k : K) : Option Int := (M.find? fun r => decide (r.1 = k)).map (·.2)
def delM (M : List Rw) (k : K) : List Rw := M.filter fun r => decide (r.1 ≠ k)
def putM : List Rw → K → Int → List Rw
  | [], k, v => [(k, v)]
  | r :: M, k, v => if lessB r.1 k = true then r :: putM M k v else (k, v) :: delM (r :: M) k
theorem get_nil (k : K) : getM [] k = none := rfl
theorem get_cons (r : Rw) (M : List Rw) (k : K) : getM (r :: M) k = if r.1 = k then some r.2 else getM M k := by
  unfold getM
  by_cases h : r.1 = k
  · simp [h]
  · simp [h]
theorem get_del (k j : K) : ∀ M : List Rw, getM (delM M k) j = if j = k then none else getM M j
  | [] => by simp [delM, get_nil]
  | r :: M => by
    have ih := get_del k j M
    unfold delM at *
    rw [List.filter_cons]
    by_cases h : r.1 = k
    · rw [if_neg (by simp [h]), ih, get_cons, h]
      by_cases hj : j = k
      · simp [hj]
      · rw [if_neg hj, if_neg hj, if_neg (fun e => hj e.symm)]
    · rw [if_pos (by simp [h]), get_cons, get_cons, ih]
      by_cases hj : j = k
      · rw [if_pos hj, if_neg (fun e => h (e.trans hj)), if_pos hj]
      · rw [if_neg hj, if_neg hj]
theorem get_put (k j : K) (v : Int) : ∀ M : List Rw, getM (putM M k v) j = if j = k then some v else getM M j
  | [] => by
    rw [putM, get_cons]
    by_cases h : j = k
    · simp [h]
    · rw [if_neg h, if_neg (fun e => h e.symm)]
  | r :: M => by
    have ih := get_put k j v M
    unfold putM
    split
    · next hl =>
      have hne : r.1 ≠ k := fun e => by rw [e, less_irrefl] at hl; cases hl
      rw [get_cons, get_cons, ih]
      by_cases hj : j = k
      · rw [if_pos hj, if_neg (fun e => hne (e.trans hj)), if_pos hj]
      · rw [if_neg hj, if_neg hj]
    · rw [get_cons, get_del]
      by_cases hj : j = k
      · simp [hj]
      · rw [if_neg hj, if_neg hj, if_neg (fun e => hj e.symm)]
theorem get_some_mem {k : K} {v : Int} : ∀ {M : List Rw}, getM M k = some v → (k, v) ∈ M
  | [], h => by cases h
  | r :: M, h => by
    rw [get_cons] at h
    split at h
    · next e =>
      have : r = (k, v) := Prod.ext e (by simpa using h)
      rw [this]; exact List.mem_cons_self ..
    · exact List.mem_cons_of_mem _ (get_some_mem h)
theorem get_isSome (k : K) : ∀ M : List Rw, (getM M k).isSome = true ↔ k ∈ keysM M
  | [] => by simp [getM, keysM]
  | r :: M => by
    have ih := get_isSome k M
    rw [get_cons]
    unfold keysM at *
    rw [List.map_cons, List.mem_cons]
    split
    · next h => simp [h]
    · next h =>
      rw [ih]
      constructor
      · exact .inr
      · rintro (e | h')
        · exact absurd e.symm h
        · exact h'
theorem mem_delM {k : K} {M : List Rw} {r : Rw} : r ∈ delM M k ↔ r ∈ M ∧ r.1 ≠ k := by simp [delM]
theorem mem_putM {k : K} {v : Int} {r : Rw} : ∀ {M : List Rw}, r ∈ putM M k v → r = (k, v) ∨ r ∈ M
  | [], h => by simpa [putM] using h
  | x :: M, h => by
    unfold putM at h
    split at h
    · rcases List.mem_cons.1 h with rfl | h
      · exact .inr (List.mem_cons_self ..)
      · rcases mem_putM h with h | h
        · exact .inl h
        · exact .inr (List.mem_cons_of_mem _ h)
    · rcases List.mem_cons.1 h with h | h
      · exact .inl h
      · exact .inr (mem_delM.1 h).1
theorem keys_del (M : List Rw) (k : K) : keysM (delM M k) = (keysM M).filter fun x => decide (x ≠ k) := by
  unfold keysM delM
  rw [List.filter_map]
  rfl
theorem up_del {M : List Rw} (k : K) (h : Up (keysM M)) : Up (keysM (delM M k)) := by
  rw [keys_del]
  exact List.Pairwise.filter _ h
theorem keys_put (k : K) (v : Int) : ∀ M : List Rw, keysM (putM M k v) = insK (keysM M) k
  | [] => rfl
  | r :: M => by
    have ih := keys_put k v M
    unfold putM
    have e : keysM (r :: M) = r.1 :: keysM M := rfl
    rw [e, insK]
    split
    · show r.1 :: keysM (putM M k v) = _
      rw [ih]
    · show k :: keysM (delM (r :: M) k) = _
      rw [keys_del]
      rfl
theorem up_put {M : List Rw} (k : K) (v : Int) (h : Up (keysM M)) : Up (keysM (putM M k v)) := by
  rw [keys_put]
  exact ins_up k _ h
theorem up_nodup {L : List K} (h : Up L) : L.Nodup := h.imp fun {a b} hl e => by rw [e, less_irrefl] at hl; cases hl
theorem len_keys (M : List Rw) : (keysM M).length = M.length := List.length_map ..
/-- A map's datum has just these rows. -/
structure Tm (D : DataW Unit) (M : List Rw) : Prop where
  up : Up (keysM M)
  ok : ∀ r ∈ M, Kok r.1
  tidy : Tidy D
  at_ : ∀ k, Kok k → ∀ zd, D.atKey (keyLit k) zd = match getM M k with | some v => .lit (.int .i64 v) | none => zd
  size : Maps.size D = M.length
theorem keyLit_is (k : K) : WideAt.IsKeyLit (keyLit k) := trivial
theorem Tm.has {D : DataW Unit} {M : List Rw} (h : Tm D M) {k : K} (hk : Kok k) : Maps.has D (keyLit k) = (getM M k).isSome := by
  have ha := h.at_ k hk
  cases hg : getM M k with
  | none =>
    rw [hg] at ha
    exact has_false_of_atKey ha
  | some v =>
    rw [hg] at ha
    exact has_true_of_atKey ha
theorem Tm.empty : Tm (.map []) [] := ⟨List.Pairwise.nil, (fun r hr => by cases hr), tidy_empty, fun k _ zd => by rw [get_nil]; rfl, rfl⟩
theorem Tm.put {D : DataW Unit} {M : List Rw} (h : Tm D M) {k : K} (hk : Kok k) (v : Int) : Tm (D.put (keyLit k) (.lit (.int .i64 v))) (putM M k v) := by
  refine ⟨up_put k v h.up, fun r hr => ?_, h.tidy.put (keyLit_is k) _, fun j hj zd => ?_, ?_⟩
  · rcases mem_putM hr with rfl | hr
    · exact hk
    · exact h.ok r hr
  · rw [get_put]
    by_cases e : j = k
    · subst e
      rw [if_pos rfl, atKey_put_same h.tidy.isMap (keyLit_is j)]
    · rw [if_neg e, atKey_put_other (fun e' => e (keyLit_inj hj hk e')), h.at_ j hj]
  · rw [size_put h.tidy, h.has hk, h.size]
    have h1 : (putM M k v).length = (insK (keysM M) k).length := by rw [← keys_put k v M, len_keys]
    rw [h1]
    have hn := up_nodup (ins_up k _ h.up)
    have hn0 := up_nodup h.up
    cases hg : (getM M k).isSome with
    | true =>
      have hm := (get_isSome k M).1 hg
      have hp : (insK (keysM M) k).Perm (keysM M) := (List.perm_ext_iff_of_nodup hn hn0).2 fun x => by
        rw [ins_mem]
        constructor
        · rintro (rfl | h')
          · exact hm
          · exact h'
        · exact .inr
      rw [hp.length_eq, len_keys]
      rfl
    | false =>
      have hm : k ∉ keysM M := fun h' => by rw [(get_isSome k M).2 h'] at hg; cases hg
      have hp : (insK (keysM M) k).Perm (k :: keysM M) := (List.perm_ext_iff_of_nodup hn (List.nodup_cons.2 ⟨hm, hn0⟩)).2 fun x => by rw [ins_mem, List.mem_cons]
      rw [hp.length_eq, List.length_cons, len_keys]
      rfl
theorem len_del {M : List Rw} (k : K) : ∀ h : Up (keysM M), (delM M k).length + (if (getM M k).isSome = true then 1 else 0) = M.length := by
  induction M with
  | nil => intro _; rfl
  | cons r M ih =>
    intro h
    obtain ⟨h1, h2⟩ := List.pairwise_cons.1 h
    have ih := ih h2
    rw [get_cons]
    unfold delM at *
    rw [List.filter_cons]
    by_cases e : r.1 = k
    · have hno : (getM M k).isSome = false := by
        cases hg : (getM M k).isSome with
        | false => rfl
        | true =>
          have : lessB r.1 k = true := h1 k ((get_isSome k M).1 hg)
          rw [e, less_irrefl] at this
          cases this
      rw [if_neg (by simp [e]), if_pos e]
      rw [hno] at ih
      simpa using ih
    · rw [if_pos (by simp [e]), if_neg e]
      simp only [List.length_cons]
      omega
theorem Tm.del {D : DataW Unit} {M : List Rw} (h : Tm D M) {k : K} (hk : Kok k) : Tm (D.del (keyLit k)) (delM M k) := by
  refine ⟨up_del k h.up, fun r hr => h.ok r (mem_delM.1 hr).1, h.tidy.del _, fun j hj zd => ?_, ?_⟩
  · rw [get_del]
    by_cases e : j = k
    · subst e
      rw [if_pos rfl, atKey_del_same]
    · rw [if_neg e, atKey_del_other (fun e' => e (keyLit_inj hj hk e')), h.at_ j hj]
  · have h1 := size_del (k := keyLit k) h.tidy
    rw [h.has hk, h.size] at h1
    have h2 := len_del (M := M) k h.up
    omega
/-- All keys of the map, sorted, are the rows' keys. -/
theorem Tm.sorted {D : DataW Unit} {M : List Rw} (h : Tm D M) {ss : List K} (hn : ss.Nodup) (hok : ∀ x ∈ ss, Kok x) (hm : ∀ x, Kok x → (x ∈ ss ↔ Maps.has D (keyLit x) = true)) : sortL ss = keysM M := by
  refine up_one _ _ (sortL_up ss hn) h.up fun x => ?_
  rw [sortL_mem]
  constructor
  · intro hx
    have hk := hok x hx
    have := (hm x hk).1 hx
    rw [h.has hk] at this
    exact (get_isSome x M).1 this
  · intro hx
    have hk : Kok x := by
      obtain ⟨r, hr, rfl⟩ := List.mem_map.1 hx
      exact h.ok r hr
    exact (hm x hk).2 (by rw [h.has hk]; exact (get_isSome x M).2 hx)
end Go.Proofs.Ytnjihplhahkljaa
