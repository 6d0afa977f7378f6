import Derived.Test.YtmdldbchdnkfcaaPA17
import Derived.Deep.LoopGhost
namespace Go.Proofs.Ytmdldbchdnkfcaa
open Go.RowKit Go.ChangeShapes Go.WideShapes
set_option linter.unusedVariables false
set_option maxRecDepth 10000
theorem calls_after_gr {P : Program} {f : FuncId} {args : Array Value} {W : World} {v : Value} (p : After W) (h : Calls P f args p.w fun e w' => e = .returned v ∧ Gr p.w w') :
 Calls P f args p.w fun e w'' => e = .returned v ∧ ∃ q : After W, w'' = q.w := calls_after p (h.mono fun _ _ ⟨he, hb⟩ => ⟨he, hb.below⟩)
theorem key_neq (a b c x y z : Int) (w : World) : (binOp .neq 32 (.agg #[.int .u8 a, .int .u8 b, .int .u8 c]) (.agg #[.int .u8 x, .int .u8 y, .int .u8 z])).run Try.prog w = .ok (.bool (!decide (((a, b, c) : K) = (x, y, z)))) w := by
 by_cases h1 : a = x
 · by_cases h2 : b = y
   · by_cases h3 : c = z
     · subst h1 h2 h3
       go_simp
     · subst h1 h2
       go_simp
   · subst h1
     go_simp
 · go_simp
def insK : List K → K → List K
 | [], k => [k]
 | x :: L, k => if lessB x k = true then x :: insK L k else k :: (x :: L).filter fun y => decide (y ≠ k)
theorem ins_mem (k x : K) : ∀ L : List K, x ∈ insK L k ↔ x = k ∨ x ∈ L
 | [] => by simp [insK]
 | y :: L => by
  have ih := ins_mem k x L
  unfold insK
  split
  · rw [List.mem_cons, ih, List.mem_cons]
    constructor
    · rintro (h | h | h)
      · exact .inr (.inl h)
      · exact .inl h
      · exact .inr (.inr h)
    · rintro (h | h | h)
      · exact .inr (.inl h)
      · exact .inl h
      · exact .inr (.inr h)
  · rw [List.mem_cons, List.mem_filter]
    simp only [decide_eq_true_eq]
    constructor
    · rintro (h | h)
      · exact .inl h
      · exact .inr h.1
    · rintro (h | h)
      · exact .inl h
      · by_cases hx : x = k
        · exact .inl hx
        · exact .inr ⟨h, hx⟩
def Up (L : List K) : Prop := L.Pairwise fun a b => lessB a b = true
theorem ins_up (k : K) : ∀ L : List K, Up L → Up (insK L k)
 | [], _ => by unfold Up; simp [insK]
 | y :: L, h => by
  obtain ⟨h1, h2⟩ := List.pairwise_cons.1 h
  have ih := ins_up k L h2
  unfold insK
  split
  · next hy =>
    refine List.pairwise_cons.2 ⟨fun x hx => ?_, ih⟩
    rcases (ins_mem k x L).1 hx with rfl | hx
    · exact hy
    · exact h1 x hx
  · next hy =>
    refine List.pairwise_cons.2 ⟨fun x hx => ?_, List.Pairwise.filter _ h⟩
    obtain ⟨hx, hne⟩ := List.mem_filter.1 hx
    simp only [decide_eq_true_eq] at hne
    have hyx : lessB x k = false := by
     rcases List.mem_cons.1 hx with rfl | hx
     · simpa using hy
     · cases hc : lessB x k with
       | false => rfl
       | true => exact absurd (less_trans y x k (h1 x hx) hc) hy
    cases hc : lessB k x with
    | true => rfl
    | false => exact absurd (less_total x k hyx hc) hne
def setL (L : List K) : List K := L.foldl insK []
theorem up_one : ∀ (L M : List K), Up L → Up M → (∀ x, x ∈ L ↔ x ∈ M) → L = M
 | [], [], _, _, _ => rfl
 | [], y :: M, _, _, h => by have := (h y).2 (List.mem_cons_self ..); cases this
 | x :: L, [], _, _, h => by have := (h x).1 (List.mem_cons_self ..); cases this
 | x :: L, y :: M, hL, hM, h => by
  obtain ⟨l1, l2⟩ := List.pairwise_cons.1 hL
  obtain ⟨m1, m2⟩ := List.pairwise_cons.1 hM
  have hxy : x = y := by
   rcases List.mem_cons.1 ((h x).1 (List.mem_cons_self ..)) with e | hx
   · exact e
   · rcases List.mem_cons.1 ((h y).2 (List.mem_cons_self ..)) with e | hy
     · exact e.symm
     · have := less_asymm y x (m1 x hx)
       rw [l1 y hy] at this
       cases this
  subst hxy
  congr 1
  refine up_one L M l2 m2 fun z => ⟨fun hz => ?_, fun hz => ?_⟩
  · rcases List.mem_cons.1 ((h z).1 (List.mem_cons_of_mem _ hz)) with rfl | h'
    · have := l1 z hz; rw [less_irrefl] at this; cases this
    · exact h'
  · rcases List.mem_cons.1 ((h z).2 (List.mem_cons_of_mem _ hz)) with rfl | h'
    · have := m1 z hz; rw [less_irrefl] at this; cases this
    · exact h'
end Go.Proofs.Ytmdldbchdnkfcaa
namespace Go.Proofs.Ytmdldbchdnkfcaa
open Go.RowKit Go.ChangeShapes Go.WideShapes Go.Maps
set_option linter.unusedVariables false
abbrev GRow (V : Type) := K × V
section
variable {V : Type}
def keysG (M : List (GRow V)) : List K := M.map (·.1)
def getG (M : List (GRow V)) (k : K) : Option V := (M.find? fun r => decide (r.1 = k)).map (·.2)
def delG (M : List (GRow V)) (k : K) : List (GRow V) := M.filter fun r => decide (r.1 ≠ k)
def putG : List (GRow V) → K → V → List (GRow V)
 | [], k, v => [(k, v)]
 | r :: M, k, v => if lessB r.1 k = true then r :: putG M k v else (k, v) :: delG (r :: M) k
theorem g_get_nil (k : K) : getG ([] : List (GRow V)) k = none := rfl
theorem g_get_cons (r : GRow V) (M : List (GRow V)) (k : K) : getG (r :: M) k = if r.1 = k then some r.2 else getG M k := by
 unfold getG
 by_cases h : r.1 = k
 · simp [h]
 · simp [h]
theorem g_get_del (k j : K) : ∀ M : List (GRow V), getG (delG M k) j = if j = k then none else getG M j
 | [] => by simp [delG, g_get_nil]
 | r :: M => by
  have ih := g_get_del k j M
  unfold delG at *
  rw [List.filter_cons]
  by_cases h : r.1 = k
  · rw [if_neg (by simp [h]), ih, g_get_cons, h]
    by_cases hj : j = k
    · simp [hj]
    · rw [if_neg hj, if_neg hj, if_neg (fun e => hj e.symm)]
  · rw [if_pos (by simp [h]), g_get_cons, g_get_cons, ih]
    by_cases hj : j = k
    · rw [if_pos hj, if_neg (fun e => h (e.trans hj)), if_pos hj]
    · rw [if_neg hj, if_neg hj]
theorem g_get_put (k j : K) (v : V) : ∀ M : List (GRow V), getG (putG M k v) j = if j = k then some v else getG M j
 | [] => by
  rw [putG, g_get_cons]
  by_cases h : j = k
  · simp [h]
  · rw [if_neg h, if_neg (fun e => h e.symm)]
 | r :: M => by
  have ih := g_get_put k j v M
  unfold putG
  split
  · next hl =>
    have hne : r.1 ≠ k := fun e => by rw [e, less_irrefl] at hl; cases hl
    rw [g_get_cons, g_get_cons, ih]
    by_cases hj : j = k
    · rw [if_pos hj, if_neg (fun e => hne (e.trans hj)), if_pos hj]
    · rw [if_neg hj, if_neg hj]
  · rw [g_get_cons, g_get_del]
    by_cases hj : j = k
    · simp [hj]
    · rw [if_neg hj, if_neg hj, if_neg (fun e => hj e.symm)]
theorem g_get_some_mem {k : K} {v : V} : ∀ {M : List (GRow V)}, getG M k = some v → (k, v) ∈ M
 | [], h => by cases h
 | r :: M, h => by
  rw [g_get_cons] at h
  split at h
  · next e =>
    have : r = (k, v) := Prod.ext e (by simpa using h)
    rw [this]; exact List.mem_cons_self ..
  · exact List.mem_cons_of_mem _ (g_get_some_mem h)
theorem g_get_isSome (k : K) : ∀ M : List (GRow V), (getG M k).isSome = true ↔ k ∈ keysG M
 | [] => by simp [getG, keysG]
 | r :: M => by
  have ih := g_get_isSome k M
  rw [g_get_cons]
  unfold keysG at *
  rw [List.map_cons, List.mem_cons]
  split
  · next h => simp [h]
  · next h =>
    rw [ih]
    constructor
    · exact .inr
    · rintro (e | h')
      · exact absurd e.symm h
      · exact h'
theorem g_mem_delM {k : K} {M : List (GRow V)} {r : GRow V} : r ∈ delG M k ↔ r ∈ M ∧ r.1 ≠ k := by simp [delG]
theorem g_mem_putM {k : K} {v : V} {r : GRow V} : ∀ {M : List (GRow V)}, r ∈ putG M k v → r = (k, v) ∨ r ∈ M
 | [], h => by simpa [putG] using h
 | x :: M, h => by
  unfold putG at h
  split at h
  · rcases List.mem_cons.1 h with rfl | h
    · exact .inr (List.mem_cons_self ..)
    · rcases g_mem_putM h with h | h
      · exact .inl h
      · exact .inr (List.mem_cons_of_mem _ h)
  · rcases List.mem_cons.1 h with h | h
    · exact .inl h
    · exact .inr (g_mem_delM.1 h).1
theorem g_keys_del (M : List (GRow V)) (k : K) : keysG (delG M k) = (keysG M).filter fun x => decide (x ≠ k) := by
 unfold keysG delG
 rw [List.filter_map]
 rfl
theorem g_keys_put (k : K) (v : V) : ∀ M : List (GRow V), keysG (putG M k v) = insK (keysG M) k
 | [] => rfl
 | r :: M => by
  have ih := g_keys_put k v M
  unfold putG
  have e : keysG (r :: M) = r.1 :: keysG M := rfl
  rw [e, insK]
  split
  · show r.1 :: keysG (putG M k v) = _
    rw [ih]
  · show k :: keysG (delG (r :: M) k) = _
    rw [g_keys_del]
    rfl
theorem g_up_put {M : List (GRow V)} (k : K) (v : V) (h : Up (keysG M)) : Up (keysG (putG M k v)) := by
 rw [g_keys_put]
 exact ins_up k _ h
theorem g_up_nodup {L : List K} (h : Up L) : L.Nodup := h.imp fun {a b} hl e => by rw [e, less_irrefl] at hl; cases hl
theorem g_len_keys (M : List (GRow V)) : (keysG M).length = M.length := List.length_map ..
structure Gm (D : DataW V) (M : List (GRow V)) : Prop where
 up : Up (keysG M)
 ok : ∀ r ∈ M, Kok r.1
 tidy : Tidy D
 at_ : ∀ k, Kok k → ∀ zd, D.atKey (keyLit k) zd = match getG M k with | some v => .held v | none => zd
 size : Maps.size D = M.length
theorem g_keyLit_is (k : K) : WideAt.IsKeyLit (keyLit k) := trivial
theorem Gm.has {D : DataW V} {M : List (GRow V)} (h : Gm D M) {k : K} (hk : Kok k) : Maps.has D (keyLit k) = (getG M k).isSome := by
 have ha := h.at_ k hk
 cases hg : getG M k with
 | none =>
  rw [hg] at ha
  exact has_false_of_atKey ha
 | some v =>
  rw [hg] at ha
  exact has_true_of_atKey ha
theorem Gm.empty : Gm (.map [] : DataW V) [] := ⟨List.Pairwise.nil, (fun r hr => by cases hr), tidy_empty, fun k _ zd => by rw [g_get_nil]; rfl, rfl⟩
theorem Gm.put {D : DataW V} {M : List (GRow V)} (h : Gm D M) {k : K} (hk : Kok k) (v : V) : Gm (D.put (keyLit k) (.held v)) (putG M k v) := by
 refine ⟨g_up_put k v h.up, fun r hr => ?_, h.tidy.put (g_keyLit_is k) _, fun j hj zd => ?_, ?_⟩
 · rcases g_mem_putM hr with rfl | hr
   · exact hk
   · exact h.ok r hr
 · rw [g_get_put]
   by_cases e : j = k
   · subst e
     rw [if_pos rfl, atKey_put_same h.tidy.isMap (g_keyLit_is j)]
   · rw [if_neg e, atKey_put_other (fun e' => e (keyLit_inj hj hk e')), h.at_ j hj]
 · rw [size_put h.tidy, h.has hk, h.size]
   have h1 : (putG M k v).length = (insK (keysG M) k).length := by rw [← g_keys_put k v M, g_len_keys]
   rw [h1]
   have hn := g_up_nodup (ins_up k _ h.up)
   have hn0 := g_up_nodup h.up
   cases hg : (getG M k).isSome with
   | true =>
    have hm := (g_get_isSome k M).1 hg
    have hp : (insK (keysG M) k).Perm (keysG M) := (List.perm_ext_iff_of_nodup hn hn0).2 fun x => by
     rw [ins_mem]
     constructor
     · rintro (rfl | h')
       · exact hm
       · exact h'
     · exact .inr
    rw [hp.length_eq, g_len_keys]
    rfl
   | false =>
    have hm : k ∉ keysG M := fun h' => by rw [(g_get_isSome k M).2 h'] at hg; cases hg
    have hp : (insK (keysG M) k).Perm (k :: keysG M) := (List.perm_ext_iff_of_nodup hn (List.nodup_cons.2 ⟨hm, hn0⟩)).2 fun x => by rw [ins_mem, List.mem_cons]
    rw [hp.length_eq, List.length_cons, g_len_keys]
    rfl
end
end Go.Proofs.Ytmdldbchdnkfcaa
