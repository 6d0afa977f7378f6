/- A run of additions: what is granted of them; where it lies. (Written by tools/src/mkfieldplay.py.) -/
import Derived.Test.YtgjfgabagfhnoaaFieldWorks
import Derived.Test.YtgjfgabagfhnoaaFieldOpen
import Derived.Test.YtgjfgabagfhnoaaAppend
import Derived.Test.YtgjfgabagfhnoaaHand
namespace Go.Proofs.Ytgjfgabagfhnoaa
open Go.RowKit Go.ChangeShapes Go.WideShapes
set_option linter.unusedVariables false
set_option linter.unusedSimpArgs false
set_option maxRecDepth 10000

theorem ni_len (k : IntKind) (x : Int) : (ni k x).length = 1 := rfl
theorem ni_one (k : IntKind) (x : Int) : ∀ u ∈ ni k x, u.oneCell' = true := by
  intro u hu
  obtain rfl := List.mem_singleton.1 hu
  rfl
theorem info_i64 : (Try.prog.info? 2).map (fun i => (i.zero, i.size, i.bytes)) = some (some (.int .i64 0), 1, 8) := by kernel_rfl
/-- One addition more. -/
def playOne (s : Fv × List Int) (d : Int) : Fv × List Int := if grantE s.1 d = 0 then (grantG s.1 d, s.2 ++ [d]) else s
def playS (f : Fv) (A : List Int) : Fv × List Int := A.foldl playOne (f, [])
theorem playS_take (f : Fv) (A : List Int) (j : Nat) (h : j < A.length) : playS f (A.take (j + 1)) = playOne (playS f (A.take j)) (A.getD j 0) := by
  unfold playS
  rw [List.take_succ_eq_append_getElem h, List.foldl_append, List.getD, List.getElem?_eq_getElem h]
  rfl
theorem playS_all {f : Fv} {lo hi w : Int} : ∀ (A : List Int) (s : Fv × List Int), Opn lo hi w s.2 s.1 → Opn lo hi w (A.foldl playOne s).2 (A.foldl playOne s).1
  | [], s, h => h
  | d :: A, s, h => by
    rw [List.foldl_cons]
    refine playS_all (f := f) A _ ?_
    unfold playOne
    by_cases hg : grantE s.1 d = 0
    · rw [if_pos hg]
      exact h.grant hg
    · rw [if_neg hg]
      exact h
theorem playS_opn {lo init hi : Int} (h1 : lo ≤ init) (h2 : init ≤ hi) (A : List Int) : Opn lo hi init (playS ⟨lo, hi, init, init, init, init⟩ A).2 (playS ⟨lo, hi, init, init, init, init⟩ A).1 :=
  playS_all (f := ⟨lo, hi, init, init, init, init⟩) A _ (Opn.start h1 h2)
theorem playS_fok : ∀ (A : List Int) (s : Fv × List Int), Fok s.1 → Fok (A.foldl playOne s).1
  | [], s, h => h
  | d :: A, s, h => by
    rw [List.foldl_cons]
    refine playS_fok A _ ?_
    unfold playOne
    by_cases hg : grantE s.1 d = 0
    · rw [if_pos hg]
      exact (grant_good h hg).2
    · rw [if_neg hg]
      exact h
theorem playS_i64 : ∀ (A : List Int) (s : Fv × List Int), (∀ x ∈ A, I64 x) → (∀ x ∈ s.2, I64 x) → ∀ x ∈ (A.foldl playOne s).2, I64 x
  | [], s, _, h => h
  | d :: A, s, ha, h => by
    rw [List.foldl_cons]
    refine playS_i64 A _ (fun x hx => ha x (List.mem_cons_of_mem _ hx)) ?_
    unfold playOne
    by_cases hg : grantE s.1 d = 0
    · rw [if_pos hg]
      intro x hx
      rcases List.mem_append.1 hx with hx | hx
      · exact h x hx
      · rw [List.mem_singleton.1 hx]; exact ha d (List.mem_cons_self ..)
    · rw [if_neg hg]
      exact h
theorem playS_len : ∀ (A : List Int) (s : Fv × List Int), (A.foldl playOne s).2.length ≤ s.2.length + A.length
  | [], s => by simp
  | d :: A, s => by
    rw [List.foldl_cons]
    have h := playS_len A (playOne s d)
    have h2 : (playOne s d).2.length ≤ s.2.length + 1 := by
      unfold playOne
      split
      · simp
      · omega
    simp only [List.length_cons]
    omega
theorem own_zero {w : World} {B : Nat} {T : TypeId} {k : Nat} {v : Value} {n : Nat} {xs : List Value} (h : w.ownsRow B T k v n xs) : w.ownsRow 0 T k v n xs := by
  refine ⟨h.1, ?_⟩
  rcases h.2 with hn | ⟨g, cap, cur, rfl, h1, h2, h3⟩
  · exact .inl hn
  · exact .inr ⟨g, cap, cur, rfl, Nat.zero_le _, h2, h3⟩
theorem own_base {w : World} {N : Nat} {T : TypeId} {k : Nat} {v : Value} {n : Nat} {xs : List Value} (h : w.ownsRow 0 T k v n xs) (hb : ∀ b, v.ownBlock = some b → N ≤ b) : w.ownsRow N T k v n xs := by
  refine ⟨h.1, ?_⟩
  rcases h.2 with hn | ⟨g, cap, cur, rfl, h1, h2, h3⟩
  · exact .inl hn
  · exact .inr ⟨g, cap, cur, rfl, hb g rfl, h2, h3⟩
theorem own_chg {S : Nat → Prop} {w w' : World} {N : Nat} {T : TypeId} {k : Nat} {v : Value} {n : Nat} {xs : List Value} (h : w.ownsRow N T k v n xs) (hc : Chg S w w') (hs : ∀ b, v.ownBlock = some b → ¬ S b) : w'.ownsRow N T k v n xs :=
  own_base (row_keep (own_zero h) hc hs) (fun b hb => (h.lt b hb).1)
/-- The eight cells of a run. -/
theorem rcells {w : World} {B : Nat} {a b c d e f g h : Value} {T : TypeId} (hh : w.heap[B]? = some (.cells #[a, b, c, d, e, f, g, h] T (0, 0))) : w.cell? ⟨B, 0, none⟩ = some a ∧ w.cell? ⟨B, 1, none⟩ = some b ∧ w.cell? ⟨B, 2, none⟩ = some c ∧ w.cell? ⟨B, 3, none⟩ = some d ∧ w.cell? ⟨B, 4, none⟩ = some e ∧ w.cell? ⟨B, 5, none⟩ = some f ∧ w.cell? ⟨B, 6, none⟩ = some g ∧ w.cell? ⟨B, 7, none⟩ = some h :=
  ⟨block_cell hh rfl, block_cell hh rfl, block_cell hh rfl, block_cell hh rfl, block_cell hh rfl, block_cell hh rfl, block_cell hh rfl, block_cell hh rfl⟩
/-- A number of a slice of numbers. -/
theorem num_cell {k : IntKind} {w : World} {p : Option Addr} {n c : Nat} {L : List Int} (h : NL k w p n c L) {j : Nat} (hj : j < n) : ∃ b off, p = some ⟨b, off, none⟩ ∧ b < w.heap.size ∧ w.cell? ⟨b, off + j, none⟩ = some (.int k (L.getD j 0)) := by
  obtain ⟨b, off, hp, hlt, hc⟩ := h.cell (by omega)
  refine ⟨b, off, hp, hlt, ?_⟩
  have := hc j hj 0 _ rfl
  simpa using this
theorem cell_chg {S : Nat → Prop} {w w' : World} (hc : Chg S w w') {b o : Nat} {v : Value} (h : w.cell? ⟨b, o, none⟩ = some v) (hs : ¬ S b) : w'.cell? ⟨b, o, none⟩ = some v := by
  have hlt : b < w.heap.size := World.block_lt_of_cell? _ _ h
  have e := hc.block b hlt hs
  unfold World.cell? at h ⊢
  simp only [] at h ⊢
  rw [e]
  exact h
/-- A run's box X, a field's box G, a number in block b: what a region asks. -/
structure SR (X G b o : Nat) (rc gc : Array Value) (z : Int) (w : World) : Prop where
  x : w.heap[X]? = some (.cells rc 49 (0, 0))
  g : w.heap[G]? = some (.cells gc 23 (0, 0))
  c : w.cell? ⟨b, o, none⟩ = some (.int .i64 z)
theorem SR.chg {S : Nat → Prop} {X G b o : Nat} {rc gc : Array Value} {x : Int} {w w' : World} (h : SR X G b o rc gc x w) (hc : Chg S w w') (h1 : ¬ S X) (h2 : ¬ S G) (h3 : ¬ S b) : SR X G b o rc gc x w' :=
  ⟨(hc.block X (block_lt h.x) h1).trans h.x, (hc.block G (block_lt h.g) h2).trans h.g, cell_chg hc h.c h3⟩
theorem SR.later {X G b o : Nat} {rc gc : Array Value} {x : Int} {w w' : World} (h : SR X G b o rc gc x w) (hb : Below w.heap.size w w') : SR X G b o rc gc x w' :=
  h.chg (Chg.of_below (S := fun _ => False) hb) (fun h => h) (fun h => h) (fun h => h)
theorem fput_chg (w : World) (Z : Nat) (a' b' c' d' e' f' : Value) : Chg (fun k => k = Z) w ((((((w.setCell ⟨Z, 0, none⟩ a').setCell ⟨Z, 1, none⟩ b').setCell ⟨Z, 2, none⟩ c').setCell ⟨Z, 3, none⟩ d').setCell ⟨Z, 4, none⟩ e').setCell ⟨Z, 5, none⟩ f') :=
  ((((((Chg.refl (fun k => k = Z) w).setCell ⟨Z, 0, none⟩ _ fun _ => rfl).setCell ⟨Z, 1, none⟩ _ fun _ => rfl).setCell ⟨Z, 2, none⟩ _ fun _ => rfl).setCell ⟨Z, 3, none⟩ _ fun _ => rfl).setCell ⟨Z, 4, none⟩ _ fun _ => rfl).setCell ⟨Z, 5, none⟩ _ fun _ => rfl
/-- While a run is played: since world W only block Y may have changed: it holds the field; the call's own row holds what is granted. -/
structure Pg (W w : World) (Y : Nat) (v : Value) (f : Fv) (got : List Int) : Prop where
  y : w.heap[Y]? = some (.cells (fcs f) 23 (0, 0))
  own : w.ownsRow W.heap.size 2 1 v got.length (flatG (ni .i64) got)
  chg : Chg (fun k => k = Y) W w
theorem results_cell_tmp2 {fn : Func} {p u v : Tmp} {ty : TypeId} (h : fn.results = #[.cell p ty, .tmp u, .tmp v]) (tmps : Array Value) (P : Program) (w : World) :
    (results fn tmps).run P w =
      ((asAddr (tmps.getD p undef)).run P w).andThen fun a w₁ => ((loadVar ty a).run P w₁).andThen fun x w₂ => .ok (.tuple #[x, tmps.getD u undef, tmps.getD v undef]) w₂ := by
  simp only [results, h]
  simp [Sem.run_bind, Result.andThen]
theorem results_fff {fn : Func} {p u q : Tmp} (h : fn.results = #[.cell p 23, .tmp u, .tmp q]) (tmps : Array Value) (W : World) (R : Nat) (cs : Array Value) (hs : cs.size = 6) (v z : Value) (hp : tmps.getD p undef = .pointer (some ⟨R, 0, none⟩)) (hv : tmps.getD u undef = v) (hz : tmps.getD q undef = z)
    (hB : W.heap[R]? = some (.cells cs 23 (0, 0))) : (results fn tmps).run Try.prog W = .ok (.tuple #[.agg cs, v, z]) W := by
  rw [results_cell_tmp2 h, hp, hv, hz]
  simp [asAddr, Result.andThen, run_loadVar_row W R 23 23 cs (0, 0) _ hB Try.underlying23 rfl (by rw [hs]; kernel_rfl)]
end Go.Proofs.Ytgjfgabagfhnoaa
