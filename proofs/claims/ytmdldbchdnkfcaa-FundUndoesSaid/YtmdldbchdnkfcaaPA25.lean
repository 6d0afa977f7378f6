import Derived.Test.YtmdldbchdnkfcaaShelf
import Derived.Test.YtmdldbchdnkfcaaPA18
namespace Go.Proofs.Ytmdldbchdnkfcaa
open Go.RowKit Go.ChangeShapes Go.WideShapes
set_option linter.unusedVariables false
set_option maxRecDepth 10000
theorem lt_cmp (x y : K) : ltOf cmpI x y = lessB x y := by
 unfold ltOf
 cases h : lessB x y with
 | true => exact decide_eq_true ((cmp_less x y).2 h)
 | false => exact decide_eq_false fun e => by rw [(cmp_less x y).1 e] at h; cases h
theorem swo_cmp : Sort.SWO (ltOf cmpI) where
 irrefl x := by rw [lt_cmp]; exact less_irrefl x
 trans x y z h1 h2 := by rw [lt_cmp] at *; exact less_trans x y z h1 h2
 ntrans x y z h1 h2 := by rw [lt_cmp] at *; exact less_ntrans x y z h1 h2
theorem tot_cmp (x y : K) (h1 : ltOf cmpI x y = false) (h2 : ltOf cmpI y x = false) : x = y := by rw [lt_cmp] at h1 h2; exact less_total x y h1 h2
def sortL (L : List K) : List K := L.mergeSort fun x y => !lessB y x
theorem sortL_perm (L : List K) : (sortL L).Perm L := List.mergeSort_perm L _
theorem sortL_len (L : List K) : (sortL L).length = L.length := (sortL_perm L).length_eq
theorem sortL_mem (L : List K) (x : K) : x ∈ sortL L ↔ x ∈ L := (sortL_perm L).mem_iff
theorem sortL_up (L : List K) (h : L.Nodup) : Up (sortL L) := by
 have hs : (sortL L).Pairwise fun a b => (!lessB b a) = true := List.pairwise_mergeSort
  (fun a b c h1 h2 => by
   simp only [Bool.not_eq_true'] at *
   exact less_ntrans c b a h2 h1)
  (fun a b => by
   cases hab : lessB b a with
   | false => rfl
   | true => simp [less_asymm b a hab]) L
 have hn : (sortL L).Nodup := (sortL_perm L).nodup_iff.2 h
 refine (hs.and hn).imp ?_
 rintro a b ⟨h1, h2⟩
 cases hc : lessB a b with
 | true => rfl
 | false => exact absurd (less_total a b hc (by simpa using h1)) h2
theorem kc_len (k : K) : (kc k).length = 3 := rfl
theorem kc_one (k : K) : ∀ v ∈ kc k, v.oneCell' = true := by
 intro v hv
 simp only [kc, List.mem_cons, List.not_mem_nil, or_false] at hv
 rcases hv with rfl | rfl | rfl <;> rfl
theorem lays_cmp (blk off size : Nat) (w : World) : CmpLays Try.prog 71 #[] kc 3 cmpI blk off size w := fun m os dk _ x y => by
 refine (compare_any x y _).mono ?_
 rintro e w' ⟨rfl, q, os', h⟩
 exact ⟨rfl, q, os', h⟩
theorem get_key {L : List K} {i : Nat} (hi : i < L.length) : L.toArray[i]! = L.getD i (0, 0, 0) := by
 rw [getElem!_pos L.toArray i (by simpa using hi), List.getD, List.getElem?_eq_getElem hi]
 rfl
theorem holds_row {w : World} {B n c : Nat} {L : List K} {base : Nat} (h : w.ownsRow base 32 3 (.slice (some ⟨B, 0, none⟩) n c) n (kL L)) : Sort.HoldsK kc 3 w B 0 L.toArray := by
 intro t ht
 rw [Sort.size_flatK] at ht
 have hlt : t / 3 < L.length := by simp at ht; omega
 have hl : L.length = n := by have h1 := h.1; rw [kL_len] at h1; omega
 rw [Sort.get_flatK _ _ _ _ ht, Nat.zero_add, get_key hlt]
 refine ⟨?_, ?_⟩
 · have hc := h.cellAt t (by rw [hl] at hlt; omega)
   rw [hc]
   have e : t = t / 3 * 3 + t % 3 := by omega
   have := kL_at L (t / 3) (t % 3) hlt (Nat.mod_lt _ (by decide))
   rw [← e] at this
   rw [this]
   have hm : t % 3 < (kc (L.getD (t / 3) (0, 0, 0))).length := Nat.mod_lt _ (by decide)
   rw [List.getElem?_eq_getElem hm, getElem!_pos (kc (L.getD (t / 3) (0, 0, 0))) (t % 3) hm]
   rfl
 · rcases h.2 with ⟨hs, _⟩ | ⟨g, cap, cur, hs, _, hg, _⟩
   · cases hs
   · cases hs
     simp [World.frozen?, hg]
theorem sort_none (p : Option Addr) (c : Nat) (fv : Value) (W : World) : Calls Try.prog 78 #[.slice p 0 c, fv] W fun e w' => e = .returned (.tuple #[]) ∧ w' = W :=
 AnyF.slices_SortFunc_none (P := Try.prog) (ρ := Try.sortKeys_ren) { Try.sortKeys with } p c fv W
theorem sort_some {B n c : Nat} {L : List K} {base : Nat} {W : World} (h : W.ownsRow base 32 3 (.slice (some ⟨B, 0, none⟩) n c) n (kL L)) (hn : n ≤ 1000000) (hok : ∀ k ∈ L, Kok k) :
 Calls Try.prog 78 #[.slice (some ⟨B, 0, none⟩) n c, .func (.func 71) #[] #[]] W fun e w' => e = .returned (.tuple #[]) ∧ W.grownBy w' (some B) ∧ KL w' (some ⟨B, 0, none⟩) n c (sortL L) := by
 have hl : L.length = n := by have h1 := h.1; rw [kL_len] at h1; omega
 have hB := (h.lt B rfl).2
 have hH := holds_row h
 have hcap : n ≤ c ∧ c ≤ maxLen := by
  rcases h.2 with ⟨hs, _⟩ | ⟨g, cap, cur, hs, _, hg, h1, h2, _⟩
  · cases hs
  · cases hs; exact ⟨h1, h2⟩
 have eg : ∀ args w, (callFunc 71 args).run Try.prog w = .ok (.enter 71 args) w := enters_of Try.func71 (by kernel_rfl) rfl
 have hS := AnyQ.slices_SortFunc_total (P := Try.prog) (ρ := Try.sortKeys_ren) Try.sortKeys 3 (fun w => by kernel_rfl) (fun w => by kernel_rfl) kc kc_len kc_one cmpI swo_cmp 71 #[] B 0 c L.toArray W eg (lays_cmp B 0 _ W) hH hB (by simp; omega) tot_cmp
 change Calls Try.prog 78 _ _ _ at hS
 have e1 : L.toArray.size = n := by simpa using hl
 have e2 : (fun x y : K => !ltOf cmpI y x) = fun x y => !lessB y x := by funext x y; rw [lt_cmp]
 rw [e1, e2] at hS
 refine hS.mono ?_
 rintro e w' ⟨rfl, q, os, rfl⟩
 have hsz : (sortL L).toArray.size = L.toArray.size := by simpa using sortL_len L
 change _ ∧ W.grownBy (sortWorldK kc 3 W B 0 q (sortL L).toArray os) (some B) ∧ KL (sortWorldK kc 3 W B 0 q (sortL L).toArray os) (some ⟨B, 0, none⟩) n c (sortL L)
 have hH' := holdsK_sortWorldK kc 3 W B 0 q L.toArray (sortL L).toArray os hB hH hsz
 refine ⟨rfl, ⟨rfl, rfl, rfl, ?_, fun k hk hne => ?_⟩, ⟨(sortL_len L).trans hl, hcap.1, hcap.2, (fun hp => by cases hp), fun k hk => hok k ((sortL_mem L k).1 hk), fun h0 => ⟨B, 0, rfl, fun j hj => ?_⟩⟩⟩
 · unfold sortWorldK; rw [Sort.size_grow, Sort.size_putRowK]; show W.heap.size ≤ W.heap.size + _; omega
 · have hkB : k ≠ B := fun e => hne (by rw [e])
   unfold sortWorldK
   rw [Sort.heap_grow_old _ _ (by rw [Sort.size_putRowK]; exact hk)]
   show ((Sort.ahead W q).heap.modify B _)[k]? = W.heap[k]?
   rw [Array.getElem?_modify, if_neg (Ne.symm hkB)]
   rfl
 · have hj' : j < (sortL L).toArray.size := by rw [hsz, e1]; exact hj
   have hg : (sortL L).toArray[j]! = (sortL L).getD j (0, 0, 0) := get_key (by simpa using hj')
   have c0 := (Sort.HoldsK.cell hH' hj' (by decide : 0 < 3)).1
   have c1 := (Sort.HoldsK.cell hH' hj' (by decide : 1 < 3)).1
   have c2 := (Sort.HoldsK.cell hH' hj' (by decide : 2 < 3)).1
   rw [hg] at c0 c1 c2
   exact ⟨c0, c1, c2⟩
end Go.Proofs.Ytmdldbchdnkfcaa
namespace Go.Proofs.Ytmdldbchdnkfcaa
open Go.RowKit Go.ChangeShapes Go.WideShapes Go.Maps
set_option linter.unusedVariables false
section
variable {V : Type}
theorem Gm.sorted {D : DataW V} {M : List (GRow V)} (h : Gm D M) {ss : List K} (hn : ss.Nodup) (hok : ∀ x ∈ ss, Kok x) (hm : ∀ x, Kok x → (x ∈ ss ↔ Maps.has D (keyLit x) = true)) : sortL ss = keysG M := by
 refine up_one _ _ (sortL_up ss hn) h.up fun x => ?_
 rw [sortL_mem]
 constructor
 · intro hx
   have hk := hok x hx
   have := (hm x hk).1 hx
   rw [h.has hk] at this
   exact (g_get_isSome x M).1 this
 · intro hx
   have hk : Kok x := by
    obtain ⟨r, hr, rfl⟩ := List.mem_map.1 hx
    exact h.ok r hr
   exact (hm x hk).2 (by rw [h.has hk]; exact (g_get_isSome x M).2 hx)
end
end Go.Proofs.Ytmdldbchdnkfcaa
