/- The program's Set: each key once, by a map of those that were had; then the library's sort. -/
import Derived.Test.YtlmfmccbefgjgaaDoorKeySort
import Derived.Test.YtlmfmccbefgjgaaDoorKeyMap
import Derived.Maps.AppendAt
namespace Go.Proofs.YtlmfmccbefgjgaaDoor
open Go.RowKit Go.ChangeShapes Go.WideShapes Go.Maps
set_option linter.unusedVariables false

/-- Keys, each once, as they come. -/
def onceTo (L : List K) (j : Nat) : List K := (L.take j).foldl (fun acc x => if x ∈ acc then acc else acc ++ [x]) []
theorem once_zero (L : List K) : onceTo L 0 = [] := by simp [onceTo]
theorem once_succ (L : List K) (j : Nat) (h : j < L.length) : onceTo L (j + 1) = if L.getD j (0, 0, 0) ∈ onceTo L j then onceTo L j else onceTo L j ++ [L.getD j (0, 0, 0)] := by
  unfold onceTo
  rw [List.take_add_one, List.foldl_append]
  simp [List.getD, List.getElem?_eq_getElem h]
theorem once_facts (L : List K) : ∀ j, j ≤ L.length → (onceTo L j).length ≤ j ∧ (onceTo L j).Nodup ∧ ∀ x, x ∈ onceTo L j ↔ x ∈ L.take j
  | 0, _ => by simp [onceTo]
  | j + 1, hj => by
    obtain ⟨h1, h2, h3⟩ := once_facts L j (by omega)
    have hx : ∀ x, x ∈ L.take (j + 1) ↔ x ∈ L.take j ∨ x = L.getD j (0, 0, 0) := fun x => by
      rw [List.take_add_one, List.mem_append, List.getElem?_eq_getElem (by omega)]
      simp [List.getD, List.getElem?_eq_getElem (show j < L.length by omega)]
    rw [once_succ L j (by omega)]
    by_cases h : L.getD j (0, 0, 0) ∈ onceTo L j
    · rw [if_pos h]
      exact ⟨by omega, h2, fun x => by
        rw [hx, h3]
        constructor
        · exact .inl
        · rintro (h' | rfl)
          · exact h'
          · exact (h3 _).1 h⟩
    · rw [if_neg h]
      refine ⟨by simp; omega, ?_, fun x => by rw [hx, List.mem_append, h3, List.mem_singleton]⟩
      rw [List.nodup_append]
      exact ⟨h2, by simp, fun a ha b hb => by
        rw [List.mem_singleton] at hb
        subst hb
        exact fun e => h (e ▸ ha)⟩
def hadTo (L : List K) (j : Nat) : DataW Unit := setOf (.agg []) ((onceTo L j).map keyLit)
theorem had_zero (L : List K) : hadTo L 0 = .map [] := by simp [hadTo, once_zero, setOf]
theorem had_put (L : List K) (j : Nat) (x : K) (h : onceTo L (j + 1) = onceTo L j ++ [x]) : hadTo L (j + 1) = (hadTo L j).put (keyLit x) (.agg []) := by
  unfold hadTo
  rw [h, List.map_append, List.map_singleton, setOf_snoc]
theorem zeroUnit (w : World) : (zeroValue 31).run Tryd.prog w = .ok (.agg #[]) w := by kernel_rfl
theorem row_ne {w : World} {base : Nat} {e : TypeId} {size : Nat} {v : Value} {n : Nat} {xs : List Value} (h : w.ownsRow base e size v n xs) {b : Nat} (hb : b < base) : some b ≠ v.ownBlock := fun e1 => by
  have := (h.lt b e1.symm).1
  omega

set_option maxHeartbeats 2000000 in
set_option maxRecDepth 100000 in
theorem set_any (p : Option Addr) (n c : Nat) (L : List K) (W : World) (hL : KL W p n c L) (hn : n ≤ 10000) :
    Calls Tryd.prog 4 #[.slice p n c] W (Lists W (setL L)) := by
  have hmm := @run_makeMap Tryd.prog
  have HL := Lib.hid hL
  have HS := Lib.hid fun j (hj : j < n) => once_succ L j (by rw [hL.len]; exact hj)
  have HF := Lib.hid fun j (hj : j ≤ n) => once_facts L j (by rw [hL.len]; exact hj)
  have HOK : Hid (∀ j, ∀ x ∈ onceTo L j, Kok x) := Lib.hid fun j x hx => hL.ok x (by
    by_cases hj : j ≤ L.length
    · exact List.mem_of_mem_take (((once_facts L j hj).2.2 x).1 hx)
    · have : onceTo L j = onceTo L L.length := by unfold onceTo; rw [List.take_of_length_le (by omega), List.take_of_length_le (by omega)]
      rw [this] at hx
      exact List.mem_of_mem_take (((once_facts L L.length (Nat.le_refl _)).2.2 x).1 hx))
  have hlen := hL.len
  have HLen := Lib.hid hlen
  clear hL hlen
  go_enter Tryd.func4, Tryd.ntmps4
  go_wp2_with fail
  go_loopw [3, 12] (fun v i wr => ∃ j : Nat, j ≤ n ∧ i = .int .i64 j ∧ Hid (wr.ownsMap Tryd.prog 30 unitElem W.heap.size j (hadTo L j)) ∧ Hid (wr.ownsRow (W.heap.size + 1) 30 3 v (onceTo L j).length (kL (onceTo L j))) ∧ Hid (Below W.heap.size W wr) ∧ W.heap.size + 1 ≤ wr.heap.size) (fun _ i _ => n - (intOf i).toNat)
  case atStart => exact ⟨0, Nat.zero_le _, rfl, Lib.hid (by rw [had_zero]; exact World.ownsMap_made _ _ _ _), Lib.hid (by rw [once_zero]; exact World.ownsRow_nil _ _ _ _), Lib.hid ((Below.refl _ _).alloc (Nat.le_refl _) _), by simp⟩
  case round =>
    obtain ⟨j, hj, rfl, HM, HR, HB, hsz⟩ := hrel
    by_cases hlt : j < n
    · have hlt' : (j : Int) < n := by omega
      obtain ⟨b, off, rfl, hcell⟩ := (HL.out.later HB.out).cell (by omega)
      obtain ⟨c0, c1, c2⟩ := hcell j hlt
      have hok := Kok.getD HL.out.ok j
      have hs := HS.out j hlt
      have hf := (HF.out j (by omega)).1
      have hhas := has_keys (.agg [] : DataW Unit) (onceTo L j) (HOK.out j) (L.getD j (0, 0, 0)) hok
      have hkey := key_reads (L.getD j (0, 0, 0)) hok
      have HP := Lib.hid (had_put L j (L.getD j (0, 0, 0)))
      change has (hadTo L j) (keyLit (L.getD j (0, 0, 0))) = _ at hhas
      clear hcell hok
      generalize L.getD j (0, 0, 0) = x at *
      unfold keyVal at hkey
      by_cases hx : x ∈ onceTo L j
      · rw [if_pos hx] at hs
        rw [decide_eq_true hx] at hhas
        have HS1 := Lib.hid hs
        clear hs hx HP
        go_wp2_with (first
          | (at_lookup; refine wpList_lookup_own_unit _ rfl _ _ 28 rfl 30 31 keyLaw Tryd.underlying28 (zeroUnit _) W.heap.size j _ rfl (HM.out.alloc _) _ _ rfl hkey ?_; rw [hhas])
          | fail)
        go_roundw
        case rel => exact ⟨j + 1, by omega, by go_num, Lib.hid (by unfold hadTo; rw [HS1.out]; exact ((HM.out.alloc _).alloc _).mono (Nat.le_succ _)), Lib.hid (by rw [HS1.out]; exact (HR.out.alloc _).alloc _), Lib.hid ((HB.out.alloc HB.out.size _).alloc (by simp; have := HB.out.size; omega) _), by simp; omega⟩
        case measure => simp [intOf]; omega
      · rw [if_neg hx] at hs
        rw [decide_eq_false hx] at hhas
        have hput := HP.out hs
        have HS1 := Lib.hid hs
        have HPUT := Lib.hid hput
        clear hs hx HP hput
        have hrow0 := HR.out
        have hne := row_ne hrow0 (Nat.lt_succ_self W.heap.size)
        go_wp2_with (first
          | (at_lookup; refine wpList_lookup_own_unit _ rfl _ _ 28 rfl 30 31 keyLaw Tryd.underlying28 (zeroUnit _) W.heap.size j _ rfl (HM.out.alloc _) _ _ rfl hkey ?_; rw [hhas])
          | (at_mapUpdate; refine wpList_mapUpdate_own _ rfl _ _ _ 28 rfl 30 31 keyLaw Tryd.underlying28 (unitElem (H := Unit)) W.heap.size j _ rfl ((HM.out.alloc _).alloc _) (by unfold maxLen; omega) _ _ _ rfl rfl hkey _ [] unitElem_mk ?_; intro w1 hown1 hgrow1
             have x0 : w1.cell? ⟨wr.heap.size, 0, none⟩ = some (.int .u8 x.1) := hgrow1.cell (by simp) (by simp; omega)
             have x1 : w1.cell? ⟨wr.heap.size, 1, none⟩ = some (.int .u8 x.2.1) := hgrow1.cell (by simp) (by simp; omega)
             have x2 : w1.cell? ⟨wr.heap.size, 2, none⟩ = some (.int .u8 x.2.2) := hgrow1.cell (by simp) (by simp; omega)
             have hr1 := ((hrow0.alloc (.cells #[.int .u8 x.1, .int .u8 x.2.1, .int .u8 x.2.2] 30)).alloc (.cells #[] 31)).kept hgrow1 (Or.inr hne.symm)
             have s1 := hgrow1.size
             simp at s1)
          | (at_builtin; refine wpList_append_key rfl _ _ rfl (W.heap.size + 1) _ _ (onceTo L j) rfl (hr1.alloc _) (by omega) x w1.heap.size rfl (by simp) (by simp) (by simp) (by simp; omega) ?_; intro v' w2 hown2 hgrow2)
          | fail)
        have s2 := hgrow2.size
        simp at s2
        go_roundw
        case rel =>
          refine ⟨j + 1, by omega, by go_num, Lib.hid ?_, Lib.hid ?_, Lib.hid ?_, by omega⟩
          · rw [HPUT.out]
            exact (hown1.alloc _).kept hgrow2 hne
          · rw [HS1.out]
            simpa using hown2
          · exact ((((HB.out.alloc HB.out.size _).alloc (by simp; have := HB.out.size; omega) _).grown hgrow1 (by simp; omega) (fun k hk => by cases hk; exact Nat.le_refl _)).alloc (by omega) _).grown hgrow2 (by simp; omega) (fun k hk => by have := (hr1.lt k hk).1; omega)
        case measure => simp [intOf]; omega
    · obtain rfl : j = n := by omega
      obtain ⟨f1, f2, f3⟩ := HF.out j (Nat.le_refl _)
      have hset : sortL (onceTo L j) = setL L := sortL_setL _ f2 _ fun x => by rw [f3, List.take_of_length_le (by rw [HLen.out]; exact Nat.le_refl _)]
      have HSET := Lib.hid hset
      have HOKn := Lib.hid (HOK.out j)
      clear hset f2 f3 HF HS
      rcases HR.out.2 with ⟨rfl, h0⟩ | ⟨g, cap, cur, rfl, hg, _⟩
      · have hnil : setL L = [] := by rw [← HSET.out, List.eq_nil_of_length_eq_zero h0]; simp [sortL]
        have HNIL := Lib.hid hnil
        have hs := fun W => sort_none none 0 (.func (.func 9) #[] #[]) W
        clear hnil HSET HOKn HR h0 f1
        go_wp2_with fail
        refine (hs _).mono ?_
        rintro e w' ⟨rfl, rfl⟩
        go_wp2_with fail
        go_ret
        exact ⟨none, 0, by rw [HNIL.out]; rfl, by rw [HNIL.out]; exact KL.empty _, HB.out⟩
      · have hs := sort_some HR.out (by omega) HOKn.out
        have hl := sortL_len (onceTo L j)
        rw [HSET.out] at hs hl
        have hgg : W.heap.size ≤ g := by omega
        have HGG := Lib.hid hgg
        clear HSET HOKn HR hgg hg
        generalize (onceTo L j).length = m at *
        have HLN := Lib.hid hl
        have HS1 := Lib.hid hs
        clear hl hs
        go_wp2_with fail
        refine HS1.out.mono ?_
        rintro e w' ⟨rfl, hgr, hk⟩
        have HB2 := Lib.hid (HB.out.grown hgr HB.out.size (fun k hk => by cases hk; exact HGG.out))
        have HK := Lib.hid hk
        clear hgr hk HS1
        go_wp2_with fail
        go_ret
        exact ⟨_, _, by rw [HLN.out]; rfl, by rw [HLN.out]; exact HK.out, HB2.out⟩
end Go.Proofs.YtlmfmccbefgjgaaDoor
