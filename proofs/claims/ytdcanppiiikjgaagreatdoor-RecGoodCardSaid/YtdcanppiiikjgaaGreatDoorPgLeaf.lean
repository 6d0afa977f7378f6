/- The program's small functions: a step of one line, numbers of an article, sums, lines, and takes held against an order. -/
import Derived.Test.YtdcanppiiikjgaaGreatDoorPgAt
import Derived.Test.YtdcanppiiikjgaaGreatDoorGrProga
import Derived.Test.YtdcanppiiikjgaaGreatDoorGrProgb
import Derived.Test.YtdcanppiiikjgaaGreatDoorGrStepb
namespace Go.Proofs.YtdcanppiiikjgaaGreatDoor
open Go.RowKit Go.ChangeShapes Go.WideShapes
set_option linter.unusedVariables false
set_option maxRecDepth 10000

theorem appendof_any (W wr : World) (v : Value) (L : List Int) (N : Nat) (s o q : Int) (h : FillI W wr v L N) (ho : 0 ≤ o ∧ o ≤ 255) (hN : N ≤ 1000) :
    Calls Tryz.prog 111 #[v, .int .i64 s, .int .u8 o, .int .i64 q] wr fun e w' => ∃ v', e = .returned v' ∧ FillI W w' v' (L ++ (if o = s then [q] else [])) (N + 1) := by
  obtain ⟨h0, h1⟩ := ho
  have HF := Lib.hid h
  have hmost := h.most
  have hsz := h.below.size
  clear h
  by_cases hs : o = s
  · subst hs
    have hd : (o != o) = false := by simp
    rw [if_pos rfl]
    go_enter Tryz.func111, Tryz.ntmps111
    go_wp2_with (at_builtin; refine wpList_append_i rfl _ _ rfl W.heap.size v L.length L rfl (HF.out.own.alloc _) (by omega) q wr.heap.size rfl (int_news wr q) (by simp; omega) ?_; intro v2 w2 h1 h2)
    have HF2 := Lib.hid (HF.out.step _ h1 h2)
    clear h1 h2
    go_ret
    exact ⟨_, rfl, HF2.out⟩
  · have hd : (o != s) = true := by simpa using hs
    rw [if_neg hs, List.append_nil]
    go_enter Tryz.func111, Tryz.ntmps111
    go_wp2_with fail
    go_ret
    exact ⟨_, rfl, HF.out.mono (by omega)⟩
set_option maxHeartbeats 1000000 in
theorem together_any (tp : Option Addr) (tn tcp : Nat) (T : List Tk) (W : World) (hT : TKL W tp tn tcp T) (hTok : ∀ x ∈ T, Tkok x) (htn : tn ≤ 1000) :
    Calls Tryz.prog 105 #[.slice tp tn tcp] W fun e w' => e = .returned (.tuple #[.int .i64 (val (total (allT T))), .bool (okB (total (allT T)))]) ∧ Below W.heap.size W w' := by
  have HT := Lib.hid hT
  have HST := Lib.hid fun j (hj : j < tn) => allT_take T j (by rw [hT.len]; exact hj)
  have HET : Hid (allT (T.take tn) = allT T) := Lib.hid (by rw [← hT.len, List.take_length])
  have HIN : Hid (∀ z ∈ allT T, In64 z) := Lib.hid fun z hz => by
    obtain ⟨x, hx, rfl⟩ := List.mem_map.1 hz
    exact (hTok x hx).2.2.2
  have hc1 := hT.cap
  clear hT hTok
  go_enter Tryz.func105, Tryz.ntmps105
  go_wp2_with fail
  go_loopw [4, 9] (fun v i wr => ∃ j : Nat, j ≤ tn ∧ i = .int .i64 j ∧ Hid (FillI W wr v (allT (T.take j)) j)) (fun _ i _ => tn - (Go.RowKit.intOf i).toNat)
  case atStart => exact ⟨0, Nat.zero_le _, rfl, Lib.hid (by simpa [allT] using FillG.nil W)⟩
  case round =>
    obtain ⟨j, hj, rfl, HF⟩ := hrel
    by_cases hlt : j < tn
    · have hlt' : (j : Int) < tn := by omega
      obtain ⟨b, off, rfl, _, k0, k1, k2, k3⟩ := take_cells (HT.out.later HF.out.below) hlt
      have hst := HST.out j hlt
      generalize T.getD j tk0 = x at *
      obtain ⟨o, a, w, q⟩ := x
      dsimp only at k0 k1 k2 k3 hst
      have HS := Lib.hid hst
      have HFA := Lib.hid (HF.out.later ((Below.refl wr.heap.size wr).alloc (Nat.le_refl _) (.cells #[.int .u32 o, .int .u8 a, .int .u8 w, .int .i64 q] 87)))
      have hsz := HF.out.below.size
      have hmost := HF.out.most
      clear hst
      go_wp2_with (at_builtin; refine wpList_append_i rfl _ _ rfl W.heap.size _ (allT (T.take j)).length (allT (T.take j)) rfl (HFA.out.own.alloc _) (by omega) q (wr.heap.size + 1) rfl (by have := int_news (wr.alloc (.cells #[.int .u32 o, .int .u8 a, .int .u8 w, .int .i64 q] 87)) q; rwa [World.size_alloc] at this) (by simp; omega) ?_; intro v2 w2 h1 h2)
      have HF2 := Lib.hid (HFA.out.step _ h1 h2)
      clear h1 h2 hsz hmost
      go_wp2_with fail
      go_roundw
      case rel => exact ⟨j + 1, by omega, by go_num, Lib.hid (by rw [HS.out]; exact HF2.out)⟩
      case measure => simp [Go.RowKit.intOf]; omega
    · obtain rfl : j = tn := by omega
      have hF := HF.out
      rw [HET.out] at hF
      obtain ⟨pv, cv, hv, hs⟩ := filli_slice hF
      have hm := hF.most
      have hsum := sum_of pv _ cv _ _ (IL.row hs HIN.out) (by omega)
      have HB := Lib.hid hF.below
      clear hF HF hs hm
      generalize (allT T).length = nn at *
      subst hv
      go_wp2_with fail
      refine hsum.mono ?_
      rintro e w4 ⟨rfl, rfl⟩
      clear hsum
      go_wp2_with fail
      go_ret2
      exact ⟨rfl, HB.out⟩
theorem good_owe {s : Int} {L : List Ln} (h1 : 1 ≤ s) (h4 : s ≤ 4) (hL : 1 ≤ L.length) : goodS s 1 7 0 L = linesB s L := by
  unfold goodS sizedB
  rw [decide_eq_true h1, decide_eq_true h4, decide_eq_true hL]
  simp
theorem goodlines_any (s : Int) (p : Option Addr) (n c : Nat) (L : List Ln) (W : World) (hw : Words W) (hL : LL W p n c L) (hok : ∀ x ∈ L, Lnok x) (h1 : 1 ≤ s) (h4 : s ≤ 4) (hn : n ≤ 1000) :
    Calls Tryz.prog 100 #[.int .i64 s, .slice p n c] W fun e w' => e = .returned (.bool (linesB s L)) ∧ Below W.heap.size W w' := by
  have hlen := hL.len
  have HLN := Lib.hid hlen
  have hcap := hL.cap
  have hg := fun (_ : 1 ≤ n) => good_s s 1 7 0 p n c L W hw hL hok (by omega) (by omega) hn
  clear hL hok hw
  by_cases h0 : n = 0
  · subst h0
    obtain rfl : L = [] := List.eq_nil_of_length_eq_zero hlen
    have hd : ((0 : Int) == 0) = true := rfl
    clear hg hlen
    go_enter Tryz.func100, Tryz.ntmps100
    go_wp2_with fail
    go_ret
    exact ⟨rfl, Below.refl _ _⟩
  · have hg := hg (by omega)
    rw [good_owe h1 h4 (by omega)] at hg
    have hd : ((n : Int) == 0) = false := by simp; omega
    generalize linesB s L = r at *
    clear hlen h0
    go_enter Tryz.func100, Tryz.ntmps100
    go_wp2_with fail
    refine hg.mono ?_
    rintro e w' ⟨rfl, hb⟩
    have HB := Lib.hid hb
    clear hg hb
    go_wp2_with fail
    go_ret
    exact ⟨rfl, HB.out⟩
theorem isother_any (B : Nat) (o x a w z : Int) (W : World) (hc : W.cell? ⟨B, 1, none⟩ = some (.int .u32 o)) :
    Calls Tryz.prog 109 #[.agg #[.int .u32 x, .int .u8 a, .int .u8 w, .int .i64 z], .pointer (some ⟨B, 0, none⟩)] W fun e w' => e = .returned (.bool (x != o)) ∧ Below W.heap.size W w' := by
  have hlt := World.block_lt_of_cell? _ _ hc
  have hb1 : Below W.heap.size W (W.alloc (.cells #[.int .u32 x, .int .u8 a, .int .u8 w, .int .i64 z] 87)) := (Below.refl _ _).alloc (Nat.le_refl _) _
  have hc1 := (hb1.cell (p := ⟨B, 1, none⟩) hlt).trans hc
  have HB1 := Lib.hid hb1
  clear hb1 hc hlt
  go_enter Tryz.func109, Tryz.ntmps109
  go_wp2_with fail
  go_ret
  exact ⟨rfl, HB1.out⟩
def otherB (o : Int) (T : List Tk) : Bool := T.any fun x => x.1 != o
theorem other_hit {o : Int} {T : List Tk} {j : Nat} (hj : j < T.length) (h : ((T.getD j tk0).1 != o) = true) : otherB o T = true := by
  unfold otherB
  rw [List.any_eq_true]
  refine ⟨_, List.getElem_mem hj, ?_⟩
  simpa [List.getD, List.getElem?_eq_getElem hj] using h
theorem other_miss {o : Int} {T : List Tk} (h : ∀ j, j < T.length → ((T.getD j tk0).1 != o) = false) : otherB o T = false := by
  unfold otherB
  rw [List.any_eq_false]
  intro x hx
  obtain ⟨j, hj, rfl⟩ := mem_getD tk0 hx
  rw [h j hj]
  simp
set_option maxHeartbeats 1000000 in
theorem index_other (B : Nat) (o : Int) (p : Option Addr) (n c : Nat) (T : List Tk) (W : World) (hT : TKL W p n c T) (hc : W.cell? ⟨B, 1, none⟩ = some (.int .u32 o)) (hn : n ≤ 1000) :
    Calls Tryz.prog 113 #[.slice p n c, .func (.func 109) #[] #[.pointer (some ⟨B, 0, none⟩)]] W fun e w' => (∃ z : Int, e = .returned (.int .i64 z) ∧ decide (0 ≤ z) = otherB o T) ∧ Below W.heap.size W w' := by
  have HT := Lib.hid hT
  have HC := Lib.hid fun w (h : Below W.heap.size W w) => (h.cell (p := ⟨B, 1, none⟩) (World.block_lt_of_cell? _ _ hc)).trans hc
  have HIT := Lib.hid fun j (hj : j < n) => other_hit (o := o) (show j < T.length by rw [hT.len]; exact hj)
  have HMI : Hid ((∀ j, j < n → ((T.getD j tk0).1 != o) = false) → otherB o T = false) := Lib.hid fun h => other_miss fun j hj => h j (by rw [← hT.len]; exact hj)
  have hcap := hT.cap
  clear hT hc
  go_enter Tryz.func113, Tryz.ntmps113
  go_wp2_with fail
  go_loopw [8] (fun i wr => ∃ j : Nat, j ≤ n ∧ i = .int .i64 j ∧ Hid (Below W.heap.size W wr) ∧ Hid (∀ i, i < j → ((T.getD i tk0).1 != o) = false)) (fun i _ => n - (Go.RowKit.intOf i).toNat)
  case atStart => exact ⟨0, Nat.zero_le _, rfl, Lib.hid (Below.refl _ _), Lib.hid fun i hi => by omega⟩
  case round =>
    obtain ⟨j, hj, rfl, HB, HE⟩ := hrel
    by_cases hlt : j < n
    · have hlt' : (j : Int) < n := by omega
      obtain ⟨b, off, rfl, _, k0, k1, k2, k3⟩ := take_cells (HT.out.later HB.out) hlt
      have hit := HIT.out j hlt
      generalize hx : T.getD j tk0 = x at *
      obtain ⟨o1, a1, w1, z1⟩ := x
      dsimp only at k0 k1 k2 k3 hit
      have hcl := isother_any B o o1 a1 w1 z1 wr (HC.out wr HB.out)
      have HX := Lib.hid hx
      have HH := Lib.hid hit
      clear hit hx
      cases hq : (o1 != o) with
      | true =>
        rw [hq] at hcl
        have HA := Lib.hid (HH.out hq)
        go_wp2_with fail
        refine hcl.mono ?_
        rintro e w2 ⟨rfl, hb2⟩
        have HB2 := Lib.hid (HB.out.trans (hb2.mono HB.out.size))
        clear hcl hb2 k0 k1 k2 k3
        go_wp2_with fail
        go_ret
        exact ⟨⟨_, rfl, by rw [HA.out]; exact decide_eq_true (by omega)⟩, HB2.out⟩
      | false =>
        rw [hq] at hcl
        have HQ := Lib.hid hq
        go_wp2_with fail
        refine hcl.mono ?_
        rintro e w2 ⟨rfl, hb2⟩
        have HB2 := Lib.hid (HB.out.trans (hb2.mono HB.out.size))
        clear hcl hb2 k0 k1 k2 k3
        go_wp2_with fail
        go_roundw
        case rel =>
          refine ⟨j + 1, by omega, by go_num, HB2, Lib.hid fun i hi => ?_⟩
          by_cases e : i = j
          · subst e; rw [HX.out]; exact HQ.out
          · exact HE.out i (by omega)
        case measure => simp [Go.RowKit.intOf]; omega
    · obtain rfl : j = n := by omega
      have HA := Lib.hid (HMI.out HE.out)
      go_wp2_with fail
      go_ret
      exact ⟨⟨_, rfl, by rw [HA.out]; rfl⟩, HB.out⟩
theorem contains_other (B : Nat) (o : Int) (p : Option Addr) (n c : Nat) (T : List Tk) (W : World) (hT : TKL W p n c T) (hc : W.cell? ⟨B, 1, none⟩ = some (.int .u32 o)) (hn : n ≤ 1000) :
    Calls Tryz.prog 103 #[.slice p n c, .func (.func 109) #[] #[.pointer (some ⟨B, 0, none⟩)]] W fun e w' => e = .returned (.bool (otherB o T)) ∧ Below W.heap.size W w' := by
  have hi := index_other B o p n c T W hT hc hn
  generalize otherB o T = r at *
  clear hT hc
  go_enter Tryz.func103, Tryz.ntmps103
  go_wp2_with fail
  refine hi.mono ?_
  rintro e w2 ⟨⟨z, rfl, hz⟩, hb⟩
  have HB := Lib.hid hb
  clear hi hb
  cases r with
  | true =>
    go_wp2_with fail
    go_ret
    exact ⟨rfl, HB.out⟩
  | false =>
    go_wp2_with fail
    go_ret
    exact ⟨rfl, HB.out⟩

theorem isalike_any (B : Nat) (o x a w z : Int) (W : World) (hc : W.cell? ⟨B, 0, none⟩ = some (.int .u32 o)) :
    Calls Tryz.prog 104 #[.agg #[.int .u32 x, .int .u8 a, .int .u8 w, .int .i64 z], .pointer (some ⟨B, 0, none⟩)] W fun e w' => e = .returned (.bool (x == o)) ∧ Below W.heap.size W w' := by
  have hlt := World.block_lt_of_cell? _ _ hc
  have hb1 : Below W.heap.size W (W.alloc (.cells #[.int .u32 x, .int .u8 a, .int .u8 w, .int .i64 z] 87)) := (Below.refl _ _).alloc (Nat.le_refl _) _
  have hc1 := (hb1.cell (p := ⟨B, 0, none⟩) hlt).trans hc
  have HB1 := Lib.hid hb1
  clear hb1 hc hlt
  go_enter Tryz.func104, Tryz.ntmps104
  go_wp2_with fail
  go_ret
  exact ⟨rfl, HB1.out⟩
def alikeB (o : Int) (T : List Tk) : Bool := T.any fun x => x.1 == o
theorem alike_hit {o : Int} {T : List Tk} {j : Nat} (hj : j < T.length) (h : ((T.getD j tk0).1 == o) = true) : alikeB o T = true := by
  unfold alikeB
  rw [List.any_eq_true]
  refine ⟨_, List.getElem_mem hj, ?_⟩
  simpa [List.getD, List.getElem?_eq_getElem hj] using h
theorem alike_miss {o : Int} {T : List Tk} (h : ∀ j, j < T.length → ((T.getD j tk0).1 == o) = false) : alikeB o T = false := by
  unfold alikeB
  rw [List.any_eq_false]
  intro x hx
  obtain ⟨j, hj, rfl⟩ := mem_getD tk0 hx
  rw [h j hj]
  simp
set_option maxHeartbeats 1000000 in
theorem index_alike (B : Nat) (o : Int) (p : Option Addr) (n c : Nat) (T : List Tk) (W : World) (hT : TKL W p n c T) (hc : W.cell? ⟨B, 0, none⟩ = some (.int .u32 o)) (hn : n ≤ 1000) :
    Calls Tryz.prog 113 #[.slice p n c, .func (.func 104) #[] #[.pointer (some ⟨B, 0, none⟩)]] W fun e w' => (∃ z : Int, e = .returned (.int .i64 z) ∧ decide (0 ≤ z) = alikeB o T) ∧ Below W.heap.size W w' := by
  have HT := Lib.hid hT
  have HC := Lib.hid fun w (h : Below W.heap.size W w) => (h.cell (p := ⟨B, 0, none⟩) (World.block_lt_of_cell? _ _ hc)).trans hc
  have HIT := Lib.hid fun j (hj : j < n) => alike_hit (o := o) (show j < T.length by rw [hT.len]; exact hj)
  have HMI : Hid ((∀ j, j < n → ((T.getD j tk0).1 == o) = false) → alikeB o T = false) := Lib.hid fun h => alike_miss fun j hj => h j (by rw [← hT.len]; exact hj)
  have hcap := hT.cap
  clear hT hc
  go_enter Tryz.func113, Tryz.ntmps113
  go_wp2_with fail
  go_loopw [8] (fun i wr => ∃ j : Nat, j ≤ n ∧ i = .int .i64 j ∧ Hid (Below W.heap.size W wr) ∧ Hid (∀ i, i < j → ((T.getD i tk0).1 == o) = false)) (fun i _ => n - (Go.RowKit.intOf i).toNat)
  case atStart => exact ⟨0, Nat.zero_le _, rfl, Lib.hid (Below.refl _ _), Lib.hid fun i hi => by omega⟩
  case round =>
    obtain ⟨j, hj, rfl, HB, HE⟩ := hrel
    by_cases hlt : j < n
    · have hlt' : (j : Int) < n := by omega
      obtain ⟨b, off, rfl, _, k0, k1, k2, k3⟩ := take_cells (HT.out.later HB.out) hlt
      have hit := HIT.out j hlt
      generalize hx : T.getD j tk0 = x at *
      obtain ⟨o1, a1, w1, z1⟩ := x
      dsimp only at k0 k1 k2 k3 hit
      have hcl := isalike_any B o o1 a1 w1 z1 wr (HC.out wr HB.out)
      have HX := Lib.hid hx
      have HH := Lib.hid hit
      clear hit hx
      cases hq : (o1 == o) with
      | true =>
        rw [hq] at hcl
        have HA := Lib.hid (HH.out hq)
        go_wp2_with fail
        refine hcl.mono ?_
        rintro e w2 ⟨rfl, hb2⟩
        have HB2 := Lib.hid (HB.out.trans (hb2.mono HB.out.size))
        clear hcl hb2 k0 k1 k2 k3
        go_wp2_with fail
        go_ret
        exact ⟨⟨_, rfl, by rw [HA.out]; exact decide_eq_true (by omega)⟩, HB2.out⟩
      | false =>
        rw [hq] at hcl
        have HQ := Lib.hid hq
        go_wp2_with fail
        refine hcl.mono ?_
        rintro e w2 ⟨rfl, hb2⟩
        have HB2 := Lib.hid (HB.out.trans (hb2.mono HB.out.size))
        clear hcl hb2 k0 k1 k2 k3
        go_wp2_with fail
        go_roundw
        case rel =>
          refine ⟨j + 1, by omega, by go_num, HB2, Lib.hid fun i hi => ?_⟩
          by_cases e : i = j
          · subst e; rw [HX.out]; exact HQ.out
          · exact HE.out i (by omega)
        case measure => simp [Go.RowKit.intOf]; omega
    · obtain rfl : j = n := by omega
      have HA := Lib.hid (HMI.out HE.out)
      go_wp2_with fail
      go_ret
      exact ⟨⟨_, rfl, by rw [HA.out]; rfl⟩, HB.out⟩
theorem contains_alike (B : Nat) (o : Int) (p : Option Addr) (n c : Nat) (T : List Tk) (W : World) (hT : TKL W p n c T) (hc : W.cell? ⟨B, 0, none⟩ = some (.int .u32 o)) (hn : n ≤ 1000) :
    Calls Tryz.prog 103 #[.slice p n c, .func (.func 104) #[] #[.pointer (some ⟨B, 0, none⟩)]] W fun e w' => e = .returned (.bool (alikeB o T)) ∧ Below W.heap.size W w' := by
  have hi := index_alike B o p n c T W hT hc hn
  generalize alikeB o T = r at *
  clear hT hc
  go_enter Tryz.func103, Tryz.ntmps103
  go_wp2_with fail
  refine hi.mono ?_
  rintro e w2 ⟨⟨z, rfl, hz⟩, hb⟩
  have HB := Lib.hid hb
  clear hi hb
  cases r with
  | true =>
    go_wp2_with fail
    go_ret
    exact ⟨rfl, HB.out⟩
  | false =>
    go_wp2_with fail
    go_ret
    exact ⟨rfl, HB.out⟩
end Go.Proofs.YtdcanppiiikjgaaGreatDoor
