/- Decl: what a configuration says of a key, as the document has it. -/
import Derived.Test.YthkeefdapnkgeaaConfDecls
import Derived.Test.YthkeefdapnkgeaaKeyRefs
import Derived.Test.YthkeefdapnkgeaaKeyEq
import Derived.Laws.ResultCell
import Derived.Deep.QuietTactic
import Derived.BigQuiet
namespace Go.Proofs.Ythkeefdapnkgeaa
open Go.RowKit Go.ChangeShapes Go.WideShapes
set_option linter.unusedVariables false
set_option linter.unusedSimpArgs false

set_option maxHeartbeats 1000000 in
theorem refdecl_any (c : Array Value) (p : Option Addr) (n cap : Nat) (h2 : c[2]? = some (.slice p n cap)) (M : List D) (k : K) (W : World) (hM : DL W p n cap M) (hn : n ≤ 100000) :
    Calls Try.prog 15 #[.agg c, .agg #[.int .u8 k.1, .int .u8 k.2.1, .int .u8 k.2.2]] W fun e w' => e = .returned (.tuple #[.agg (dca ((fd M k).getD d0)), .bool (fd M k).isSome]) ∧ Below W.heap.size W w' := by
  have hb1 : Below W.heap.size W (((W.alloc (.cells c 30)).alloc (.cells #[.int .u8 k.1, .int .u8 k.2.1, .int .u8 k.2.2] 37)).alloc (.cells (dca d0) 39)) :=
    (((Below.refl W.heap.size W).alloc (Nat.le_refl _) _).alloc (by simp) _).alloc (by simp; omega) _
  have hx0 : (((W.alloc (.cells c 30)).alloc (.cells #[.int .u8 k.1, .int .u8 k.2.1, .int .u8 k.2.2] 37)).alloc (.cells (dca d0) 39)).heap[W.heap.size]? = some (.cells c 30 (0, 0)) :=
    block_later (block_later (alloc_block W _) ((Below.refl _ _).alloc (Nat.le_refl _) _)) ((Below.refl _ _).alloc (Nat.le_refl _) _)
  have hx1 : (((W.alloc (.cells c 30)).alloc (.cells #[.int .u8 k.1, .int .u8 k.2.1, .int .u8 k.2.2] 37)).alloc (.cells (dca d0) 39)).heap[W.heap.size + 1]? = some (.cells #[.int .u8 k.1, .int .u8 k.2.1, .int .u8 k.2.2] 37 (0, 0)) := by
    have h := block_later (alloc_block (W.alloc (.cells c 30)) (.cells #[.int .u8 k.1, .int .u8 k.2.1, .int .u8 k.2.2] 37)) ((Below.refl _ _).alloc (Nat.le_refl _) (.cells (dca d0) 39))
    simpa using h
  have hx2 : (((W.alloc (.cells c 30)).alloc (.cells #[.int .u8 k.1, .int .u8 k.2.1, .int .u8 k.2.2] 37)).alloc (.cells (dca d0) 39)).heap[W.heap.size + 1 + 1]? = some (.cells (dca d0) 39 (0, 0)) := by
    have h := alloc_block ((W.alloc (.cells c 30)).alloc (.cells #[.int .u8 k.1, .int .u8 k.2.1, .int .u8 k.2.2] 37)) (.cells (dca d0) 39)
    simpa using h
  have HM := Lib.hid (hM.turn hb1.size fun _ a _ hlt => hb1.block a.block hlt)
  have HLEN := Lib.hid hM.len
  have HC := Lib.hid h2
  have hdz : dca d0 = #[.int .u8 0, .int .u8 0, .int .u8 0, .int .i64 0, .int .i64 0, .int .i64 0] := rfl
  rw [hdz] at hb1 hx0 hx1 hx2 HM
  have HB1 := Lib.hid hb1
  have HX0 := Lib.hid hx0
  have HX1 := Lib.hid hx1
  have HX2 := Lib.hid hx2
  clear hb1 hx0 hx1 hx2 hdz hM h2
  go_enter Try.func15, Try.ntmps15
  go_upto_region 1 with (fail)
  generalize ((W.alloc (.cells c 30)).alloc (.cells #[.int .u8 k.1, .int .u8 k.2.1, .int .u8 k.2.2] 37)).alloc (.cells #[.int .u8 0, .int .u8 0, .int .u8 0, .int .i64 0, .int .i64 0, .int .i64 0] 39) = W1 at *
  generalize hX : W.heap.size = X at *
  have HX := Lib.hid hX
  clear hX
  go_wp2_with fail
  go_loopw [6] (fun i wr => ∃ j : Nat, j ≤ n ∧ i = .int .i64 j ∧ Hid (Below W1.heap.size W1 wr) ∧ Hid (∀ i, i < j → (M.getD i d0).1 ≠ k)) (fun i _ => n - (intOf i).toNat)
  case atStart => exact ⟨0, Nat.zero_le _, rfl, Lib.hid (Below.refl _ _), Lib.hid fun i hi => by omega⟩
  case round =>
    obtain ⟨j, hj, rfl, HB, HE⟩ := hrel
    have z2 := block_cell (j := 2) (block_later HX0.out HB.out) HC.out
    have HBX := Lib.hid (HB1.out.trans (HB.out.mono (by have := HB1.out.size; rw [HX.out] at this; exact this)))
    by_cases hlt : j < n
    · have hlt' : (j : Int) < n := by omega
      obtain ⟨b, off, rfl, hbl, c0, c1, c2, c3, c4, c5⟩ := decl_cells (HM.out.turn HB.out.size fun _ a _ hlt => HB.out.block a.block hlt) hlt
      have x0 := block_cell (j := 0) (block_later HX1.out HB.out) (v := .int .u8 k.1) rfl
      have x1 := block_cell (j := 1) (block_later HX1.out HB.out) (v := .int .u8 k.2.1) rfl
      have x2 := block_cell (j := 2) (block_later HX1.out HB.out) (v := .int .u8 k.2.2) rfl
      have hxl := block_lt (block_later HX1.out HB.out)
      have HF0 := Lib.hid fun hx => fd_found k M j (by rw [HLEN.out]; exact hlt) HE.out hx
      have HF1 : Hid ((M.getD j d0).1 ≠ k → ∀ i, i < j + 1 → (M.getD i d0).1 ≠ k) := Lib.hid fun hx i hi => by
        by_cases hij : i = j
        · rw [hij]; exact hx
        · exact HE.out i (by omega)
      generalize M.getD j d0 = d at *
      have qn := fun W => key_eql d.1.1 d.1.2.1 d.1.2.2 k.1 k.2.1 k.2.2 W
      have hd : decide (((d.1.1, d.1.2.1, d.1.2.2) : K) = (k.1, k.2.1, k.2.2)) = decide (d.1 = k) := rfl
      rw [hd] at qn
      clear hd
      by_cases hdk : d.1 = k
      · rw [decide_eq_true hdk] at qn
        have HF := Lib.hid (HF0.out hdk)
        have HN2 : Hid (∀ q, (wr.drewN q).heap[X + 1 + 1]? = some (.cells (dca d0) 39 (0, 0))) := Lib.hid fun q => block_later HX2.out (below_drewN HB.out q)
        have HNB : Hid (∀ q, Below X W (wr.drewN q)) := Lib.hid fun q => below_drewN HBX.out q
        clear HF0 HF1 hdk
        go_wp2_with fail
        go_quiet (fail)
        have HE2 := Lib.hid (setRow_heap (wr.drewN nq) (X + 1 + 1) _ (dca d) _ _ (HN2.out nq))
        have HB3 := Lib.hid (below_setRow (HNB.out nq) (show X ≤ X + 1 + 1 by omega) (dca d))
        go_wp2_with ((with_reducible refine wpList_store_decl (d := d) (d' := d0) (HN2.out nq) ?_ ?_ ?_); rfl; rfl)
        (try simp only [Exit.inBlock, Exit.then]); refine bodyPost_ret (v := .tuple #[.agg (dca d), .bool true]) ?_ rfl ?_
        · exact results_decl rfl _ _ (X + 1 + 1) d _ rfl rfl HE2.out
        exact ⟨by rw [HF.out]; rfl, by rw [HX.out]; exact HB3.out⟩
      · rw [decide_eq_false hdk] at qn
        have HF := Lib.hid (HF1.out hdk)
        have HNB : Hid (∀ q, Below W1.heap.size W1 (wr.drewN q)) := Lib.hid fun q => below_drewN HB.out q
        clear HF0 HF1 hdk
        go_wp2_with fail
        go_quiet (fail)
        go_wp2_with fail
        go_roundw
        case rel => exact ⟨j + 1, by omega, by go_num, HNB.out _, HF⟩
        case measure => simp [intOf]; omega
    · obtain rfl : n = j := by omega
      have HF := Lib.hid (fd_none k M (fun i hi => HE.out i (by rw [HLEN.out] at hi; exact hi)))
      have HN2 := Lib.hid (block_later HX2.out HB.out)
      have HE2 := Lib.hid (setRow_heap wr (X + 1 + 1) _ (dca d0) _ _ HN2.out)
      have HB3 := Lib.hid (below_setRow HBX.out (show X ≤ X + 1 + 1 by omega) (dca d0))
      go_wp2_with ((with_reducible refine wpList_store_decl (d := d0) (d' := d0) HN2.out ?_ ?_ ?_); rfl; rfl)
      (try simp only [Exit.inBlock, Exit.then]); refine bodyPost_ret (v := .tuple #[.agg (dca d0), .bool false]) ?_ rfl ?_
      · exact results_decl rfl _ _ (X + 1 + 1) d0 _ rfl rfl HE2.out
      exact ⟨by rw [HF.out]; rfl, by rw [HX.out]; exact HB3.out⟩
end Go.Proofs.Ythkeefdapnkgeaa
