/- A step of one line; what takes name at a warehouse: the document's way. -/
import Derived.Test.YtanndpmlpoplnaaDoorGrProgb
import Derived.Test.YtanndpmlpoplnaaDoorGrBase
import Derived.Test.YtanndpmlpoplnaaDoorGrStepb
import Derived.Laws.CopyOwn
import Derived.Laws.Tables
import Derived.Laws.ResultCell
namespace Go.Proofs.YtanndpmlpoplnaaDoor
open Go.RowKit Go.ChangeShapes Go.WideShapes
set_option linter.unusedVariables false
set_option linter.unusedSimpArgs false
set_option maxRecDepth 10000

/-- What a call that hands back a step with lines of its own says. -/
def GivesT (W : World) (t w : Int) (L : List Ln) (e : Ending) (w' : World) : Prop := ∃ p c, e = .returned (.agg #[.int .u8 t, .int .u8 w, .slice p L.length c]) ∧ LL w' p L.length c L ∧ Below W.heap.size W w' ∧ ∀ ad, p = some ad → W.heap.size ≤ ad.block
theorem info_line : (Tryd.prog.info? 72).map (fun i => (i.zero, i.size, i.bytes)) = some (some (.agg #[.int .u8 0, .int .i64 0]), 2, 16) := by kernel_rfl
theorem line_news (w : World) (x : Ln) : ∀ ad, (some (⟨w.heap.size, 0, none⟩ : Addr)) = some ad → ∀ j u, (flatG lc [x])[j]? = some u → (w.alloc (.cells #[.int .u8 x.1, .int .i64 x.2] 72)).cell? (ad.add j) = some u := by
  intro ad he j u hu
  cases he
  rw [Go.WideShapes.add_plain, Nat.zero_add]
  refine block_cell (alloc_block w _) ?_
  rw [flatG_one] at hu
  simpa [lc] using hu
theorem line_lit (w : World) (x : Ln) : LL (w.alloc (.cells #[.int .u8 x.1, .int .i64 x.2] 72)) (some ⟨w.heap.size, 0, none⟩) 1 1 [x] := by
  have hr := alloc_block w (.cells #[.int .u8 x.1, .int .i64 x.2] 72)
  refine ⟨rfl, Nat.le_refl _, by unfold maxLen; omega, (fun h => by cases h), fun _ => ⟨_, 0, rfl, block_lt hr, fun j hj i v hv => ?_⟩⟩
  refine block_cell hr ?_
  have hi : i < 2 := (List.getElem?_eq_some_iff.1 hv).1
  obtain rfl : j = 0 := by omega
  rcases (by omega : i = 0 ∨ i = 1) with rfl | rfl <;> exact hv
theorem rone_st (t w s q : Int) (W : World) :
    Calls Tryd.prog 43 #[.int .u8 t, .int .u8 w, .int .u8 s, .int .i64 q] W (GivesT W t w [(s, q)]) := by
  have hb1 : Below W.heap.size W (W.alloc (.cells #[.int .u8 t, .int .u8 w, .slice (some ⟨W.heap.size + 1, 0, none⟩) 1 1] 36)) := (Below.refl _ _).alloc (Nat.le_refl _) _
  have hl := line_lit (W.alloc (.cells #[.int .u8 t, .int .u8 w, .slice (some ⟨W.heap.size + 1, 0, none⟩) 1 1] 36)) (s, q)
  have hx := alloc_block W (.cells #[.int .u8 t, .int .u8 w, .slice (some ⟨W.heap.size + 1, 0, none⟩) 1 1] 36)
  have hx2 := (Below.heap_alloc (W.alloc (.cells #[.int .u8 t, .int .u8 w, .slice (some ⟨W.heap.size + 1, 0, none⟩) 1 1] 36)) (.cells #[.int .u8 s, .int .i64 q] 72) _ (block_lt hx)).trans hx
  rw [World.size_alloc] at hl
  have HL := Lib.hid hl
  have HX := Lib.hid hx2
  have HB := Lib.hid (hb1.alloc (by simp) (.cells #[.int .u8 s, .int .i64 q] 72))
  clear hl hx hx2 hb1
  go_enter Tryd.func43, Tryd.ntmps43
  go_wp2_with fail
  refine bodyPost_ret (v := .agg #[.int .u8 t, .int .u8 w, .slice (some ⟨W.heap.size + 1, 0, none⟩) 1 1]) ?_ rfl ⟨_, 1, rfl, HL.out, HB.out, fun ad ha => by cases ha; exact Nat.le_succ _⟩
  exact results_cell_row rfl _ _ W.heap.size 36 _ (0, 0) _ rfl HX.out Tryd.underlying36 rfl (by kernel_rfl)
/-- A step that is being made: its cells in block X, its lines in a row of their own. -/
structure Mk (W w : World) (X : Nat) (t r : Int) (v : Value) (L : List Ln) : Prop where
  box : w.heap[X]? = some (.cells #[.int .u8 t, .int .u8 r, v] 36 (0, 0))
  own : w.ownsRow (X + 1) 72 2 v L.length (flatG lc L)
  below : Below W.heap.size W w
  elder : W.heap.size ≤ X
theorem Mk.later {W w w' : World} {X : Nat} {t r : Int} {v : Value} {L : List Ln} (h : Mk W w X t r v L) (hb : Below w.heap.size w w') : Mk W w' X t r v L := by
  refine ⟨block_later h.box hb, ⟨h.own.1, ?_⟩, h.below.trans (hb.mono h.below.size), h.elder⟩
  rcases h.own.2 with hn | ⟨g, cap, cur, rfl, h1, h2, h3⟩
  · exact .inl hn
  · exact .inr ⟨g, cap, cur, rfl, h1, (hb.block g (Array.getElem?_eq_some_iff.1 h2).1).trans h2, h3⟩
/-- The row has grown; the box still holds the elder value. -/
structure Mk2 (W w : World) (X : Nat) (t r : Int) (v v' : Value) (L : List Ln) : Prop where
  box : w.heap[X]? = some (.cells #[.int .u8 t, .int .u8 r, v] 36 (0, 0))
  own : w.ownsRow (X + 1) 72 2 v' L.length (flatG lc L)
  below : Below W.heap.size W w
  elder : W.heap.size ≤ X
theorem Mk.app {W w w' : World} {X : Nat} {t r : Int} {v : Value} {L M : List Ln} {p : Option Addr} {n c : Nat} (h : Mk W w X t r v L) (h1 : w'.ownsRow 0 72 2 (.slice p n c) n (flatG lc L ++ flatG lc M)) (h2 : Chg (fun b => v.ownBlock = some b) w w') (h3 : ∀ b, (Value.slice p n c).ownBlock = some b → v.ownBlock = some b ∨ w.heap.size ≤ b) : Mk2 W w' X t r v (.slice p n c) (L ++ M) := by
  have hX := block_lt h.box
  have hlen : (L ++ M).length = n := by
    have := h1.1
    rw [← flatG_append, flatG_len lc_len] at this
    omega
  refine ⟨(h2.block X hX fun hv => by have := (h.own.lt X hv).1; omega).trans h.box, ?_, Chg.below h.below h.below.size h2 fun k hk => by have := (h.own.lt k hk).1; have := h.elder; omega, h.elder⟩
  rw [hlen]
  rw [← flatG_append] at h1
  refine ⟨h1.1, ?_⟩
  rcases h1.2 with hn | ⟨g, cap, cur, he, g1, g2, g3⟩
  · exact .inl hn
  · refine .inr ⟨g, cap, cur, he, ?_, g2, g3⟩
    rcases h3 g (by rw [he]; rfl) with hk | hk
    · exact (h.own.lt g hk).1
    · omega
theorem frozen_of {w : World} {X : Nat} {c : Array Value} {t : TypeId} (h : w.heap[X]? = some (.cells c t (0, 0))) (j : Nat) : w.frozen? ⟨X, j, none⟩ = false := by
  simp [World.frozen?, h]
theorem Mk2.put {W w : World} {X : Nat} {t r : Int} {v v' : Value} {L : List Ln} (h : Mk2 W w X t r v v' L) : Mk W (w.setCell ⟨X, 2, none⟩ v') X t r v' L := by
  refine ⟨by have := block_put 2 v' h.box; simpa using this, ⟨h.own.1, ?_⟩, h.below.setCell (p := ⟨X, 2, none⟩) h.elder _, h.elder⟩
  rcases h.own.2 with hn | ⟨g, cap, cur, rfl, h1, h2, h3⟩
  · exact .inl hn
  · exact .inr ⟨g, cap, cur, rfl, h1, (Below.heap_setCell _ _ _ _ (by show g ≠ X; omega)).trans h2, h3⟩
theorem wpList_store_stc {ops : Array Oper} {rest : List Oper} {a : Act} {w : World} {Q : Exit → Act → World → Prop} {dst : Option Tmp} {x y : Operand} {ty : TypeId} {pos : String} {after : Array Edge} {B : Nat} {t r : Int} {s : Value} (hB : w.heap[B]? = some (.cells #[.int .u8 0, .int .u8 0, .slice none 0 0] 36 (0, 0)))
    (hx : a.eval x = .pointer (some ⟨B, 0, none⟩)) (hy : a.eval y = .agg #[.int .u8 t, .int .u8 r, s]) (hs : (s.oneCell') = true)
    (h : wpList Tryd.prog ops Q rest (a.put dst undef) (w.setRow B #[.int .u8 t, .int .u8 r, s])) : wpList Tryd.prog ops Q (Oper.mk dst (.store 36 x y) ty pos after none :: rest) a w :=
  wpList_store_row rfl 36 x y rfl B #[.int .u8 t, .int .u8 r, s] hx hy 36 #[.int .u8 0, .int .u8 0, .slice none 0 0] hB (by kernel_rfl) rfl (by simp [Value.oneCell'] at hs ⊢; exact hs) h
set_option maxHeartbeats 4000000 in
theorem rat_st (t r : Int) (tp : Option Addr) (tn tcp : Nat) (T : List Tk) (W : World) (hT : TKL W tp tn tcp T) (hTok : ∀ x ∈ T, Tkok x) (hn : tn ≤ 1000) (hr : 0 ≤ r ∧ r ≤ 255) :
    Calls Tryd.prog 45 #[.int .u8 t, .int .i64 r, .slice tp tn tcp] W (GivesT W t r (atP r T)) := by
  have HT := Lib.hid hT
  have HST := Lib.hid fun j (hj : j < tn) => atP_take r T j (by rw [hT.len]; exact hj)
  have HET : Hid (atP r (T.take tn) = atP r T) := Lib.hid (by rw [← hT.len, List.take_length])
  have HOK := Lib.hid fun j (hj : j < tn) => tkok_at hTok (show j < T.length by rw [hT.len]; exact hj)
  have HLJ := Lib.hid fun j => show (atP r (T.take j)).length ≤ j from by unfold atP; rw [List.length_map]; exact Nat.le_trans (List.length_filter_le _ _) (by rw [List.length_take]; omega)
  have hcap := hT.cap
  have hwr : IntKind.u8.wrap r = r := IntWalk.u8_in _ (by omega)
  clear hT hTok
  obtain ⟨Wa, hWa, hsa, hres, hba⟩ : ∃ Wa, W.alloc (.cells #[.int .u8 0, .int .u8 0, .slice none 0 0] 36) = Wa ∧ Wa.heap.size = W.heap.size + 1 ∧ Wa.heap[W.heap.size]? = some (.cells #[.int .u8 0, .int .u8 0, .slice none 0 0] 36 (0, 0)) ∧ Below W.heap.size W Wa := ⟨_, rfl, by simp, alloc_block W _, (Below.refl _ _).alloc (Nat.le_refl _) _⟩
  have HWA := Lib.hid hWa
  have HSA := Lib.hid hsa
  have HRES := Lib.hid hres
  have HBA := Lib.hid hba
  replace HT := Lib.hid (HT.out.later hba)
  have hst0 : Mk Wa (Wa.alloc (.cells #[.int .u8 t, .int .u8 r, .slice none 0 0] 36)) (W.heap.size + 1) t r (.slice none 0 0) [] := by
    have := alloc_block Wa (.cells #[.int .u8 t, .int .u8 r, .slice none 0 0] 36)
    rw [hsa] at this
    exact ⟨this, World.ownsRow_nil _ _ _ _, (Below.refl _ _).alloc (Nat.le_refl _) _, by omega⟩
  have HST0 := Lib.hid hst0
  clear hWa hsa hres hba hst0
  go_enter Tryd.func45, Tryd.ntmps45
  go_wp2_with fail
  rw [HWA.out]
  go_loopw [8] (fun i wr => ∃ (j : Nat) (v0 : Value), j ≤ tn ∧ i = .int .i64 j ∧ Hid (Mk Wa wr (W.heap.size + 1) t r v0 (atP r (T.take j)))) (fun i _ => tn - (Go.RowKit.intOf i).toNat)
  case atStart => exact ⟨0, .slice none 0 0, Nat.zero_le _, rfl, HST0⟩
  case round =>
    obtain ⟨j, v0, hj, rfl, HI⟩ := hrel
    by_cases hlt : j < tn
    case neg =>
      obtain rfl : j = tn := by omega
      obtain ⟨e0, e1, e2⟩ := cells_step HI.out.box
      have HR := Lib.hid (block_later HRES.out HI.out.below)
      have hbw := HBA.out.trans (HI.out.below.mono HBA.out.size)
      have HB5 := Lib.hid (below_setRow hbw (Nat.le_refl _) #[.int .u8 t, .int .u8 r, v0])
      have HR5 := Lib.hid (setRow_heap wr W.heap.size _ #[.int .u8 t, .int .u8 r, v0] _ _ HR.out)
      have hown := HI.out.own
      have hel := HI.out.elder
      have hso := HSA.out
      rw [HET.out] at hown
      obtain ⟨pv, cv, hv, hs, hp⟩ := SlG.of_own (d := l0) lc_len (by decide) hown
      subst hv
      have hs5 : LL (wr.setRow W.heap.size #[.int .u8 t, .int .u8 r, .slice pv (atP r T).length cv]) pv (atP r T).length cv (atP r T) := hs.turn (by simp [World.setRow]) fun h0 ad he hlt => setRow_other _ _ _ _ (by have := hp ad he; omega)
      have HG : Hid (GivesT W t r (atP r T) (.returned (.agg #[.int .u8 t, .int .u8 r, .slice pv (atP r T).length cv])) (wr.setRow W.heap.size #[.int .u8 t, .int .u8 r, .slice pv (atP r T).length cv])) := Lib.hid ⟨pv, cv, rfl, hs5, HB5.out, fun ad he => by have := hp ad he; omega⟩
      have HONE : Hid ((Value.slice pv (atP r T).length cv).oneCell' = true) := Lib.hid rfl
      clear hbw hown hel hso hs hp hs5
      go_wp2_with ((with_reducible refine wpList_store_stc (t := t) (r := r) (s := .slice pv (atP r T).length cv) HR.out ?_ ?_ HONE.out ?_); rfl; rfl)
      (try simp only [Exit.inBlock, Exit.then])
      refine bodyPost_ret (v := .agg #[.int .u8 t, .int .u8 r, .slice pv (atP r T).length cv]) ?_ rfl HG.out
      exact results_cell_row rfl _ _ W.heap.size 36 _ (0, 0) _ rfl HR5.out Tryd.underlying36 rfl (by kernel_rfl)
    have hlt' : (j : Int) < tn := by omega
    obtain ⟨b, off, rfl, _, _⟩ := take_cells (HT.out.later HI.out.below) hlt
    have HTC : Hid (∀ w', Below Wa.heap.size Wa w' → w'.cell? ⟨b, off + j * 4, none⟩ = some (.int .u32 (T.getD j tk0).1) ∧ w'.cell? ⟨b, off + j * 4 + 1, none⟩ = some (.int .u8 (T.getD j tk0).2.1) ∧ w'.cell? ⟨b, off + j * 4 + 2, none⟩ = some (.int .u8 (T.getD j tk0).2.2.1) ∧ w'.cell? ⟨b, off + j * 4 + 3, none⟩ = some (.int .i64 (T.getD j tk0).2.2.2)) := Lib.hid fun w' h => by
      obtain ⟨b', off', he, _, d0, d1, d2, d3⟩ := take_cells (HT.out.later h) hlt
      cases he
      exact ⟨d0, d1, d2, d3⟩
    have hst := HST.out j hlt
    obtain ⟨_, _, ⟨hw0, hw1⟩, _, _⟩ := HOK.out j hlt
    obtain ⟨k0, k1, k2, k3⟩ := HTC.out wr HI.out.below
    have HJL := Lib.hid (HLJ.out j)
    generalize T.getD j tk0 = x at *
    obtain ⟨o, a, v, qq⟩ := x
    dsimp only at k0 k1 k2 k3 hw0 hw1 hst HTC
    have hwv : IntKind.i64.wrap v = v := IntWalk.i64_in _ (by omega)
    by_cases hv : v = r
    case neg =>
      have hd : (v == r) = false := by simpa using hv
      rw [if_neg hv, List.append_nil] at hst
      have HS := Lib.hid hst
      clear hst hv
      go_wp2_with fail
      go_roundw
      case rel => exact ⟨j + 1, v0, by omega, by go_num, Lib.hid (by rw [HS.out]; exact HI.out)⟩
      case measure => simp [Go.RowKit.intOf]; omega
    have hd : (v == r) = true := by simpa using hv
    rw [if_pos hv] at hst
    have HS := Lib.hid hst
    have hbd : Below Wa.heap.size Wa wr.drew := HI.out.below.drew
    clear hst hv
    generalize hLj : atP r (T.take j) = Lj at *
    go_wp2_with fail
    refine wp_region_held_drew (S := fun w' => Hid (Below Wa.heap.size Wa w')) (by kernel_rfl) (Lib.hid hbd) (fun hHeld => ?_)
    clear hbd
    refine wpAnyH_take (i := 0) (oi := ⟨some 27, _, _, _, _, _⟩) (v := .pointer (some ⟨W.heap.size + 1, 2, none⟩)) rfl (by kernel_rfl) (by kernel_rfl) (by kernel_rfl) (fun _ _ _ h => h) (Or.inl ⟨by rfl, fun w' hw' => ?_⟩) (by assumption) ?_
    · clear hHeld
      go_simp
    simp only [Act.put, List.setIfInBounds_toArray, List.set_cons_zero, List.set_cons_succ]
    refine wpAnyH_take (i := 2) (oi := ⟨some 29, _, _, _, _, _⟩) (v := .slice (some ⟨b, off, none⟩) tn tcp) rfl (by kernel_rfl) (by kernel_rfl) (by kernel_rfl) (fun _ _ _ h => h) (Or.inl ⟨by rfl, fun w' hw' => ?_⟩) (by assumption) ?_
    · clear hHeld
      go_simp
    simp only [Act.put, List.setIfInBounds_toArray, List.set_cons_zero, List.set_cons_succ]
    refine wpAnyH_take (i := 3) (oi := ⟨some 30, _, _, _, _, _⟩) (v := .int .i64 (j : Nat)) rfl (by kernel_rfl) (by kernel_rfl) (by kernel_rfl) (fun _ _ _ h => h) (Or.inl ⟨by rfl, fun w' hw' => ?_⟩) (by assumption) ?_
    · clear hHeld
      go_simp
    simp only [Act.put, List.setIfInBounds_toArray, List.set_cons_zero, List.set_cons_succ]
    refine wpAnyH_take (i := 4) (oi := ⟨some 31, _, _, _, _, _⟩) (v := .pointer (some ⟨b, off + j * 4, none⟩)) rfl (by kernel_rfl) (by kernel_rfl) (by kernel_rfl) (fun _ _ _ h => h) (Or.inl ⟨by rfl, fun w' hw' => ?_⟩) (by assumption) ?_
    · clear hHeld
      go_simp
    simp only [Act.put, List.setIfInBounds_toArray, List.set_cons_zero, List.set_cons_succ]
    refine wpAnyH_take (i := 5) (oi := ⟨some 32, _, _, _, _, _⟩) (v := .pointer (some ⟨b, off + j * 4 + 1, none⟩)) rfl (by kernel_rfl) (by kernel_rfl) (by kernel_rfl) (fun _ _ _ h => h) (Or.inl ⟨by rfl, fun w' hw' => ?_⟩) (by assumption) ?_
    · clear hHeld
      go_simp
    simp only [Act.put, List.setIfInBounds_toArray, List.set_cons_zero, List.set_cons_succ]
    refine wpAnyH_take (i := 6) (oi := ⟨some 33, _, _, _, _, _⟩) (v := .int .u8 a) rfl (by kernel_rfl) (by kernel_rfl) (by kernel_rfl) (fun _ _ _ h => h) (Or.inl ⟨by rfl, fun w' hw' => ?_⟩) (by assumption) ?_
    · obtain ⟨g0, g1, g2, g3⟩ := HTC.out w' hw'.out
      clear hHeld
      go_simp
    simp only [Act.put, List.setIfInBounds_toArray, List.set_cons_zero, List.set_cons_succ]
    refine wpAnyH_take (i := 7) (oi := ⟨some 34, _, _, _, _, _⟩) (v := .slice (some ⟨b, off, none⟩) tn tcp) rfl (by kernel_rfl) (by kernel_rfl) (by kernel_rfl) (fun _ _ _ h => h) (Or.inl ⟨by rfl, fun w' hw' => ?_⟩) (by assumption) ?_
    · clear hHeld
      go_simp
    simp only [Act.put, List.setIfInBounds_toArray, List.set_cons_zero, List.set_cons_succ]
    refine wpAnyH_take (i := 8) (oi := ⟨some 35, _, _, _, _, _⟩) (v := .int .i64 (j : Nat)) rfl (by kernel_rfl) (by kernel_rfl) (by kernel_rfl) (fun _ _ _ h => h) (Or.inl ⟨by rfl, fun w' hw' => ?_⟩) (by assumption) ?_
    · clear hHeld
      go_simp
    simp only [Act.put, List.setIfInBounds_toArray, List.set_cons_zero, List.set_cons_succ]
    refine wpAnyH_take (i := 9) (oi := ⟨some 36, _, _, _, _, _⟩) (v := .pointer (some ⟨b, off + j * 4, none⟩)) rfl (by kernel_rfl) (by kernel_rfl) (by kernel_rfl) (fun _ _ _ h => h) (Or.inl ⟨by rfl, fun w' hw' => ?_⟩) (by assumption) ?_
    · clear hHeld
      go_simp
    simp only [Act.put, List.setIfInBounds_toArray, List.set_cons_zero, List.set_cons_succ]
    refine wpAnyH_take (i := 10) (oi := ⟨some 37, _, _, _, _, _⟩) (v := .pointer (some ⟨b, off + j * 4 + 3, none⟩)) rfl (by kernel_rfl) (by kernel_rfl) (by kernel_rfl) (fun _ _ _ h => h) (Or.inl ⟨by rfl, fun w' hw' => ?_⟩) (by assumption) ?_
    · clear hHeld
      go_simp
    simp only [Act.put, List.setIfInBounds_toArray, List.set_cons_zero, List.set_cons_succ]
    refine wpAnyH_take (i := 11) (oi := ⟨some 38, _, _, _, _, _⟩) (v := .int .i64 qq) rfl (by kernel_rfl) (by kernel_rfl) (by kernel_rfl) (fun _ _ _ h => h) (Or.inl ⟨by rfl, fun w' hw' => ?_⟩) (by assumption) ?_
    · obtain ⟨g0, g1, g2, g3⟩ := HTC.out w' hw'.out
      clear hHeld
      go_simp
    simp only [Act.put, List.setIfInBounds_toArray, List.set_cons_zero, List.set_cons_succ]
    refine wpAnyH_take (i := 12) (oi := ⟨some 39, _, _, _, _, _⟩) (v := .agg #[.int .u8 a, .int .i64 qq]) rfl (by kernel_rfl) (by kernel_rfl) (by kernel_rfl) (fun _ _ _ h => h) (Or.inl ⟨by rfl, fun w' hw' => ?_⟩) (by assumption) ?_
    · clear hHeld
      go_simp
    simp only [Act.put, List.setIfInBounds_toArray, List.set_cons_zero, List.set_cons_succ]
    have HD := Lib.hid (HI.out.later (show Below wr.heap.size wr wr.drew from (Below.refl _ _).drew))
    generalize wr.drew = Wd at *
    refine wpAnyH_ready (rs := [1, 13]) (by kernel_rfl) (by simp) (AllReadyH.cons rfl (fun K hK => ?_) (AllReadyH.cons rfl (fun K hK => ?_) AllReadyH.nil))
    · have hv := (cells_step HD.out.box).2.2
      go_simp
      refine hK.out _ _ (Lib.hid HD.out.below) (fun hHeld2 => ?_)
      clear hK K hHeld
      have hHeld := hHeld2
      clear hHeld2
      try simp only [Act.put, List.setIfInBounds_toArray, List.set_cons_zero, List.set_cons_succ]
      clear hv
      refine wpAnyH_ready (rs := [13]) (by kernel_rfl) (by simp) (AllReadyH.cons rfl (fun K hK => ?_) AllReadyH.nil)
      go_simp
      have HA2 := Lib.hid (HD.out.later (show Below Wd.heap.size Wd (Wd.alloc (.cells #[.int .u8 a, .int .i64 qq] 72)) from (Below.refl _ _).alloc (Nat.le_refl _) _))
      refine hK.out _ _ (Lib.hid HA2.out.below) (fun hHeld2 => ?_)
      clear hK K hHeld
      have hHeld := hHeld2
      clear hHeld2
      try simp only [Act.put, List.setIfInBounds_toArray, List.set_cons_zero, List.set_cons_succ]
      refine wpAnyH_ready (rs := [14]) (by kernel_rfl) (by simp) (AllReadyH.cons rfl (fun K hK => ?_) AllReadyH.nil)
      refine step_append_vals (k := 2) (by decide) Tryd.underlying23 info_line rfl (by omega) rfl (.tmp 28) (.tmp 40) rfl v0 Lj.length (flatG lc Lj) (by simp [Act.eval]) (own_zero HA2.out.own) (some ⟨Wd.heap.size, 0, none⟩) 1 1 (flatG lc [((a, qq) : Ln)]) (by simp [Act.eval]) rfl (fun h => by cases h) (line_news Wd (a, qq)) (flatG_all lc_one _) (by have := HJL.out; omega) ?_
      intro p3 c3 w3 h1 h2 h3
      have HA3 := Lib.hid (HA2.out.app h1 h2 h3)
      clear h1 h2 h3
      refine hK.out _ _ (Lib.hid HA3.out.below) (fun hHeld2 => ?_)
      clear hK K hHeld
      have hHeld := hHeld2
      clear hHeld2
      try simp only [Act.put, List.setIfInBounds_toArray, List.set_cons_zero, List.set_cons_succ]
      refine wpAnyH_take (i := 15) (oi := ⟨some 42, _, _, _, _, _⟩) (v := .pointer (some ⟨W.heap.size + 1, 2, none⟩)) rfl (by kernel_rfl) (by kernel_rfl) (by kernel_rfl) (fun _ _ _ h => h) (Or.inl ⟨by rfl, fun w' hw' => ?_⟩) (by assumption) ?_
      · clear hHeld
        go_simp
      simp only [Act.put, List.setIfInBounds_toArray, List.set_cons_zero, List.set_cons_succ]
      refine wpAnyH_ready (rs := [16]) (by kernel_rfl) (by simp) (AllReadyH.cons rfl (fun K hK => ?_) AllReadyH.nil)
      have hc2 := (cells_step HA3.out.box).2.2
      have hfz : w3.frozen? ⟨W.heap.size + 1, 2, none⟩ = false := frozen_of HA3.out.box 2
      have HA4 := Lib.hid HA3.out.put
      go_simp
      refine hK.out _ _ (Lib.hid HA4.out.below) (fun hHeld2 => ?_)
      clear hc2 hfz
      clear hK K hHeld
      have hHeld := hHeld2
      clear hHeld2
      try simp only [Act.put, List.setIfInBounds_toArray, List.set_cons_zero, List.set_cons_succ]
      refine wpAnyH_done (by kernel_rfl) ?_ _
      clear hHeld
      go_wp2_with fail
      go_roundw
      case rel => exact ⟨j + 1, .slice p3 (Lj.length + 1) c3, by omega, by go_num, Lib.hid (by rw [HS.out]; exact HA4.out)⟩
      case measure => simp [Go.RowKit.intOf]; omega
    · go_simp
      have HA2 := Lib.hid (HD.out.later (show Below Wd.heap.size Wd (Wd.alloc (.cells #[.int .u8 a, .int .i64 qq] 72)) from (Below.refl _ _).alloc (Nat.le_refl _) _))
      refine hK.out _ _ (Lib.hid HA2.out.below) (fun hHeld2 => ?_)
      clear hK K hHeld
      have hHeld := hHeld2
      clear hHeld2
      try simp only [Act.put, List.setIfInBounds_toArray, List.set_cons_zero, List.set_cons_succ]
      refine wpAnyH_ready (rs := [1]) (by kernel_rfl) (by simp) (AllReadyH.cons rfl (fun K hK => ?_) AllReadyH.nil)
      have hv := (cells_step HA2.out.box).2.2
      go_simp
      refine hK.out _ _ (Lib.hid HA2.out.below) (fun hHeld2 => ?_)
      clear hK K hHeld
      have hHeld := hHeld2
      clear hHeld2
      try simp only [Act.put, List.setIfInBounds_toArray, List.set_cons_zero, List.set_cons_succ]
      clear hv
      refine wpAnyH_ready (rs := [14]) (by kernel_rfl) (by simp) (AllReadyH.cons rfl (fun K hK => ?_) AllReadyH.nil)
      refine step_append_vals (k := 2) (by decide) Tryd.underlying23 info_line rfl (by omega) rfl (.tmp 28) (.tmp 40) rfl v0 Lj.length (flatG lc Lj) (by simp [Act.eval]) (own_zero HA2.out.own) (some ⟨Wd.heap.size, 0, none⟩) 1 1 (flatG lc [((a, qq) : Ln)]) (by simp [Act.eval]) rfl (fun h => by cases h) (line_news Wd (a, qq)) (flatG_all lc_one _) (by have := HJL.out; omega) ?_
      intro p3 c3 w3 h1 h2 h3
      have HA3 := Lib.hid (HA2.out.app h1 h2 h3)
      clear h1 h2 h3
      refine hK.out _ _ (Lib.hid HA3.out.below) (fun hHeld2 => ?_)
      clear hK K hHeld
      have hHeld := hHeld2
      clear hHeld2
      try simp only [Act.put, List.setIfInBounds_toArray, List.set_cons_zero, List.set_cons_succ]
      refine wpAnyH_take (i := 15) (oi := ⟨some 42, _, _, _, _, _⟩) (v := .pointer (some ⟨W.heap.size + 1, 2, none⟩)) rfl (by kernel_rfl) (by kernel_rfl) (by kernel_rfl) (fun _ _ _ h => h) (Or.inl ⟨by rfl, fun w' hw' => ?_⟩) (by assumption) ?_
      · clear hHeld
        go_simp
      simp only [Act.put, List.setIfInBounds_toArray, List.set_cons_zero, List.set_cons_succ]
      refine wpAnyH_ready (rs := [16]) (by kernel_rfl) (by simp) (AllReadyH.cons rfl (fun K hK => ?_) AllReadyH.nil)
      have hc2 := (cells_step HA3.out.box).2.2
      have hfz : w3.frozen? ⟨W.heap.size + 1, 2, none⟩ = false := frozen_of HA3.out.box 2
      have HA4 := Lib.hid HA3.out.put
      go_simp
      refine hK.out _ _ (Lib.hid HA4.out.below) (fun hHeld2 => ?_)
      clear hc2 hfz
      clear hK K hHeld
      have hHeld := hHeld2
      clear hHeld2
      try simp only [Act.put, List.setIfInBounds_toArray, List.set_cons_zero, List.set_cons_succ]
      refine wpAnyH_done (by kernel_rfl) ?_ _
      clear hHeld
      go_wp2_with fail
      go_roundw
      case rel => exact ⟨j + 1, .slice p3 (Lj.length + 1) c3, by omega, by go_num, Lib.hid (by rw [HS.out]; exact HA4.out)⟩
      case measure => simp [Go.RowKit.intOf]; omega
end Go.Proofs.YtanndpmlpoplnaaDoor
