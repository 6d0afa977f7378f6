import Derived.Test.YtccgjdmbongbaaaGreatDoorPA20
namespace Go.Proofs.YtccgjdmbongbaaaGreatDoor
open Go.RowKit Go.ChangeShapes Go.WideShapes
set_option linter.unusedVariables false
set_option linter.unusedSimpArgs false
set_option maxRecDepth 10000
theorem results_oo {fn : Func} {p u : Tmp} (h : fn.results = #[.cell p 50, .tmp u]) (tmps : Array Value) (W : World) (R : Nat) (cs : Array Value) (hs : cs.size = 4) (v : Value) (hp : tmps.getD p undef = .pointer (some ⟨R, 0, none⟩)) (hv : tmps.getD u undef = v)
 (hB : W.heap[R]? = some (.cells cs 50 (0, 0))) : (results fn tmps).run Tryz.prog W = .ok (.tuple #[.agg cs, v]) W := by
 rw [results_cell_tmp h, hp, hv]
 simp [asAddr, Result.andThen, run_loadVar_row W R 50 50 cs (0, 0) _ hB Tryz.underlying50 rfl (by rw [hs]; kernel_rfl)]
theorem ov_cells {w : World} {B : Nat} {a b c d : Value} {T : TypeId} (hb : w.heap[B]? = some (.cells #[a, b, c, d] T (0, 0))) : w.cell? ⟨B, 0, none⟩ = some a ∧ w.cell? ⟨B, 1, none⟩ = some b ∧ w.cell? ⟨B, 2, none⟩ = some c ∧ w.cell? ⟨B, 3, none⟩ = some d := ⟨block_cell hb rfl, block_cell hb rfl, block_cell hb rfl, block_cell hb rfl⟩
theorem ofree {w : World} {B : Nat} {cs : Array Value} {T : TypeId} (h : w.heap[B]? = some (.cells cs T (0, 0))) : w.frozen? ⟨B, 0, none⟩ = false ∧ w.frozen? ⟨B, 1, none⟩ = false ∧ w.frozen? ⟨B, 2, none⟩ = false ∧ w.frozen? ⟨B, 3, none⟩ = false := ⟨block_free 0 h, block_free 1 h, block_free 2 h, block_free 3 h⟩
theorem ostored {w : World} {B : Nat} {a b c d a' b' c' d' : Value} {T : TypeId} (h : w.heap[B]? = some (.cells #[a, b, c, d] T (0, 0))) :
 ((((w.setCell ⟨B, 0, none⟩ a').setCell ⟨B, 1, none⟩ b').setCell ⟨B, 2, none⟩ c').setCell ⟨B, 3, none⟩ d').heap[B]? = some (.cells #[a', b', c', d'] T (0, 0)) :=
 block_put 3 d' (block_put 2 c' (block_put 1 b' (block_put 0 a' h)))
theorem okept {W w : World} {B : Nat} (h : Below W.heap.size W w) (hB : W.heap.size ≤ B) (a' b' c' d' : Value) : Below W.heap.size W ((((w.setCell ⟨B, 0, none⟩ a').setCell ⟨B, 1, none⟩ b').setCell ⟨B, 2, none⟩ c').setCell ⟨B, 3, none⟩ d') :=
 (((h.setCell hB _).setCell hB _).setCell hB _).setCell hB _
theorem lastC_nil {t : Tc} (h : t.dn.length = 0) : lastC t = (o0, false) := by
 unfold lastC
 rw [List.length_eq_zero_iff.1 h]
 rfl
theorem lastC_at {t : Tc} {q : Nat} (h : t.dn.length = q + 1) : lastC t = if (t.dn.getD q o0).2 < -9223372036854775807 then (o0, false) else (((t.dn.getD q o0).1, -(t.dn.getD q o0).2), true) := by
 unfold lastC
 have e : t.dn.getLast? = some (t.dn.getD q o0) := by
  rw [List.getLast?_eq_getElem?, h]
  simp [List.getD, List.getElem?_eq_getElem (show q < t.dn.length by omega)]
 rw [e]
theorem witho_take {α : Type} (ix : α → Int) (L : List α) (i : Int) (d : α) (j : Nat) (h : j < L.length) : witho ix (L.take (j + 1)) i = if ix (L.getD j d) = i then witho ix (L.take j) i else witho ix (L.take j) i ++ [L.getD j d] := by
 unfold witho
 rw [List.take_add_one, List.filter_append, List.getElem?_eq_getElem h]
 have e : L.getD j d = L[j] := by simp [List.getD, List.getElem?_eq_getElem h]
 rw [e]
 by_cases hx : ix L[j] = i
 · simp [hx]
 · simp [hx]
set_option maxHeartbeats 2000000 in
theorem rwithout_any (p : Option Addr) (n c : Nat) (L : List Tv) (i : Int) (W : World) (hL : SlG tce 8 tv0 W p n c L) (hn : n ≤ 100000) :
 Calls Tryz.prog 31 #[.slice p n c, .int .u32 i] W (GivesG tce 8 tv0 W (witho Tv.id L i)) := by
 have HL := Lib.hid hL
 obtain ⟨st, hst⟩ : ∃ st : Nat → List Tv, ∀ j, st j = witho Tv.id (L.take j) i := ⟨_, fun _ => rfl⟩
 have HS := Lib.hid fun j (hj : j < n) => (show st (j + 1) = if (L.getD j tv0).c.id = i then st j else st j ++ [L.getD j tv0] by rw [hst, hst]; exact witho_take Tv.id L i tv0 j (by rw [hL.len]; exact hj))
 have HS0 : Hid (st 0 = []) := Lib.hid (by rw [hst]; rfl)
 have HSN : Hid (st n = witho Tv.id L i) := Lib.hid (by rw [hst, List.take_of_length_le (by rw [hL.len]; exact Nat.le_refl _)])
 have hcap := hL.cap
 clear hst hL
 go_enter Tryz.func31, Tryz.ntmps31
 go_wp2_with fail
 go_loopw [5, 6] (fun v i wr => ∃ j : Nat, j ≤ n ∧ i = .int .i64 (j : Int) ∧ Hid (FillT W wr v (st j) j)) (fun _ i _ => n - (Go.RowKit.intOf i).toNat)
 case atStart => exact ⟨0, Nat.zero_le _, rfl, Lib.hid (by rw [HS0.out]; exact FillG.nil W)⟩
 case round =>
  obtain ⟨j, hj, rfl, HF⟩ := hrel
  by_cases hlt : j < n
  · have hlt' : (j : Int) < n := by omega
    obtain ⟨b, off, rfl, _, c0, c1, c2, c3, c4, c5, c6, c7⟩ := txr_cells (HL.out.later HF.out.below) hlt
    have hsucc := HS.out j hlt
    generalize L.getD j tv0 = x at *
    generalize st j = out at *
    by_cases hx : x.c.id = i
    · have hst : st (j + 1) = out := by rw [hsucc, if_pos hx]
      have HST := Lib.hid hst
      have hne : (x.c.id != i) = false := by simp [hx]
      have HX := Lib.hid hx
      clear hst hsucc hx
      go_wp2_with fail
      go_roundw
      case rel => exact ⟨j + 1, by omega, by go_num, Lib.hid (by rw [HST.out]; exact HF.out.mono (by omega))⟩
      case measure =>
       simp [Go.RowKit.intOf]
       omega
    · have hst : st (j + 1) = out ++ [x] := by rw [hsucc, if_neg hx]
      have HST := Lib.hid hst
      have hne : (x.c.id != i) = true := by simp [hx]
      have HX := Lib.hid hx
      clear hst hsucc hx
      have hsz := HF.out.below.size
      have hmost := HF.out.most
      go_wp2_with (at_builtin; refine wpList_append_tx rfl _ _ rfl W.heap.size _ (out).length (out) rfl (HF.out.own.alloc _) (by omega) x wr.heap.size rfl (tx_news wr x) (by simp; omega) ?_; intro v2 w2 h1 h2)
      have HF2 := Lib.hid (HF.out.step _ h1 h2)
      clear h1 h2 hsz hmost
      clear c0 c1 c2 c3 c4 c5 c6 c7 HF
      go_wp2_with fail
      go_roundw
      case rel => exact ⟨j + 1, by omega, by go_num, Lib.hid (by rw [HST.out]; exact HF2.out)⟩
      case measure =>
       simp [Go.RowKit.intOf]
       omega
  · obtain rfl : j = n := by omega
    rw [HSN.out] at HF
    go_wp2_with fail
    go_ret
    exact HF.out.gives tce_len (by decide)
theorem atb {W w : World} {a : Addr} {v : Value} (hb : Below W.heap.size W w) (h : W.cell? a = some v) : w.cell? a = some v := (hb.cell (World.block_lt_of_cell? _ _ h)).trans h
def stI (t : Tv) (st : Bool × List Tv) (x : Tv) : Bool × List Tv :=
 let s1 := if (!st.1 && decide (t.c.id < x.c.id)) = true then (true, st.2 ++ [t]) else st
 (s1.1, s1.2 ++ [x])
def insL (L : List Tv) (t : Tv) : List Tv := if (L.foldl (stI t) (false, [])).1 = true then (L.foldl (stI t) (false, [])).2 else (L.foldl (stI t) (false, [])).2 ++ [t]
theorem foldI_done (t : Tv) : ∀ (L out : List Tv), L.foldl (stI t) (true, out) = (true, out ++ L)
 | [], out => by simp
 | x :: L, out => by
  rw [List.foldl_cons]
  have h : stI t (true, out) x = (true, out ++ [x]) := by simp [stI]
  rw [h, foldI_done t L]
  simp
theorem foldI_put (t : Tv) : ∀ (L out : List Tv), (if (L.foldl (stI t) (false, out)).1 = true then (L.foldl (stI t) (false, out)).2 else (L.foldl (stI t) (false, out)).2 ++ [t]) = out ++ insT Tv.id L t
 | [], out => by simp [insT]
 | x :: L, out => by
  rw [List.foldl_cons, insT]
  by_cases hx : t.c.id < x.c.id
  · have h : stI t (false, out) x = (true, (out ++ [t]) ++ [x]) := by simp [stI, hx]
    rw [h, foldI_done, if_pos (show Tv.id t < Tv.id x from hx)]
    simp
  · have h : stI t (false, out) x = (false, out ++ [x]) := by simp [stI, hx]
    rw [h, foldI_put t L (out ++ [x]), if_neg (show ¬ Tv.id t < Tv.id x from hx)]
    simp
theorem insL_ins (L : List Tv) (t : Tv) : insL L t = insT Tv.id L t := by
 have := foldI_put t L []
 simpa [insL] using this
theorem takeI_fold (t : Tv) (L : List Tv) (j : Nat) (h : j < L.length) : (L.take (j + 1)).foldl (stI t) (false, []) = stI t ((L.take j).foldl (stI t) (false, [])) (L.getD j tv0) := by
 rw [List.take_add_one, List.foldl_append]
 simp [List.getD, List.getElem?_eq_getElem h]
theorem GivesG.up19 {α : Type} {enc : α → List Value} {k : Nat} {d : α} {W W1 w' : World} {L : List α} {e : Ending} (h : GivesG enc k d W1 L e w') (hb : Below W.heap.size W W1) : GivesG enc k d W L e w' := by
 obtain ⟨p, c, he, hs, hb2, hp⟩ := h
 exact ⟨p, c, he, hs, hb.trans (hb2.mono hb.size), fun a ha => Nat.le_trans hb.size (hp a ha)⟩
set_option maxHeartbeats 4000000 in
set_option maxRecDepth 100000 in
theorem rwith_any (p : Option Addr) (n c : Nat) (L : List Tv) (t : Tv) (W : World) (hL : SlG tce 8 tv0 W p n c L) (hn : n ≤ 10000) :
 Calls Tryz.prog 23 #[.slice p n c, .agg #[.int .u32 t.c.id, .int .u32 t.c.sg, .int .u8 t.c.st, .bool t.c.cp, .bool t.c.dd, .slice t.p t.n t.m, .int .i64 t.c.fs, .int .i64 t.c.sz]] W (GivesG tce 8 tv0 W (withT Tv.id L t)) := by
 have hb0 : Below W.heap.size W (W.alloc (.cells #[.int .u32 t.c.id, .int .u32 t.c.sg, .int .u8 t.c.st, .bool t.c.cp, .bool t.c.dd, .slice t.p t.n t.m, .int .i64 t.c.fs, .int .i64 t.c.sz] 47)) := (Below.refl _ _).alloc (Nat.le_refl _) _
 have HWO := Lib.hid (rwithout_any p n c L t.c.id _ (hL.later hb0) (by omega))
 have HB0 := Lib.hid hb0
 have HX0 := Lib.hid (alloc_block W (.cells #[.int .u32 t.c.id, .int .u32 t.c.sg, .int .u8 t.c.st, .bool t.c.cp, .bool t.c.dd, .slice t.p t.n t.m, .int .i64 t.c.fs, .int .i64 t.c.sz] 47))
 have HLN := Lib.hid (show (witho Tv.id L t.c.id).length ≤ 10000 from Nat.le_trans (len_witho L _) (by rw [hL.len]; exact hn))
 obtain ⟨X, hX⟩ : ∃ X, W.heap.size = X := ⟨_, rfl⟩
 have HHX := Lib.hid hX
 rw [hX] at HX0
 unfold withT
 rw [← insL_ins]
 have e0 : Tv.id t = t.c.id := rfl
 rw [e0]
 clear hb0 hL e0
 go_enter Tryz.func23, Tryz.ntmps23
 go_upto_region 1 with (fail)
 clear hX
 generalize W.alloc (.cells #[.int .u32 t.c.id, .int .u32 t.c.sg, .int .u8 t.c.st, .bool t.c.cp, .bool t.c.dd, .slice t.p t.n t.m, .int .i64 t.c.fs, .int .i64 t.c.sz] 47) = W1 at *
 have x0 := block_cell (j := 0) HX0.out rfl
 go_wp2_with fail
 clear x0
 refine HWO.out.mono ?_
 rintro e1 W2 ⟨p1, c1, rfl, hL1, hb1, _⟩
 generalize hM : witho Tv.id L t.c.id = M at *
 clear hM
 obtain ⟨m, hm⟩ : ∃ m, M.length = m := ⟨_, rfl⟩
 have HMM := Lib.hid hm
 rw [hm] at hL1 HLN
 have HL := Lib.hid hL1
 have HB2 := Lib.hid (HB0.out.trans (hb1.mono HB0.out.size))
 have HXX := Lib.hid (block_later HX0.out hb1)
 have HN := HLN.out
 obtain ⟨st, hst⟩ : ∃ st : Nat → Bool × List Tv, ∀ j, st j = (M.take j).foldl (stI t) (false, []) := ⟨_, fun _ => rfl⟩
 have HS := Lib.hid fun j (hj : j < m) => (show st (j + 1) = stI t (st j) (M.getD j tv0) by rw [hst, hst]; exact takeI_fold t M j (by rw [hm]; exact hj))
 have HS0 : Hid (st 0 = (false, [])) := Lib.hid (by rw [hst]; rfl)
 have HSN : Hid (insL M t = if (st m).1 = true then (st m).2 else (st m).2 ++ [t]) := Lib.hid (by rw [hst, List.take_of_length_le (by rw [hm]; exact Nat.le_refl _)]; rfl)
 rw [hm]
 clear hst hm hb1 hL1 HB0 HX0 HWO HLN
 obtain ⟨xx0, xx1, xx2, xx3, xx4, xx5, xx6, xx7⟩ := tx_box HXX.out
 have X0 := Lib.hid xx0
 have X1 := Lib.hid xx1
 have X2 := Lib.hid xx2
 have X3 := Lib.hid xx3
 have X4 := Lib.hid xx4
 have X5 := Lib.hid xx5
 have X6 := Lib.hid xx6
 have X7 := Lib.hid xx7
 clear xx0 xx1 xx2 xx3 xx4 xx5 xx6 xx7
 go_wp2_with fail
 go_loopw [5, 6, 7] (fun u d i wr => ∃ j : Nat, j ≤ m ∧ i = .int .i64 (j : Int) ∧ d = .bool (st j).1 ∧ Hid (FillT W2 wr u (st j).2 (2 * j))) (fun _ _ i _ => m - (Go.RowKit.intOf i).toNat)
 case atStart => exact ⟨0, Nat.zero_le _, rfl, by rw [HS0.out], Lib.hid (by rw [HS0.out]; exact ⟨World.ownsRow_nil _ _ _ _, Below.refl _ _, Nat.le_refl _⟩)⟩
 case round =>
  obtain ⟨j, hj, rfl, rfl, HF⟩ := hrel
  by_cases hlt : j < m
  · have hlt' : (j : Int) < m := by omega
    obtain ⟨b, off, rfl, _, cc0, cc1, cc2, cc3, cc4, cc5, cc6, cc7⟩ := txr_cells HL.out hlt
    have hsucc := HS.out j hlt
    generalize M.getD j tv0 = x at *
    have C0 := Lib.hid (atb (Below.refl _ _) cc0)
    have C1 := Lib.hid (atb (Below.refl _ _) cc1)
    have C2 := Lib.hid (atb (Below.refl _ _) cc2)
    have C3 := Lib.hid (atb (Below.refl _ _) cc3)
    have C4 := Lib.hid (atb (Below.refl _ _) cc4)
    have C5 := Lib.hid (atb (Below.refl _ _) cc5)
    have C6 := Lib.hid (atb (Below.refl _ _) cc6)
    have C7 := Lib.hid (atb (Below.refl _ _) cc7)
    clear cc0 cc1 cc2 cc3 cc4 cc5 cc6 cc7
    generalize st j = sj at *
    obtain ⟨d, out⟩ := sj
    dsimp only at HF ⊢
    cases d with
    | true =>
     have hst : st (j + 1) = (true, out ++ [x]) := by rw [hsucc]; simp [stI]
     have HST := Lib.hid hst
     clear hst hsucc
     have c0 := atb HF.out.below C0.out
     have c1 := atb HF.out.below C1.out
     have c2 := atb HF.out.below C2.out
     have c3 := atb HF.out.below C3.out
     have c4 := atb HF.out.below C4.out
     have c5 := atb HF.out.below C5.out
     have c6 := atb HF.out.below C6.out
     have c7 := atb HF.out.below C7.out
     have x0 := atb HF.out.below X0.out
     have x1 := atb HF.out.below X1.out
     have x2 := atb HF.out.below X2.out
     have x3 := atb HF.out.below X3.out
     have x4 := atb HF.out.below X4.out
     have x5 := atb HF.out.below X5.out
     have x6 := atb HF.out.below X6.out
     have x7 := atb HF.out.below X7.out
     have cc0 := fun p : After _ => cell_after p c0
     have xx0 := fun p : After _ => cell_after p x0
     go_wp2_with fail
     refine wp_region_after (by kernel_rfl) (by kernel_rfl) ?_
     repeat (go_big_quiet_step (fail))
     refine wpQuiet_nil ?_
     intro w1 hw'
     obtain ⟨⟨wq, h6⟩, hw''⟩ := hw'
     subst hw''
     have HF1 := Lib.hid (HF.out.later h6)
     clear cc0 xx0
     clear c0 c1 c2 c3 c4 c5 c6 c7 x0 x1 x2 x3 x4 x5 x6 x7
     clear h6 HF
     have c0 := atb HF1.out.below C0.out
     have c1 := atb HF1.out.below C1.out
     have c2 := atb HF1.out.below C2.out
     have c3 := atb HF1.out.below C3.out
     have c4 := atb HF1.out.below C4.out
     have c5 := atb HF1.out.below C5.out
     have c6 := atb HF1.out.below C6.out
     have c7 := atb HF1.out.below C7.out
     have x0 := atb HF1.out.below X0.out
     have x1 := atb HF1.out.below X1.out
     have x2 := atb HF1.out.below X2.out
     have x3 := atb HF1.out.below X3.out
     have x4 := atb HF1.out.below X4.out
     have x5 := atb HF1.out.below X5.out
     have x6 := atb HF1.out.below X6.out
     have x7 := atb HF1.out.below X7.out
     have hsz := HF1.out.below.size
     have hmost := HF1.out.most
     go_wp2_with (at_builtin; refine wpList_append_tx rfl _ _ rfl W2.heap.size _ (out).length (out) rfl (HF1.out.own.alloc _) (by omega) x w1.heap.size rfl (tx_news w1 x) (by simp; omega) ?_; intro v2 u2 h1 h2)
     have HF2 := Lib.hid (HF1.out.step _ h1 h2)
     clear h1 h2 hsz hmost
     clear c0 c1 c2 c3 c4 c5 c6 c7 x0 x1 x2 x3 x4 x5 x6 x7
     clear HF1
     go_wp2_with fail
     go_roundw
     case rel => exact ⟨j + 1, by omega, by go_num, by rw [HST.out], Lib.hid (by rw [HST.out]; exact HF2.out.mono (by omega))⟩
     case measure =>
      simp [Go.RowKit.intOf]
      omega
    | false =>
     by_cases hx : t.c.id < x.c.id
     · skip
       have hst : st (j + 1) = (true, (out ++ [t]) ++ [x]) := by rw [hsucc]; simp [stI, hx]
       have HST := Lib.hid hst
       clear hst hsucc
       have c0 := atb HF.out.below C0.out
       have c1 := atb HF.out.below C1.out
       have c2 := atb HF.out.below C2.out
       have c3 := atb HF.out.below C3.out
       have c4 := atb HF.out.below C4.out
       have c5 := atb HF.out.below C5.out
       have c6 := atb HF.out.below C6.out
       have c7 := atb HF.out.below C7.out
       have x0 := atb HF.out.below X0.out
       have x1 := atb HF.out.below X1.out
       have x2 := atb HF.out.below X2.out
       have x3 := atb HF.out.below X3.out
       have x4 := atb HF.out.below X4.out
       have x5 := atb HF.out.below X5.out
       have x6 := atb HF.out.below X6.out
       have x7 := atb HF.out.below X7.out
       have cc0 := fun p : After _ => cell_after p c0
       have xx0 := fun p : After _ => cell_after p x0
       have hg : decide (t.c.id < x.c.id) = true := by simp [hx]
       have HX := Lib.hid hx
       clear hx
       go_wp2_with fail
       refine wp_region_after (by kernel_rfl) (by kernel_rfl) ?_
       repeat (go_big_quiet_step (fail))
       refine wpQuiet_nil ?_
       intro w1 hw'
       obtain ⟨⟨wq, h6⟩, hw''⟩ := hw'
       subst hw''
       have HF1 := Lib.hid (HF.out.later h6)
       clear cc0 xx0
       clear c0 c1 c2 c3 c4 c5 c6 c7 x0 x1 x2 x3 x4 x5 x6 x7
       clear h6 HF
       have c0 := atb HF1.out.below C0.out
       have c1 := atb HF1.out.below C1.out
       have c2 := atb HF1.out.below C2.out
       have c3 := atb HF1.out.below C3.out
       have c4 := atb HF1.out.below C4.out
       have c5 := atb HF1.out.below C5.out
       have c6 := atb HF1.out.below C6.out
       have c7 := atb HF1.out.below C7.out
       have x0 := atb HF1.out.below X0.out
       have x1 := atb HF1.out.below X1.out
       have x2 := atb HF1.out.below X2.out
       have x3 := atb HF1.out.below X3.out
       have x4 := atb HF1.out.below X4.out
       have x5 := atb HF1.out.below X5.out
       have x6 := atb HF1.out.below X6.out
       have x7 := atb HF1.out.below X7.out
       have hsz := HF1.out.below.size
       have hmost := HF1.out.most
       go_wp2_with (first | (at_builtin; refine wpList_append_tx rfl _ _ rfl W2.heap.size _ out.length out rfl (HF1.out.own.alloc _) (by omega) t w1.heap.size rfl (tx_news w1 t) (by simp; omega) ?_; intro v2 u2 h1 h2; have HF2 := Lib.hid (HF1.out.step _ h1 h2); have d0 := atb HF2.out.below C0.out; have d1 := atb HF2.out.below C1.out; have d2 := atb HF2.out.below C2.out; have d3 := atb HF2.out.below C3.out; have d4 := atb HF2.out.below C4.out; have d5 := atb HF2.out.below C5.out; have d6 := atb HF2.out.below C6.out; have d7 := atb HF2.out.below C7.out; have hsz2 := HF2.out.below.size; have hmost2 := HF2.out.most; clear h1 h2) | (at_builtin; refine wpList_append_tx rfl _ _ rfl W2.heap.size _ (out ++ [t]).length (out ++ [t]) rfl (HF2.out.own.alloc _) (by omega) x u2.heap.size rfl (tx_news u2 x) (by simp; omega) ?_; intro v3 u3 h3 h4))
       have HF3 := Lib.hid (HF2.out.step _ h3 h4)
       clear h3 h4 hsz hmost hsz2 hmost2 d0 d1 d2 d3 d4 d5 d6 d7
       clear c0 c1 c2 c3 c4 c5 c6 c7 x0 x1 x2 x3 x4 x5 x6 x7
       clear HF1 HF2
       go_wp2_with fail
       go_roundw
       case rel => exact ⟨j + 1, by omega, by go_num, by rw [HST.out], Lib.hid (by rw [HST.out]; exact HF3.out.mono (by omega))⟩
       case measure =>
        simp [Go.RowKit.intOf]
        omega
     · skip
       have hst : st (j + 1) = (false, out ++ [x]) := by rw [hsucc]; simp [stI, hx]
       have HST := Lib.hid hst
       clear hst hsucc
       have c0 := atb HF.out.below C0.out
       have c1 := atb HF.out.below C1.out
       have c2 := atb HF.out.below C2.out
       have c3 := atb HF.out.below C3.out
       have c4 := atb HF.out.below C4.out
       have c5 := atb HF.out.below C5.out
       have c6 := atb HF.out.below C6.out
       have c7 := atb HF.out.below C7.out
       have x0 := atb HF.out.below X0.out
       have x1 := atb HF.out.below X1.out
       have x2 := atb HF.out.below X2.out
       have x3 := atb HF.out.below X3.out
       have x4 := atb HF.out.below X4.out
       have x5 := atb HF.out.below X5.out
       have x6 := atb HF.out.below X6.out
       have x7 := atb HF.out.below X7.out
       have cc0 := fun p : After _ => cell_after p c0
       have xx0 := fun p : After _ => cell_after p x0
       have hg : decide (t.c.id < x.c.id) = false := by simp [hx]
       have HX := Lib.hid hx
       clear hx
       go_wp2_with fail
       refine wp_region_after (by kernel_rfl) (by kernel_rfl) ?_
       repeat (go_big_quiet_step (fail))
       refine wpQuiet_nil ?_
       intro w1 hw'
       obtain ⟨⟨wq, h6⟩, hw''⟩ := hw'
       subst hw''
       have HF1 := Lib.hid (HF.out.later h6)
       clear cc0 xx0
       clear c0 c1 c2 c3 c4 c5 c6 c7 x0 x1 x2 x3 x4 x5 x6 x7
       clear h6 HF
       have c0 := atb HF1.out.below C0.out
       have c1 := atb HF1.out.below C1.out
       have c2 := atb HF1.out.below C2.out
       have c3 := atb HF1.out.below C3.out
       have c4 := atb HF1.out.below C4.out
       have c5 := atb HF1.out.below C5.out
       have c6 := atb HF1.out.below C6.out
       have c7 := atb HF1.out.below C7.out
       have x0 := atb HF1.out.below X0.out
       have x1 := atb HF1.out.below X1.out
       have x2 := atb HF1.out.below X2.out
       have x3 := atb HF1.out.below X3.out
       have x4 := atb HF1.out.below X4.out
       have x5 := atb HF1.out.below X5.out
       have x6 := atb HF1.out.below X6.out
       have x7 := atb HF1.out.below X7.out
       have hsz := HF1.out.below.size
       have hmost := HF1.out.most
       go_wp2_with (at_builtin; refine wpList_append_tx rfl _ _ rfl W2.heap.size _ (out).length (out) rfl (HF1.out.own.alloc _) (by omega) x w1.heap.size rfl (tx_news w1 x) (by simp; omega) ?_; intro v2 u2 h1 h2)
       have HF2 := Lib.hid (HF1.out.step _ h1 h2)
       clear h1 h2 hsz hmost
       clear c0 c1 c2 c3 c4 c5 c6 c7 x0 x1 x2 x3 x4 x5 x6 x7
       clear HF1
       go_wp2_with fail
       go_roundw
       case rel => exact ⟨j + 1, by omega, by go_num, by rw [HST.out], Lib.hid (by rw [HST.out]; exact HF2.out.mono (by omega))⟩
       case measure =>
        simp [Go.RowKit.intOf]
        omega
  · obtain rfl : j = m := by omega
    have x0 := atb HF.out.below X0.out
    have x1 := atb HF.out.below X1.out
    have x2 := atb HF.out.below X2.out
    have x3 := atb HF.out.below X3.out
    have x4 := atb HF.out.below X4.out
    have x5 := atb HF.out.below X5.out
    have x6 := atb HF.out.below X6.out
    have x7 := atb HF.out.below X7.out
    generalize st j = sj at *
    obtain ⟨d, out⟩ := sj
    dsimp only at HF ⊢
    cases d with
    | true =>
     have hw : insL M t = out := HSN.out
     have HWW := Lib.hid hw
     clear hw
     go_wp2_with fail
     go_ret
     rw [HWW.out]
     exact (HF.out.gives tce_len (by decide)).up19 HB2.out
    | false =>
     have hw : insL M t = out ++ [t] := HSN.out
     have HWW := Lib.hid hw
     clear hw
     have hsz := HF.out.below.size
     have hmost := HF.out.most
     go_wp2_with (at_builtin; refine wpList_append_tx rfl _ _ rfl W2.heap.size _ (out).length (out) rfl (HF.out.own.alloc _) (by omega) t wr.heap.size rfl (tx_news wr t) (by simp; omega) ?_; intro v2 w2 h1 h2)
     have HF2 := Lib.hid (HF.out.step _ h1 h2)
     clear h1 h2 hsz hmost
     go_wp2_with fail
     go_ret
     rw [HWW.out]
     exact (HF2.out.gives tce_len (by decide)).up19 HB2.out
theorem newT_take {α : Type} (ix : α → Int) (L : List α) (d : α) (j : Nat) (h : j < L.length) : newT ix (L.take (j + 1)) = withT ix (newT ix (L.take j)) (L.getD j d) := by
 unfold newT
 rw [List.take_add_one, List.foldl_append]
 simp [List.getD, List.getElem?_eq_getElem h]
set_option maxHeartbeats 2000000 in
theorem rtnew_any (p : Option Addr) (n c : Nat) (L : List Tv) (W : World) (hL : SlG tce 8 tv0 W p n c L) (hn : n ≤ 1000) :
 Calls Tryz.prog 10 #[.slice p n c] W (GivesG tce 8 tv0 W (newT Tv.id L)) := by
 have HL := Lib.hid hL
 obtain ⟨st, hst⟩ : ∃ st : Nat → List Tv, ∀ j, st j = newT Tv.id (L.take j) := ⟨_, fun _ => rfl⟩
 have HS := Lib.hid fun j (hj : j < n) => (show st (j + 1) = withT Tv.id (st j) (L.getD j tv0) by rw [hst, hst]; exact newT_take Tv.id L tv0 j (by rw [hL.len]; exact hj))
 have HS0 : Hid (st 0 = []) := Lib.hid (by rw [hst]; rfl)
 have HSN : Hid (st n = newT Tv.id L) := Lib.hid (by rw [hst, List.take_of_length_le (by rw [hL.len]; exact Nat.le_refl _)])
 have HLE := Lib.hid fun j (hj : j ≤ n) => (show (st j).length ≤ j by rw [hst]; have := len_newT (ix := Tv.id) (L.take j); rw [List.length_take] at this; omega)
 have hcap := hL.cap
 clear hst hL
 go_enter Tryz.func10, Tryz.ntmps10
 go_wp2_with fail
 go_loopw [3, 4] (fun v i wr => ∃ (j : Nat) (r : Option Addr) (d : Nat), j ≤ n ∧ i = .int .i64 (j : Int) ∧ v = .slice r (st j).length d ∧ Hid (SlG tce 8 tv0 wr r (st j).length d (st j)) ∧ Hid (Below W.heap.size W wr) ∧ Hid (∀ a, r = some a → W.heap.size ≤ a.block)) (fun _ i _ => n - (Go.RowKit.intOf i).toNat)
 case atStart => exact ⟨0, none, 0, Nat.zero_le _, rfl, by rw [HS0.out]; rfl, Lib.hid (by rw [HS0.out]; exact SlG.empty _), Lib.hid (Below.refl _ _), Lib.hid (fun a ha => by cases ha)⟩
 case round =>
  obtain ⟨j, r, d, hj, rfl, rfl, HF, HB, HR⟩ := hrel
  by_cases hlt : j < n
  · have hlt' : (j : Int) < n := by omega
    obtain ⟨b, off, rfl, _, c0, c1, c2, c3, c4, c5, c6, c7⟩ := txr_cells (HL.out.later HB.out) hlt
    have hsucc := HS.out j hlt
    have hle := HLE.out j hj
    generalize L.getD j tv0 = x at *
    generalize st j = S at *
    have HW := Lib.hid (rwith_any r S.length d S x wr HF.out (by omega))
    rw [← hsucc] at HW
    clear hsucc hle
    go_wp2_with fail
    clear c0 c1 c2 c3 c4 c5 c6 c7
    refine HW.out.mono ?_
    rintro e1 w1 ⟨r1, d1, rfl, hs1, hb1, hr1⟩
    have HF1 := Lib.hid hs1
    have HR1 := Lib.hid (fun a ha => Nat.le_trans HB.out.size (hr1 a ha))
    have HB1 := Lib.hid (HB.out.trans (hb1.mono HB.out.size))
    clear hs1 hb1 hr1 HW
    go_wp2_with fail
    go_roundw
    case rel => exact ⟨j + 1, r1, d1, by omega, by go_num, rfl, HF1, HB1, HR1⟩
    case measure =>
     simp [Go.RowKit.intOf]
     omega
  · obtain rfl : j = n := by omega
    rw [HSN.out] at HF
    rw [HSN.out]
    go_wp2_with fail
    go_ret
    exact ⟨r, d, rfl, HF.out, HB.out, HR.out⟩
set_option maxHeartbeats 4000000 in
theorem jlast_any (t : Tv) (W : World) (hM : TvM W t) (hx : ∀ o ∈ t.c.dn, Ook o) (hn : t.n ≤ 100000) :
 Calls Tryz.prog 72 #[.agg #[.int .u32 t.c.id, .int .u32 t.c.sg, .int .u8 t.c.st, .bool t.c.cp, .bool t.c.dd, .slice t.p t.n t.m, .int .i64 t.c.fs, .int .i64 t.c.sz]] W fun e w' => e = .returned (.tuple #[.agg #[.int .u8 (lastC t.c).1.1.1, .int .u8 (lastC t.c).1.1.2.1, .int .u8 (lastC t.c).1.1.2.2, .int .i64 (lastC t.c).1.2], .bool (lastC t.c).2]) ∧ Below W.heap.size W w' := by
 obtain ⟨hb0, hx0, hr0⟩ := ttwo W #[.int .u32 t.c.id, .int .u32 t.c.sg, .int .u8 t.c.st, .bool t.c.cp, .bool t.c.dd, .slice t.p t.n t.m, .int .i64 t.c.fs, .int .i64 t.c.sz] #[.int .u8 0, .int .u8 0, .int .u8 0, .int .i64 0] 47 50
 have HM : Hid (OL _ t.p t.n t.m t.c.dn) := Lib.hid (hM.later hb0)
 have HB0 := Lib.hid hb0
 have HX := Lib.hid hx0
 have HR := Lib.hid hr0
 obtain ⟨z, hz0⟩ : ∃ z, lastC t.c = z := ⟨_, rfl⟩
 rw [hz0]
 have HZ := Lib.hid hz0
 have hlen := hM.len
 have hcap := hM.cap
 obtain ⟨X, hX⟩ : ∃ X, W.heap.size = X := ⟨_, rfl⟩
 have HHX := Lib.hid hX
 rw [hX] at HX HR
 by_cases h0 : t.n = 0
 · have hq := h0
   have hz : ((t.n : Int) == 0) = true := by simp [h0]
   have hl := lastC_nil (show t.c.dn.length = 0 by rw [hlen, hq])
   have HL := Lib.hid (hz0.symm.trans hl)
   have HQ := Lib.hid hq
   clear hb0 hx0 hr0 hM hl hlen hcap hx HM hz0 h0
   clear hq
   go_enter Tryz.func72, Tryz.ntmps72
   go_upto_region 1 with (fail)
   clear hX
   generalize (W.alloc (.cells #[.int .u32 t.c.id, .int .u32 t.c.sg, .int .u8 t.c.st, .bool t.c.cp, .bool t.c.dd, .slice t.p t.n t.m, .int .i64 t.c.fs, .int .i64 t.c.sz] 47)).alloc (.cells #[.int .u8 0, .int .u8 0, .int .u8 0, .int .i64 0] 50) = V0 at *
   have HO : Hid (W.heap.size ≤ X + 1) := Lib.hid (by rw [HHX.out]; omega)
   generalize X + 1 = R at *
   have x5 := block_cell (j := 5) HX.out rfl
   obtain ⟨r0, r1, r2, r3⟩ := ov_cells HR.out
   obtain ⟨f0, f1, f2, f3⟩ := ofree HR.out
   have HFS := Lib.hid (ostored (a' := .int .u8 0) (b' := .int .u8 0) (c' := .int .u8 0) (d' := .int .i64 0) HR.out)
   have HGS := Lib.hid (okept HB0.out HO.out (.int .u8 0) (.int .u8 0) (.int .u8 0) (.int .i64 0))
   go_wp2_with fail
   refine bodyPost_ret (v := .tuple #[.agg #[.int .u8 0, .int .u8 0, .int .u8 0, .int .i64 0], .bool false]) ?_ rfl ⟨by rw [HL.out] <;> rfl, HGS.out⟩
   exact results_oo rfl _ _ R _ rfl _ rfl rfl HFS.out
 · obtain ⟨q, hq⟩ : ∃ q, t.n = q + 1 := ⟨t.n - 1, by omega⟩
   clear h0
   have hl := lastC_at (show t.c.dn.length = q + 1 by rw [hlen, hq])
   have HZL := Lib.hid (hz0.symm.trans hl)
   clear hz0
   have hoq := ok_at hx (show q < t.c.dn.length by rw [hlen, hq]; omega)
   have hqn : q < t.n := by omega
   have hw : IntKind.i64.wrap ((t.n : Int) - 1) = (q : Int) := by
    rw [hq]
    unfold IntKind.wrap; simp [IntKind.signed, IntKind.bits]; omega
   have hz : ((t.n : Int) == 0) = false := by simp; omega
   have hqi : (q : Int) < t.n := by omega
   have HQ := Lib.hid hq
   clear hq hlen hl hb0 hx0 hr0 hM hx
   generalize t.p = tp at *
   generalize t.n = tn at *
   obtain ⟨b, off, rfl, _, c0, c1, c2, c3⟩ := op_cells HM.out hqn
   generalize t.c.dn.getD q o0 = o at *
   obtain ⟨k, dl⟩ := o
   have hng : ¬ dl < -9223372036854775807 → IntKind.i64.wrap (-dl) = -dl := fun h => by
    have h1 := hoq.2
    unfold In64 at h1
    simp only at h1
    unfold IntKind.wrap; simp [IntKind.signed, IntKind.bits]; omega
   have HOQ := Lib.hid hoq
   clear hoq hqn
   go_enter Tryz.func72, Tryz.ntmps72
   go_upto_region 1 with (fail)
   clear hX
   generalize (W.alloc (.cells #[.int .u32 t.c.id, .int .u32 t.c.sg, .int .u8 t.c.st, .bool t.c.cp, .bool t.c.dd, .slice (some ⟨b, off, none⟩) tn t.m, .int .i64 t.c.fs, .int .i64 t.c.sz] 47)).alloc (.cells #[.int .u8 0, .int .u8 0, .int .u8 0, .int .i64 0] 50) = V0 at *
   have HO : Hid (W.heap.size ≤ X + 1) := Lib.hid (by rw [HHX.out]; omega)
   generalize X + 1 = R at *
   have x5 := block_cell (j := 5) HX.out rfl
   have hq1 : (tn : Int) - 1 = (q : Int) := by have := HQ.out; omega
   go_upto_region 4 with (fail)
   clear c0 c1 c2 c3 x5 hq1 hw
   have hb1 : Below V0.heap.size V0 (V0.alloc (.cells #[.int .u8 k.1, .int .u8 k.2.1, .int .u8 k.2.2, .int .i64 dl] 50)) := (Below.refl _ _).alloc (Nat.le_refl _) _
   have HT := Lib.hid (alloc_block V0 (.cells #[.int .u8 k.1, .int .u8 k.2.1, .int .u8 k.2.2, .int .i64 dl] 50))
   have HR1 := Lib.hid (block_later HR.out hb1)
   have HB1 := Lib.hid (HB0.out.trans (hb1.mono HB0.out.size))
   obtain ⟨T, hT⟩ : ∃ T, V0.heap.size = T := ⟨_, rfl⟩
   rw [hT] at HT
   rw [hT]
   clear hb1 hT
   generalize V0.alloc (.cells #[.int .u8 k.1, .int .u8 k.2.1, .int .u8 k.2.2, .int .i64 dl] 50) = V1 at *
   obtain ⟨t0, t1, t2, t3⟩ := ov_cells HT.out
   obtain ⟨r0, r1, r2, r3⟩ := ov_cells HR1.out
   obtain ⟨f0, f1, f2, f3⟩ := ofree HR1.out
   by_cases hlt : dl < -9223372036854775807
   · have HE : Hid (z = (o0, false)) := Lib.hid (HZL.out.trans (if_pos hlt))
     have hd : (dl == -9223372036854775808) = true := by
      have h1 := HOQ.out.2
      unfold In64 at h1
      simp only at h1
      simp
      omega
     have HFS := Lib.hid (ostored (a' := .int .u8 0) (b' := .int .u8 0) (c' := .int .u8 0) (d' := .int .i64 0) HR1.out)
     have HGS := Lib.hid (okept HB1.out HO.out (.int .u8 0) (.int .u8 0) (.int .u8 0) (.int .i64 0))
     clear hlt hng
     go_wp2_with fail
     refine bodyPost_ret (v := .tuple #[.agg #[.int .u8 0, .int .u8 0, .int .u8 0, .int .i64 0], .bool false]) ?_ rfl ⟨by rw [HE.out] <;> rfl, HGS.out⟩
     exact results_oo rfl _ _ R _ rfl _ rfl rfl HFS.out
   · have HE : Hid (z = ((k, -dl), true)) := Lib.hid (HZL.out.trans (if_neg hlt))
     have hnn := hng hlt
     have hd : (dl == -9223372036854775808) = false := by
      simp
      omega
     have HFS := Lib.hid (ostored (a' := .int .u8 k.1) (b' := .int .u8 k.2.1) (c' := .int .u8 k.2.2) (d' := .int .i64 (-dl)) HR1.out)
     have HGS := Lib.hid (okept HB1.out HO.out (.int .u8 k.1) (.int .u8 k.2.1) (.int .u8 k.2.2) (.int .i64 (-dl)))
     clear hlt hng
     go_wp2_with fail
     refine bodyPost_ret (v := .tuple #[.agg #[.int .u8 k.1, .int .u8 k.2.1, .int .u8 k.2.2, .int .i64 (-dl)], .bool true]) ?_ rfl ⟨by rw [HE.out] <;> rfl, HGS.out⟩
     exact results_oo rfl _ _ R _ rfl _ rfl rfl HFS.out
end Go.Proofs.YtccgjdmbongbaaaGreatDoor
