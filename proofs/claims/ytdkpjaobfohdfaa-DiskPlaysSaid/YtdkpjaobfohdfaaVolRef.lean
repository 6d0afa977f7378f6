/- The document's volume: between, New. -/
import Derived.Test.YtdkpjaobfohdfaaVolTear
import Derived.Deep.RegionLaw
namespace Go.Proofs.Ytdkpjaobfohdfaa
open Go.RowKit Go.ChangeShapes Go.WideShapes
set_option linter.unusedVariables false
set_option maxRecDepth 10000
set_option linter.unusedSimpArgs false

theorem between_any (x hi : Int) (w : World) (h0 : 0 ≤ hi) : Calls Try.prog 45 #[.int .i64 x, .int .i64 0, .int .i64 hi] w fun e w' => e = .returned (.int .i64 (kp x hi : Nat)) ∧ w' = w := by
  have h1 : x < 0 → ((kp x hi : Nat) : Int) = 0 := by unfold kp; omega
  have h2 : hi < x → ((kp x hi : Nat) : Int) = hi := by unfold kp; omega
  have h3 : ¬ x < 0 → ¬ hi < x → ((kp x hi : Nat) : Int) = x := by unfold kp; omega
  generalize kp x hi = y at *
  have HH := Lib.hid (And.intro h1 (And.intro h2 h3))
  clear h1 h2 h3
  by_cases a1 : x < 0
  · go_enter Try.func45, Try.ntmps45
    go_wp2_with fail
    go_ret
    exact ⟨by rw [HH.out.1 a1]; rfl, rfl⟩
  · by_cases a2 : hi < x
    · go_enter Try.func45, Try.ntmps45
      go_wp2_with fail
      go_ret
      exact ⟨by rw [HH.out.2.1 a2]; rfl, rfl⟩
    · go_enter Try.func45, Try.ntmps45
      go_wp2_with fail
      go_ret
      exact ⟨by rw [HH.out.2.2 (by omega) (by omega)]; rfl, rfl⟩
theorem infoBytes : (Try.prog.info? 31).map (fun i => (i.zero, i.size, i.bytes)) = some (some (.slice none 0 0), 1, 24) := by kernel_rfl
/-- append of one slice of bytes onto a row of such that the call owns. -/
theorem wpList_append_sl {w : World} {ops : Array Oper} {rest : List Oper} {o : Oper} {a : Act} {Q : Exit → Act → World → Prop} (hgd : o.guard = none) (z : Nat) (s x : Operand)
    (ho : o.op = .call { callee := .builtin .append, args := #[s, x], argTypes := #[28, 28] })
    (base : Nat) (v : Value) (n : Nat) (M : List (Option Addr × Nat)) (hs : a.eval s = v) (hr : w.ownsRow base 31 1 v n (flatG (es z) M)) (hn : n ≤ 1000000) (e : Option Addr × Nat) (B : Nat)
    (hx : a.eval x = .slice (some ⟨B, 0, none⟩) 1 1) (hc : ∀ i u, (es z e)[i]? = some u → w.cell? ⟨B, i, none⟩ = some u) (hbase : base ≤ w.heap.size)
    (h : ∀ v' w', w'.ownsRow base 31 1 v' (n + 1) (flatG (es z) (M ++ [e])) → w.grownBy w' v.ownBlock → wpList Try.prog ops Q rest (a.put o.dst v') w') : wpList Try.prog ops Q (o :: rest) a w :=
  wpList_append_g (es_len z) (es_one z) (by decide) hgd s x _ _ ho Try.underlying28 _ 24 infoBytes rfl (by omega) base v n M hs hr hn e B hx hc hbase h
/-- append of one byte onto a row of bytes that the call owns. -/
theorem wpList_append_byte {w : World} {ops : Array Oper} {rest : List Oper} {o : Oper} {a : Act} {Q : Exit → Act → World → Prop} (hgd : o.guard = none) (s x : Operand)
    (ho : o.op = .call { callee := .builtin .append, args := #[s, x], argTypes := #[31, 31] })
    (base : Nat) (v : Value) (n : Nat) (M : List Int) (hs : a.eval s = v) (hr : w.ownsRow base 5 1 v n (flatG eb M)) (hn : n ≤ 1000000) (e : Int) (B : Nat)
    (hx : a.eval x = .slice (some ⟨B, 0, none⟩) 1 1) (hc : ∀ i u, (eb e)[i]? = some u → w.cell? ⟨B, i, none⟩ = some u) (hbase : base ≤ w.heap.size)
    (h : ∀ v' w', w'.ownsRow base 5 1 v' (n + 1) (flatG eb (M ++ [e])) → w.grownBy w' v.ownBlock → wpList Try.prog ops Q rest (a.put o.dst v') w') : wpList Try.prog ops Q (o :: rest) a w :=
  wpList_append_g eb_len eb_one (by decide) hgd s x _ _ ho Try.underlying31 _ 1 info_u8 rfl (by omega) base v n M hs hr hn e B hx hc hbase h
theorem step_append_sl {w : World} {ops : Array Oper} {o : Oper} {a : Act} {K : Act → World → Prop} {Q : Exit → Act → World → Prop} {E : Prop} (hgd : o.guard = none) (z : Nat) (s x : Operand)
    (ho : o.op = .call { callee := .builtin .append, args := #[s, x], argTypes := #[28, 28] })
    (base : Nat) (v : Value) (n : Nat) (M : List (Option Addr × Nat)) (hs : a.eval s = v) (hr : w.ownsRow base 31 1 v n (flatG (es z) M)) (hn : n ≤ 1000000) (e : Option Addr × Nat) (B : Nat)
    (hx : a.eval x = .slice (some ⟨B, 0, none⟩) 1 1) (hc : ∀ i u, (es z e)[i]? = some u → w.cell? ⟨B, i, none⟩ = some u) (hbase : base ≤ w.heap.size)
    (h : ∀ v' w', w'.ownsRow base 31 1 v' (n + 1) (flatG (es z) (M ++ [e])) → w.grownBy w' v.ownBlock → K (a.put o.dst v') w') :
    if Region.wanted o (yielded ops a.tmps) = true then Oper.wp Try.prog o a w K Q else E := by
  obtain ⟨i, hi, hz0, hz1, hz2⟩ := info_parts infoBytes
  have hw : Region.wanted o (yielded ops a.tmps) = true := by simp [Region.wanted, hgd]
  rw [if_pos hw]
  refine wp_append_own w s x _ ho base 31 i _ 1 24 Try.underlying28 hi hz0 hz1 hz2 rfl (by decide) v n (flatG (es z) M) hs hr ⟨B, 0, none⟩ 1 1 (es z e) hx rfl
    (fun j u hu => ?_) (es_one z e) (by unfold maxLen; omega) (by omega) hbase ?_
  · rw [Go.WideShapes.add_plain, Nat.zero_add]
    exact hc j u hu
  · intro v' w' g1 g2 _
    refine h v' w' ?_ g2
    rw [flatG_append, flatG_one]
    exact g1
theorem zeroV_more (n s : Nat) : zeroV (n + 1) s = zeroV n s ++ [List.replicate s 0] := by simp [zeroV, List.replicate_succ']
/-- A new row of bytes, and a row of one slice beside. -/
def wg1 (s : Nat) (w2 : World) : World := w2.alloc (.cells (vB (List.replicate s 0)).toArray 5)
def wg2 (s : Nat) (w2 : World) : World := (wg1 s w2).alloc (.cells #[.slice (some ⟨w2.heap.size, 0, none⟩) s s] 31)
theorem fill_zero {W0 wr : World} {Q : Nat → Prop} {base R s j c0 : Nat} {p0 : Option Addr} {L : List (Option Addr × Nat)} {V : List (List Int)} (h : Fi W0 wr Q base R s (.slice p0 j c0) L V) (hj : V.length = j) (hs : s ≤ 4096) :
    (wg2 s wr).drew.ownsRow base 31 1 (.slice p0 j c0) j (flatG (es s) L) ∧ (∀ i u, (es s (some ⟨wr.heap.size, 0, none⟩, s))[i]? = some u → (wg2 s wr).drew.cell? ⟨wr.heap.size + 1, i, none⟩ = some u) ∧ base ≤ (wg2 s wr).drew.heap.size ∧
    ((wg1 s wr).cell? ⟨R, 0, none⟩ = some (.slice p0 j c0) ∧ (wg2 s wr).cell? ⟨R, 0, none⟩ = some (.slice p0 j c0)) ∧
    ∀ v' w', w'.ownsRow base 31 1 v' (j + 1) (flatG (es s) (L ++ [(some ⟨wr.heap.size, 0, none⟩, s)])) → (wg2 s wr).drew.grownBy w' (Value.slice p0 j c0).ownBlock →
      w'.cell? ⟨R, 0, none⟩ = some (.slice p0 j c0) ∧ w'.frozen? ⟨R, 0, none⟩ = false ∧ Fi W0 (w'.setCell ⟨R, 0, none⟩ v') Q base R s v' (L ++ [(some ⟨wr.heap.size, 0, none⟩, s)]) (V ++ [List.replicate s 0]) := by
  have hb1 : Below wr.heap.size wr (wg1 s wr) := (Below.refl _ _).alloc (Nat.le_refl _) _
  have hsz : (wg1 s wr).heap.size = wr.heap.size + 1 := by simp [wg1]
  have hb2 : Below wr.heap.size wr (wg2 s wr).drew := (hb1.alloc (by omega) _).drew
  have h2 := h.later hb2
  have hrow1 : (wg1 s wr).heap[wr.heap.size]? = some (.cells (vB (List.replicate s 0)).toArray 5 (0, 0)) := alloc_block wr _
  have hrow : (wg2 s wr).drew.heap[wr.heap.size]? = some (.cells (vB (List.replicate s 0)).toArray 5 (0, 0)) := block_later hrow1 ((Below.refl _ _).alloc (Nat.le_refl _) _).drew
  have hbl := BL.of_row (n := s) (off := 0) (c := s) hrow (by simp) (Nat.le_refl _) (by unfold maxLen; omega)
  rw [List.drop_zero, List.take_of_length_le (by simp)] at hbl
  have hone := alloc_block (wg1 s wr) (.cells #[.slice (some ⟨wr.heap.size, 0, none⟩) s s] 31)
  rw [hsz] at hone
  refine ⟨hj ▸ h2.own, fun i u hu => ?_, h2.lo.2.2.1, ⟨block_cell (block_later h.blk hb1) rfl, block_cell (block_later h.blk (hb1.alloc (by omega) _)) rfl⟩, fun v' w' ho hg => ?_⟩
  · refine block_cell (w := (wg2 s wr).drew) hone ?_
    rw [List.getElem?_toArray]
    exact hu
  · refine h2.step (e := (some ⟨wr.heap.size, 0, none⟩, s)) hbl (fun a ha => ?_) (hj ▸ ho) hg
    cases ha
    have := h.lo
    have := h.below.size
    exact ⟨h.lo.2.2.2 _ h.below.size, _, hrow⟩
theorem refNew_start (w : World) (s : Nat) : Fi (w.alloc (.cells #[.slice none 0 0, .int .i64 0] 30)) ((w.alloc (.cells #[.slice none 0 0, .int .i64 0] 30)).alloc (.cells #[.slice none 0 0, .int .i64 (s : Nat)] 30)) (fun k => w.heap.size + 1 ≤ k) (w.heap.size + 2) (w.heap.size + 1) s (.slice none 0 0) [] [] := by
  have h1 : (w.alloc (.cells #[.slice none 0 0, .int .i64 0] 30)).heap.size = w.heap.size + 1 := by simp
  have hb := (Below.refl (w.alloc (.cells #[.slice none 0 0, .int .i64 0] 30)).heap.size (w.alloc (.cells #[.slice none 0 0, .int .i64 0] 30))).alloc (Nat.le_refl _) (.cells #[.slice none 0 0, .int .i64 (s : Nat)] 30)
  refine ⟨World.ownsRow_nil _ _ _ _, rfl, fun i hi => by simp at hi, (fun x hx => by cases hx), ?_, hb, by omega, by omega, by simp, fun k hk => by omega⟩
  have := alloc_block (w.alloc (.cells #[.slice none 0 0, .int .i64 0] 30)) (.cells #[.slice none 0 0, .int .i64 (s : Nat)] 30)
  rwa [h1] at this
set_option maxHeartbeats 2000000 in
set_option maxRecDepth 100000 in
theorem refnew_any (x y : Int) (w : World) : Calls Try.prog 20 #[.int .i64 x, .int .i64 y] w fun e w' => ∃ p c, e = .returned (.agg #[.slice p (kp x 1024) c, .int .i64 (kp y 4096 : Nat)]) ∧ RV w' (fun k => w.heap.size ≤ k) p c (kp y 4096) (zeroV (kp x 1024) (kp y 4096)) ∧ Below w.heap.size w w' := by
  have k1 := fun w => between_any x 1024 w (by omega)
  have k2 := fun w => between_any y 4096 w (by omega)
  have l1 := kp_le x 1024 (by omega)
  have l2 := kp_le y 4096 (by omega)
  generalize kp x 1024 = n at *
  generalize kp y 4096 = s at *
  have hmk := fun w => made_bytes s (by omega) w
  have HS0 := Lib.hid (refNew_start w s)
  have HW := Lib.hid ((Below.refl _ _).alloc (Nat.le_refl w.heap.size) (.cells #[.slice none 0 0, .int .i64 0] 30))
  have HA := Lib.hid (alloc_block w (.cells #[.slice none 0 0, .int .i64 0] 30))
  go_enter Try.func20, Try.ntmps20
  go_wp2_with fail
  refine (k2 _).mono ?_
  rintro e w' ⟨rfl, rfl⟩
  go_wp2_with fail
  generalize (w.alloc (.cells #[.slice none 0 0, .int .i64 0] 30)).alloc (.cells #[.slice none 0 0, .int .i64 (s : Nat)] 30) = W1 at *
  generalize w.alloc (.cells #[.slice none 0 0, .int .i64 0] 30) = W0 at *
  go_loopw [6] (fun i wr => ∃ (j : Nat) (v : Value) (L : List (Option Addr × Nat)), j ≤ n ∧ i = .int .i64 (j : Nat) ∧ Hid (Fi W0 wr (fun k => w.heap.size + 1 ≤ k) (w.heap.size + 2) (w.heap.size + 1) s v L (zeroV j s))) (fun i _ => n - (intOf i).toNat)
  case atStart => exact ⟨0, _, _, Nat.zero_le _, rfl, HS0⟩
  case round =>
    obtain ⟨j, v, L, hj, rfl, HF⟩ := hrel
    by_cases hlt : j < n
    · have hlt' : (j : Int) < n := by omega
      have hjm : j ≤ 1000000 := by omega
      obtain ⟨p0, c0, hv, _⟩ := HF.out.rv
      rw [zeroV_len] at hv
      subst hv
      have x0 := block_cell (j := 0) HF.out.blk (v := .slice p0 j c0) rfl
      have x1 := block_cell (j := 1) HF.out.blk (v := .int .i64 (s : Nat)) rfl
      obtain ⟨f1, f2, f3, ⟨f4, f5⟩, f6⟩ := fill_zero HF.out (zeroV_len j s) (by omega)
      have F1 := Lib.hid f1
      have F2 := Lib.hid f2
      have F3 := Lib.hid f3
      have F6 := Lib.hid f6
      have HM := Lib.hid (zeroV_more j s)
      clear f1 f2 f3 f6
      unfold wg2 at f5
      unfold wg1 at f4 f5
      go_wp2_with fail
      refine (k1 _).mono ?_
      rintro e w2 ⟨rfl, rfl⟩
      go_wp2_with fail
      go_region_law (first
        | (refine step_append_sl rfl s (.tmp 17) (.tmp 21) rfl (w.heap.size + 2) (.slice p0 j c0) j L (by simp [Act.eval]) F1.out hjm (some ⟨w2.heap.size, 0, none⟩, s) (w2.heap.size + 1) (by simp [Act.eval]) F2.out F3.out ?_; intro v1 w1 ho1 hg1; obtain ⟨y0, g0, HN⟩ := F6.out v1 w1 ho1 hg1; obtain ⟨p1, c1, rfl, _⟩ := SlG.of_own (d := d0) (es_len s) (by decide) ho1))
      all_goals
        rw [← HM.out] at HN
        have HN1 := Lib.hid HN
        clear HN ho1 hg1 y0 g0
        go_wp2_with fail
        go_roundw
        case rel => exact ⟨j + 1, _, _, by omega, by go_num, HN1⟩
        case measure => simp [intOf]; omega
    · obtain rfl : n = j := by omega
      obtain ⟨p0, c0, hv, hrv⟩ := HF.out.rv
      rw [zeroV_len] at hv
      subst hv
      have HRV := Lib.hid hrv
      have x0 := block_cell (j := 0) HF.out.blk (v := .slice p0 n c0) rfl
      have x1 := block_cell (j := 1) HF.out.blk (v := .int .i64 (s : Nat)) rfl
      have hsz0 := HA.out
      have hlt0 : w.heap.size < W0.heap.size := block_lt hsz0
      have hA : wr.heap[w.heap.size]? = some (.cells #[.slice none 0 0, .int .i64 0] 30 (0, 0)) := block_later hsz0 HF.out.below
      have y0 := block_cell (j := 0) hA (v := .slice none 0 0) rfl
      have y1 := block_cell (j := 1) hA (v := .int .i64 0) rfl
      have g0 := block_free 0 hA
      have g1 := block_free 1 hA
      have HX : Hid (((wr.setCell ⟨w.heap.size, 0, none⟩ (.slice p0 n c0)).setCell ⟨w.heap.size, 1, none⟩ (.int .i64 (s : Nat))).heap[w.heap.size]? = some (.cells #[.slice p0 n c0, .int .i64 (s : Nat)] 30 (0, 0))) := Lib.hid (block_put 1 _ (block_put 0 _ hA))
      have HC : Hid (Chg (fun k => k = w.heap.size) wr ((wr.setCell ⟨w.heap.size, 0, none⟩ (.slice p0 n c0)).setCell ⟨w.heap.size, 1, none⟩ (.int .i64 (s : Nat)))) := Lib.hid (((Chg.refl (fun k => k = w.heap.size) wr).setCell ⟨w.heap.size, 0, none⟩ _ fun _ => rfl).setCell ⟨w.heap.size, 1, none⟩ _ fun _ => rfl)
      clear hsz0 hlt0 hA hrv
      go_wp2_with fail
      refine (k1 _).mono ?_
      rintro e w2 ⟨rfl, rfl⟩
      go_wp2_with fail
      refine bodyPost_ret (v := .agg #[.slice p0 n c0, .int .i64 (s : Nat)]) ?_ rfl ?_
      · exact results_cell_row rfl _ _ w.heap.size 30 _ (0, 0) _ rfl HX.out Try.underlying30 rfl (by kernel_rfl)
      · refine ⟨p0, c0, rfl, ?_, ?_⟩
        · exact (HRV.out.keep HC.out fun k hk e => by omega).mono fun k hk _ => by omega
        · have hb := HW.out.trans (HF.out.below.mono HW.out.size)
          exact HC.out.below hb hb.size fun k hk => by omega
end Go.Proofs.Ytdkpjaobfohdfaa
