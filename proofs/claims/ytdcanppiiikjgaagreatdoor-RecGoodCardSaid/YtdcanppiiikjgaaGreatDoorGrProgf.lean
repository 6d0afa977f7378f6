/- Lists read: the program's way. -/
/- What is read fits its places; the state of a program that is being read. -/
/- What is encoded is decoded, and the other way round. Nothing of the program. -/
import Derived.Test.YtdcanppiiikjgaaGreatDoorGrProge
import Derived.Test.YtdcanppiiikjgaaGreatDoorGrProgb
import Derived.Test.YtdcanppiiikjgaaGreatDoorPgWell
import Derived.Test.YtdcanppiiikjgaaGreatDoorGrProgn
namespace Go.Proofs.YtdcanppiiikjgaaGreatDoor
open Go.RowKit Go.ChangeShapes Go.WideShapes
set_option linter.unusedVariables false
set_option linter.unusedSimpArgs false
set_option maxRecDepth 10000

theorem own_low {w w' : World} {N B X base : Nat} {T : TypeId} {k : Nat} {v : Value} {n : Nat} {xs : List Value} (h : w.ownsRow base T k v n xs) (hb : N ≤ base) (hl : B < N ∧ X < N) (hc : Chg (fun k => k = B ∨ k = X) w w') : w'.ownsRow base T k v n xs := by
  refine ⟨h.1, ?_⟩
  rcases h.2 with hn | ⟨g, cap, cur, rfl, h1, h2, h3⟩
  · exact .inl hn
  · exact .inr ⟨g, cap, cur, rfl, h1, (hc.block g (block_lt h2) (by omega)).trans h2, h3⟩
theorem tk_news (w : World) (x : Tk) : ∀ ad, (some (⟨w.heap.size, 0, none⟩ : Addr)) = some ad → ∀ j u, (flatG tkc [x])[j]? = some u → (w.alloc (.cells #[.int .u32 x.1, .int .u8 x.2.1, .int .u8 x.2.2.1, .int .i64 x.2.2.2] 87)).cell? (ad.add j) = some u := by
  intro ad he j u hu
  cases he
  rw [Go.WideShapes.add_plain, Nat.zero_add]
  refine block_cell (alloc_block w _) ?_
  rw [flatG_one] at hu
  simpa [tkc] using hu
set_option maxHeartbeats 8000000 in
theorem zlist_ln {w : World} {N B X : Nat} {m : Int} {S : St} (h : Zr w N B X m S) (most : Nat) (hmost : most ≤ 100) : Calls Tryz.prog 93 #[.pointer (some ⟨X, 0, none⟩), .int .i64 (most : Nat), .func (.func 94) #[.pointer (some ⟨X, 0, none⟩)] #[]] w fun e w' => ∃ p c, e = .returned (.slice p (listR lineR most S).1.2.length c) ∧ LL w' p (listR lineR most S).1.2.length c (listR lineR most S).1.2 ∧ (∀ a, p = some a → w.heap.size ≤ a.block) ∧ Zr w' N B X (if (listR lineR most S).2 = true then 8 else m) (listR lineR most S).1.1 ∧ Chg (fun k => k = B ∨ k = X) w w' := by
  have hn := z_num h 1
  have hlt := numR_fit h.bytes (n := 1) (by omega) (by omega)
  have hco : listR lineR most S = if most < (numR S 1).2 then (((numR S 1).1, []), true) else (manyR lineR (numR S 1).2 (numR S 1).1, false) := rfl
  rw [show (((1 : Nat) : Int)) = 1 from rfl] at hlt
  rw [hco]
  clear hco
  generalize numR S 1 = R at *
  obtain ⟨S1, n⟩ := R
  dsimp only at hn hlt ⊢
  have hwn : IntKind.i64.wrap ((n : Nat) : Int) = (n : Nat) := IntWalk.i64_in _ (by omega)
  have hwn2 : wrap64 ((n : Nat) : Int) = (n : Nat) := IntWalk.wrap64_in _ (by omega)
  have hNs := h.size
  have HLOW := Lib.hid h.low
  have x0 := h.c0
  clear h
  by_cases hmx : most < n
  case pos =>
    have d1 : decide ((most : Int) < n) = true := decide_eq_true (by omega)
    have d1n : decide (most < n) = true := decide_eq_true hmx
    rw [if_pos hmx]
    clear hmx
    go_enter Tryz.func93, Tryz.ntmps93
    go_wp2_with fail
    refine hn.mono ?_
    rintro e w1 ⟨rfl, hz, hc⟩
    have HZ := Lib.hid hz
    have HC := Lib.hid hc
    have HM := Lib.hid (hz.mark 8)
    have x1 := hz.c1
    have f1 := hz.free 1
    clear hn hz hc x0
    have x0 := HZ.out.c0
    go_wp2_with fail
    go_ret
    exact ⟨none, 0, rfl, SlG.empty _, (fun a ha => by cases ha), HM.out.1, low_trans HC.out HM.out.2⟩
  have d1 : decide ((most : Int) < n) = false := decide_eq_false (by omega)
  have d1n : decide (most < n) = false := decide_eq_false hmx
  rw [if_neg hmx]
  dsimp only
  rw [if_neg (show ¬ (false = true) by decide), manyR_len]
  have hn100 : n ≤ 100 := by omega
  clear hmx
  go_enter Tryz.func93, Tryz.ntmps93
  go_wp2_with fail
  refine hn.mono ?_
  rintro e w1 ⟨rfl, hz, hc⟩
  have HZ := Lib.hid hz
  have HC := Lib.hid hc
  clear hn hz hc x0
  go_wp2_with fail
  go_loopw [8, 22] (fun v i wr => ∃ j : Nat, j ≤ n ∧ i = .int .i64 j ∧ Hid (Zr wr N B X m (manyR lineR j S1).1) ∧ Hid (wr.ownsRow w.heap.size 110 2 v j (flatG lc (manyR lineR j S1).2)) ∧ Hid (Chg (fun k => k = B ∨ k = X) w wr)) (fun _ i _ => n - (Go.RowKit.intOf i).toNat)
  case atStart => exact ⟨0, Nat.zero_le _, rfl, HZ, Lib.hid (World.ownsRow_nil _ _ _ _), HC⟩
  case round =>
    obtain ⟨j, hj, rfl, HZj, HOj, HCj⟩ := hrel
    by_cases hltj : j < n
    case neg =>
      obtain rfl : n = j := by omega
      obtain ⟨pv, cv, hv, hs, hp⟩ := SlG.of_own (d := l0) lc_len (by decide) HOj.out
      subst hv
      have HS := Lib.hid hs
      have HP := Lib.hid hp
      clear hs hp
      go_wp2_with fail
      go_ret
      exact ⟨pv, cv, rfl, HS.out, HP.out, HZj.out, HCj.out⟩
    have hltj' : (j : Int) < n := by omega
    have hon := zline HZj.out
    have hstep : manyR lineR (j + 1) S1 = ((lineR (manyR lineR j S1).1).1, (manyR lineR j S1).2 ++ [(lineR (manyR lineR j S1).1).2]) := rfl
    have HST := Lib.hid hstep
    have hml := manyR_len (f := lineR) S1 j
    have HML := Lib.hid hml
    change Calls _ _ _ _ (fun e w' => e = .returned (.agg #[.int .u8 (lineR (manyR lineR j S1).1).2.1, .int .i64 (lineR (manyR lineR j S1).1).2.2]) ∧ Zr w' N B X m (lineR (manyR lineR j S1).1).1 ∧ Chg (fun k => k = B ∨ k = X) wr w') at hon
    clear hstep hml
    generalize lineR (manyR lineR j S1).1 = Q at *
    obtain ⟨S2, x⟩ := Q
    generalize manyR lineR j S1 = Mj at *
    obtain ⟨Sj, Lj⟩ := Mj
    dsimp only at hon HST HML HZj HOj
    obtain ⟨w2, hw2⟩ : ∃ x, x = wr := ⟨_, rfl⟩
    subst hw2
    go_wp2_with fail
    refine hon.mono ?_
    rintro e w3 ⟨rfl, hz3, hc3⟩
    have hO3 := own_low HOj.out hNs HLOW.out hc3
    have hba : Below w3.heap.size w3 (w3.alloc (.cells #[.int .u8 x.1, .int .i64 x.2] 110)) := (Below.refl _ _).alloc (Nat.le_refl _) _
    have HZ3 := Lib.hid (hz3.below hba)
    have HC3 := Lib.hid (low_trans HCj.out (low_trans hc3 (low_below hba)))
    have HO3 := Lib.hid (own_zero (hO3.alloc (.cells #[.int .u8 x.1, .int .i64 x.2] 110)))
    have HOB := Lib.hid hO3
    clear hon hz3 hc3 hba hO3
    go_wp2_with (at_builtin; refine wpList_append_vals (k := 2) (by decide) Tryz.underlying25 info_ln rfl (by omega) rfl _ _ rfl u8 j (flatG lc Lj) rfl HO3.out (some ⟨w3.heap.size, 0, none⟩) 1 1 (flatG lc [x]) rfl rfl (fun h => by cases h) (line_news w3 x) (flatG_all lc_one _) (by omega) ?_; intro p4 c4 w4 g1 g2 g3)
    have hbase : ∀ b, (Value.slice p4 (j + 1) c4).ownBlock = some b → w.heap.size ≤ b := fun b hb => by
      rcases g3 b hb with hk | hk
      · exact (HOB.out.lt b hk).1
      · have := HC3.out.size; omega
    rw [← flatG_append] at g1
    have HO4 := Lib.hid (own_since g1 hbase)
    have hc4 : Chg (fun k => N ≤ k) _ w4 := g2.mono fun b _ hb => by have := (HOB.out.lt b hb).1; omega
    have HZ4 := Lib.hid (HZ3.out.later hc4)
    have HC4 : Hid (Chg (fun k => k = B ∨ k = X) w w4) := Lib.hid ⟨g2.os.trans HC3.out.os, g2.tape.trans HC3.out.tape, g2.output.trans HC3.out.output, Nat.le_trans HC3.out.size g2.size, fun b hb hn => (g2.block b (Nat.lt_of_lt_of_le hb HC3.out.size) fun hk => by have := (HOB.out.lt b hk).1; omega).trans (HC3.out.block b hb hn)⟩
    clear g1 g2 g3 hbase hc4
    go_roundw
    case rel => exact ⟨j + 1, by omega, by go_num, Lib.hid (by rw [HST.out]; exact HZ4.out), Lib.hid (by rw [HST.out]; exact HO4.out), HC4⟩
    case measure => simp [Go.RowKit.intOf]; omega
set_option maxHeartbeats 8000000 in
theorem zlist_tk {w : World} {N B X : Nat} {m : Int} {S : St} (h : Zr w N B X m S) (most : Nat) (hmost : most ≤ 100) : Calls Tryz.prog 95 #[.pointer (some ⟨X, 0, none⟩), .int .i64 (most : Nat), .func (.func 96) #[.pointer (some ⟨X, 0, none⟩)] #[]] w fun e w' => ∃ p c, e = .returned (.slice p (listR tkR most S).1.2.length c) ∧ TKL w' p (listR tkR most S).1.2.length c (listR tkR most S).1.2 ∧ (∀ a, p = some a → w.heap.size ≤ a.block) ∧ Zr w' N B X (if (listR tkR most S).2 = true then 8 else m) (listR tkR most S).1.1 ∧ Chg (fun k => k = B ∨ k = X) w w' := by
  have hn := z_num h 1
  have hlt := numR_fit h.bytes (n := 1) (by omega) (by omega)
  have hco : listR tkR most S = if most < (numR S 1).2 then (((numR S 1).1, []), true) else (manyR tkR (numR S 1).2 (numR S 1).1, false) := rfl
  rw [show (((1 : Nat) : Int)) = 1 from rfl] at hlt
  rw [hco]
  clear hco
  generalize numR S 1 = R at *
  obtain ⟨S1, n⟩ := R
  dsimp only at hn hlt ⊢
  have hwn : IntKind.i64.wrap ((n : Nat) : Int) = (n : Nat) := IntWalk.i64_in _ (by omega)
  have hwn2 : wrap64 ((n : Nat) : Int) = (n : Nat) := IntWalk.wrap64_in _ (by omega)
  have hNs := h.size
  have HLOW := Lib.hid h.low
  have x0 := h.c0
  clear h
  by_cases hmx : most < n
  case pos =>
    have d1 : decide ((most : Int) < n) = true := decide_eq_true (by omega)
    have d1n : decide (most < n) = true := decide_eq_true hmx
    rw [if_pos hmx]
    clear hmx
    go_enter Tryz.func95, Tryz.ntmps95
    go_wp2_with fail
    refine hn.mono ?_
    rintro e w1 ⟨rfl, hz, hc⟩
    have HZ := Lib.hid hz
    have HC := Lib.hid hc
    have HM := Lib.hid (hz.mark 8)
    have x1 := hz.c1
    have f1 := hz.free 1
    clear hn hz hc x0
    have x0 := HZ.out.c0
    go_wp2_with fail
    go_ret
    exact ⟨none, 0, rfl, SlG.empty _, (fun a ha => by cases ha), HM.out.1, low_trans HC.out HM.out.2⟩
  have d1 : decide ((most : Int) < n) = false := decide_eq_false (by omega)
  have d1n : decide (most < n) = false := decide_eq_false hmx
  rw [if_neg hmx]
  dsimp only
  rw [if_neg (show ¬ (false = true) by decide), manyR_len]
  have hn100 : n ≤ 100 := by omega
  clear hmx
  go_enter Tryz.func95, Tryz.ntmps95
  go_wp2_with fail
  refine hn.mono ?_
  rintro e w1 ⟨rfl, hz, hc⟩
  have HZ := Lib.hid hz
  have HC := Lib.hid hc
  clear hn hz hc x0
  go_wp2_with fail
  go_loopw [8, 22] (fun v i wr => ∃ j : Nat, j ≤ n ∧ i = .int .i64 j ∧ Hid (Zr wr N B X m (manyR tkR j S1).1) ∧ Hid (wr.ownsRow w.heap.size 87 4 v j (flatG tkc (manyR tkR j S1).2)) ∧ Hid (Chg (fun k => k = B ∨ k = X) w wr)) (fun _ i _ => n - (Go.RowKit.intOf i).toNat)
  case atStart => exact ⟨0, Nat.zero_le _, rfl, HZ, Lib.hid (World.ownsRow_nil _ _ _ _), HC⟩
  case round =>
    obtain ⟨j, hj, rfl, HZj, HOj, HCj⟩ := hrel
    by_cases hltj : j < n
    case neg =>
      obtain rfl : n = j := by omega
      obtain ⟨pv, cv, hv, hs, hp⟩ := SlG.of_own (d := tk0) tkc_len (by decide) HOj.out
      subst hv
      have HS := Lib.hid hs
      have HP := Lib.hid hp
      clear hs hp
      go_wp2_with fail
      go_ret
      exact ⟨pv, cv, rfl, HS.out, HP.out, HZj.out, HCj.out⟩
    have hltj' : (j : Int) < n := by omega
    have hon := ztake HZj.out
    have hstep : manyR tkR (j + 1) S1 = ((tkR (manyR tkR j S1).1).1, (manyR tkR j S1).2 ++ [(tkR (manyR tkR j S1).1).2]) := rfl
    have HST := Lib.hid hstep
    have hml := manyR_len (f := tkR) S1 j
    have HML := Lib.hid hml
    change Calls _ _ _ _ (fun e w' => e = .returned (.agg #[.int .u32 (tkR (manyR tkR j S1).1).2.1, .int .u8 (tkR (manyR tkR j S1).1).2.2.1, .int .u8 (tkR (manyR tkR j S1).1).2.2.2.1, .int .i64 (tkR (manyR tkR j S1).1).2.2.2.2]) ∧ Zr w' N B X m (tkR (manyR tkR j S1).1).1 ∧ Chg (fun k => k = B ∨ k = X) wr w') at hon
    clear hstep hml
    generalize tkR (manyR tkR j S1).1 = Q at *
    obtain ⟨S2, x⟩ := Q
    generalize manyR tkR j S1 = Mj at *
    obtain ⟨Sj, Lj⟩ := Mj
    dsimp only at hon HST HML HZj HOj
    obtain ⟨w2, hw2⟩ : ∃ x, x = wr := ⟨_, rfl⟩
    subst hw2
    go_wp2_with fail
    refine hon.mono ?_
    rintro e w3 ⟨rfl, hz3, hc3⟩
    have hO3 := own_low HOj.out hNs HLOW.out hc3
    have hba : Below w3.heap.size w3 (w3.alloc (.cells #[.int .u32 x.1, .int .u8 x.2.1, .int .u8 x.2.2.1, .int .i64 x.2.2.2] 87)) := (Below.refl _ _).alloc (Nat.le_refl _) _
    have HZ3 := Lib.hid (hz3.below hba)
    have HC3 := Lib.hid (low_trans HCj.out (low_trans hc3 (low_below hba)))
    have HO3 := Lib.hid (own_zero (hO3.alloc (.cells #[.int .u32 x.1, .int .u8 x.2.1, .int .u8 x.2.2.1, .int .i64 x.2.2.2] 87)))
    have HOB := Lib.hid hO3
    clear hon hz3 hc3 hba hO3
    go_wp2_with (at_builtin; refine wpList_append_vals (k := 4) (by decide) Tryz.underlying26 info_tk rfl (by omega) rfl _ _ rfl u8 j (flatG tkc Lj) rfl HO3.out (some ⟨w3.heap.size, 0, none⟩) 1 1 (flatG tkc [x]) rfl rfl (fun h => by cases h) (tk_news w3 x) (flatG_all tkc_one _) (by omega) ?_; intro p4 c4 w4 g1 g2 g3)
    have hbase : ∀ b, (Value.slice p4 (j + 1) c4).ownBlock = some b → w.heap.size ≤ b := fun b hb => by
      rcases g3 b hb with hk | hk
      · exact (HOB.out.lt b hk).1
      · have := HC3.out.size; omega
    rw [← flatG_append] at g1
    have HO4 := Lib.hid (own_since g1 hbase)
    have hc4 : Chg (fun k => N ≤ k) _ w4 := g2.mono fun b _ hb => by have := (HOB.out.lt b hb).1; omega
    have HZ4 := Lib.hid (HZ3.out.later hc4)
    have HC4 : Hid (Chg (fun k => k = B ∨ k = X) w w4) := Lib.hid ⟨g2.os.trans HC3.out.os, g2.tape.trans HC3.out.tape, g2.output.trans HC3.out.output, Nat.le_trans HC3.out.size g2.size, fun b hb hn => (g2.block b (Nat.lt_of_lt_of_le hb HC3.out.size) fun hk => by have := (HOB.out.lt b hk).1; omega).trans (HC3.out.block b hb hn)⟩
    clear g1 g2 g3 hbase hc4
    go_roundw
    case rel => exact ⟨j + 1, by omega, by go_num, Lib.hid (by rw [HST.out]; exact HZ4.out), Lib.hid (by rw [HST.out]; exact HO4.out), HC4⟩
    case measure => simp [Go.RowKit.intOf]; omega
end Go.Proofs.YtdcanppiiikjgaaGreatDoor
namespace Go.Proofs.YtdcanppiiikjgaaGreatDoor
open Go.RowKit Go.ChangeShapes Go.WideShapes
set_option linter.unusedVariables false
set_option linter.unusedSimpArgs false
set_option maxRecDepth 10000

abbrev By (S : St) : Prop := ∀ y ∈ S.2, y < 256
theorem fit1 {S : St} (h : By S) : (numR S 1).2 < 256 := numR_fit h (n := 1) (by omega) (by omega)
theorem fit4 {S : St} (h : By S) : (numR S 4).2 < 4294967296 := numR_fit h (n := 4) (by omega) (by omega)
theorem fit8 {S : St} (h : By S) : (numR S 8).2 < 18446744073709551616 := numR_fit h (n := 8) (by omega) (by omega)
theorem lineR_by {S : St} (h : By S) : By (lineR S).1 := numR_bytes (numR_bytes h 1) 8
theorem tkR_by {S : St} (h : By S) : By (tkR S).1 := numR_bytes (numR_bytes (numR_bytes (numR_bytes h 4) 1) 1) 8
theorem lineR_ok {S : St} (h : By S) : Lnok (lineR S).2 := ⟨⟨by show (0 : Int) ≤ ((numR S 1).2 : Nat); omega, by have := fit1 h; show (((numR S 1).2 : Nat) : Int) ≤ 255; omega⟩, sgn_in (fit8 (numR_bytes h 1))⟩
theorem tkR_ok {S : St} (h : By S) : Tkok (tkR S).2 := by
  have h1 := fit4 h
  have h2 := fit1 (numR_bytes h 4)
  have h3 := fit1 (numR_bytes (numR_bytes h 4) 1)
  exact ⟨⟨by show (0 : Int) ≤ ((numR S 4).2 : Nat); omega, by show (((numR S 4).2 : Nat) : Int) ≤ 4294967295; omega⟩, ⟨by show (0 : Int) ≤ ((numR (numR S 4).1 1).2 : Nat); omega, by show (((numR (numR S 4).1 1).2 : Nat) : Int) ≤ 255; omega⟩, ⟨by show (0 : Int) ≤ ((numR (numR (numR S 4).1 1).1 1).2 : Nat); omega, by show (((numR (numR (numR S 4).1 1).1 1).2 : Nat) : Int) ≤ 255; omega⟩, sgn_in (fit8 (numR_bytes (numR_bytes (numR_bytes h 4) 1) 1))⟩
theorem manyR_by {α : Type} {f : St → St × α} (hf : ∀ S, By S → By (f S).1) {S : St} (h : By S) : ∀ n, By (manyR f n S).1
  | 0 => h
  | n + 1 => hf _ (manyR_by hf h n)
theorem manyR_all {α : Type} {f : St → St × α} {Q : α → Prop} (hf : ∀ S, By S → By (f S).1) (hq : ∀ S, By S → Q (f S).2) {S : St} (h : By S) : ∀ n, ∀ x ∈ (manyR f n S).2, Q x
  | 0, x, hx => by cases hx
  | n + 1, x, hx => by
    have hx : x ∈ (manyR f n S).2 ++ [(f (manyR f n S).1).2] := hx
    rcases List.mem_append.1 hx with hx | hx
    · exact manyR_all hf hq h n x hx
    · obtain rfl := List.mem_singleton.1 hx
      exact hq _ (manyR_by hf h n)
theorem listR_by {α : Type} {f : St → St × α} (hf : ∀ S, By S → By (f S).1) (most : Nat) {S : St} (h : By S) : By (listR f most S).1.1 := by
  unfold listR
  split
  · exact numR_bytes h 1
  · exact manyR_by hf (numR_bytes h 1) _
theorem listR_all {α : Type} {f : St → St × α} {Q : α → Prop} (hf : ∀ S, By S → By (f S).1) (hq : ∀ S, By S → Q (f S).2) (most : Nat) {S : St} (h : By S) : ∀ x ∈ (listR f most S).1.2, Q x := by
  unfold listR
  split
  · intro x hx; cases hx
  · exact manyR_all hf hq (numR_bytes h 1) _
theorem listR_most {α : Type} (f : St → St × α) (most : Nat) (S : St) : (listR f most S).1.2.length ≤ most := by
  unfold listR
  split
  · exact Nat.zero_le _
  · rename_i h
    dsimp only
    rw [manyR_len]
    omega
/-- The cells of nothing. -/
abbrev zc : Array Value := #[.int .u8 0, .int .u32 0, .int .u8 0, .slice none 0 0, .slice none 0 0, .slice none 0 0, .int .u8 0, .int .u8 0, .int .u8 0, .int .i64 0]
/-- A program that is being read: the reader, the program's box Y, the result's box R. -/
structure Dz (W w : World) (N B X Y R : Nat) (m : Int) (S : St) (C : Array Value) : Prop where
  z : Zr w N B X m S
  y : w.heap[Y]? = some (.cells C 28 (0, 0))
  r : w.heap[R]? = some (.cells zc 28 (0, 0))
  yn : N ≤ Y
  rn : R ≠ B ∧ R ≠ X ∧ R < N
  below : Below W.heap.size W w
  base : W.heap.size ≤ B ∧ W.heap.size ≤ X ∧ W.heap.size ≤ R
theorem Dz.low {W w w' : World} {N B X Y R : Nat} {m m' : Int} {S S' : St} {C : Array Value} (h : Dz W w N B X Y R m S C) (hz : Zr w' N B X m' S') (hc : Chg (fun k => k = B ∨ k = X) w w') : Dz W w' N B X Y R m' S' C := by
  have hl := h.z.low
  have hy := h.yn
  obtain ⟨h1, h2, h3⟩ := h.rn
  obtain ⟨b1, b2, b3⟩ := h.base
  exact ⟨hz, (hc.block Y (block_lt h.y) (by omega)).trans h.y, (hc.block R (block_lt h.r) (by omega)).trans h.r, hy, h.rn, Chg.below h.below h.below.size hc fun k hk => by rcases hk with rfl | rfl <;> assumption, h.base⟩
theorem Dz.put {W w : World} {N B X Y R : Nat} {m : Int} {S : St} {C : Array Value} (h : Dz W w N B X Y R m S C) (j : Nat) (v : Value) : Dz W (w.setCell ⟨Y, j, none⟩ v) N B X Y R m S (C.setIfInBounds j v) := by
  have hl := h.z.low
  have hy := h.yn
  have hs := h.z.size
  obtain ⟨h1, h2, h3⟩ := h.rn
  obtain ⟨b1, b2, b3⟩ := h.base
  have hc : Chg (fun k => k = Y) w (w.setCell ⟨Y, j, none⟩ v) := (Chg.refl _ _).setCell ⟨Y, j, none⟩ _ fun _ => rfl
  exact ⟨h.z.later (hc.mono fun k _ hk => by omega), block_put j v h.y, (hc.block R (block_lt h.r) (by omega)).trans h.r, hy, h.rn, Chg.below h.below h.below.size hc fun k hk => by omega, h.base⟩
theorem Dz.keep {W w w' : World} {N B X Y R : Nat} {m : Int} {S : St} {C : Array Value} (h : Dz W w N B X Y R m S C) (hb : Below w.heap.size w w') : Dz W w' N B X Y R m S C :=
  ⟨h.z.below hb, block_later h.y hb, block_later h.r hb, h.yn, h.rn, h.below.trans (hb.mono h.below.size), h.base⟩
theorem Dz.cy {W w : World} {N B X Y R : Nat} {m : Int} {S : St} {C : Array Value} (h : Dz W w N B X Y R m S C) {j : Nat} {v : Value} (hj : C[j]? = some v) : w.cell? ⟨Y, j, none⟩ = some v ∧ w.frozen? ⟨Y, j, none⟩ = false := ⟨block_cell h.y hj, block_free j h.y⟩
/-- A list that was read lies behind the program's box. -/
def Far (Y : Nat) (p : Option Addr) : Prop := ∀ a, p = some a → Y < a.block
theorem far_low {α : Type} {enc : α → List Value} {k : Nat} {d : α} {W w w' : World} {N B X Y R : Nat} {m : Int} {S : St} {C : Array Value} {p : Option Addr} {n c : Nat} {L : List α} (h : Dz W w N B X Y R m S C) (hf : Far Y p) (hl : SlG enc k d w p n c L) (hc : Chg (fun k => k = B ∨ k = X) w w') : SlG enc k d w' p n c L :=
  hl.turn hc.size fun _ a ha hlt => hc.block a.block hlt (by have := hf a ha; have := h.z.low; have := h.yn; omega)
theorem far_put {α : Type} {enc : α → List Value} {k : Nat} {d : α} {w : World} {Y : Nat} {p : Option Addr} {n c : Nat} {L : List α} (hf : Far Y p) (hl : SlG enc k d w p n c L) (j : Nat) (v : Value) : SlG enc k d (w.setCell ⟨Y, j, none⟩ v) p n c L :=
  hl.turn (by simp [World.setCell]) fun _ a ha _ => Below.heap_setCell _ _ _ _ (by have := hf a ha; show a.block ≠ Y; omega)
/-- The errors' first that is one. -/
theorem or_errno (b : Nat) (x y : Int) (w : World) (h0 : w.cell? ⟨b, 0, none⟩ = some (.int .i64 x)) (h1 : w.cell? ⟨b, 1, none⟩ = some (.int .i64 y)) : Calls Tryz.prog 60 #[.slice (some ⟨b, 0, none⟩) 2 2] w fun e w' => e = .returned (.int .i64 (if x ≠ 0 then x else y)) ∧ Below w.heap.size w w' := by
  obtain ⟨r, hr⟩ : ∃ r, (if x ≠ 0 then x else y) = r := ⟨_, rfl⟩
  have HRR := Lib.hid hr
  rw [hr]
  clear hr
  have HV : Hid (∀ j : Nat, j < 2 → ∀ w', Below w.heap.size w w' → w'.cell? ⟨b, j, none⟩ = some (.int .i64 (if j = 0 then x else y))) := Lib.hid fun j hj w' hb => by
    rcases (by omega : j = 0 ∨ j = 1) with rfl | rfl
    · exact (hb.cell (p := ⟨b, 0, none⟩) (World.block_lt_of_cell? _ _ h0)).trans h0
    · exact (hb.cell (p := ⟨b, 1, none⟩) (World.block_lt_of_cell? _ _ h1)).trans h1
  clear h0 h1
  go_enter Tryz.func60, Tryz.ntmps60
  go_wp2_with fail
  go_loopw [8] (fun i wr => ∃ j : Nat, j ≤ 2 ∧ i = .int .i64 j ∧ Hid (Below w.heap.size w wr) ∧ Hid (∀ i, i < j → (if i = 0 then x else y) = 0)) (fun i _ => 2 - (Go.RowKit.intOf i).toNat)
  case atStart => exact ⟨0, Nat.zero_le _, rfl, Lib.hid (Below.refl _ _), Lib.hid fun i hi => by omega⟩
  case round =>
    obtain ⟨j, hj, rfl, HW, HE⟩ := hrel
    by_cases hlt : j < 2
    case neg =>
      obtain rfl : j = 2 := by omega
      have e0 := HE.out 0 (by omega)
      have e1 := HE.out 1 (by omega)
      rw [if_pos rfl] at e0
      rw [if_neg (by decide)] at e1
      have HR : Hid (r = 0) := Lib.hid (by rw [← HRR.out, e0, e1]; rfl)
      clear e0 e1
      go_wp2_with fail
      go_ret
      exact ⟨by rw [HR.out]; rfl, HW.out⟩
    have hlt' : (j : Int) < 2 := by omega
    have k0 := HV.out j hlt wr HW.out
    have HO : Hid ((if j = 0 then x else y) ≠ 0 → r = (if j = 0 then x else y)) := Lib.hid fun hne => by
      rw [← HRR.out]
      by_cases hj0 : j = 0
      · rw [if_pos hj0] at hne ⊢
        rw [if_pos hne]
      · have e0 := HE.out 0 (by omega)
        rw [if_pos rfl] at e0
        rw [if_neg hj0, if_neg (by simp [e0])]
    generalize hz : (if j = 0 then x else y) = z at *
    have HZ := Lib.hid hz
    clear hz
    by_cases h0 : z = 0
    · have d : (z != 0) = false := by simp [h0]
      have H0 := Lib.hid h0
      clear h0
      go_wp2_with fail
      go_roundw
      case rel =>
        refine ⟨j + 1, by omega, by go_num, HW, Lib.hid fun i hi => ?_⟩
        by_cases e : i = j
        · subst e; rw [HZ.out]; exact H0.out
        · exact HE.out i (by omega)
      case measure => simp [Go.RowKit.intOf]; omega
    · have d : (z != 0) = true := by simpa using h0
      have HR := Lib.hid (HO.out h0)
      go_wp2_with fail
      go_ret
      exact ⟨by rw [HR.out]; rfl, HW.out⟩
end Go.Proofs.YtdcanppiiikjgaaGreatDoor
namespace Go.Proofs.YtdcanppiiikjgaaGreatDoor
open Go.RowKit
set_option linter.unusedVariables false
set_option maxRecDepth 10000

theorem numR_put (x n : Nat) (r : List Nat) (h1 : 1 ≤ n) (h8 : n ≤ 8) (hx : x < 256 ^ n) : numR (0, le x n ++ r) n = ((0, r), x) := by
  unfold numR takeR
  rw [if_pos ⟨by omega, by omega⟩, Int.toNat_natCast, if_pos rfl]
  dsimp only
  rw [if_neg (by rw [List.length_append, le_len]; omega)]
  dsimp only
  rw [List.drop_left' (le_len n x), List.take_left' (le_len n x), un_le, Nat.mod_eq_of_lt hx]
theorem numR_split {S : St} (hB : By S) {n : Nat} (h1 : 1 ≤ n) (h8 : n ≤ 8) (h : (numR S n).1.1 = 0) : S.1 = 0 ∧ S.2 = le (numR S n).2 n ++ (numR S n).1.2 := by
  obtain ⟨e, L⟩ := S
  by_cases h0 : e = 0
  · subst h0
    refine ⟨rfl, ?_⟩
    unfold numR takeR at *
    rw [if_pos ⟨by omega, by omega⟩, Int.toNat_natCast, if_pos rfl] at *
    dsimp only at *
    split at h
    · have h6 : (6 : Int) = 0 := h
      exact absurd h6 (by decide)
    · rename_i hl
      rw [if_neg hl]
      dsimp only
      have hl2 : (L.take n).length = n := by rw [List.length_take]; omega
      have h3 := le_un (L.take n) (fun y hy => hB y (List.mem_of_mem_take hy))
      rw [hl2] at h3
      rw [h3, List.take_append_drop]
  · rw [numR_bad (S := (e, L)) h0 ⟨by omega, by omega⟩] at h
    exact absurd h h0
theorem lineR_le (x : Ln) (r : List Nat) (hx : Lnok x) : lineR (0, lnB x ++ r) = ((0, r), x) := by
  obtain ⟨a, q⟩ := x
  obtain ⟨⟨h1, h2⟩, h3⟩ := hx
  dsimp only at h1 h2 h3
  unfold lineR lnB
  dsimp only
  rw [List.append_assoc]
  have e1 := numR_put a.toNat 1 (le (u64 q) 8 ++ r) (by omega) (by omega) (by omega)
  have e2 := numR_put (u64 q) 8 r (by omega) (by omega) (u64_lt q)
  rw [show (((1 : Nat) : Int)) = 1 from rfl] at e1
  rw [show (((8 : Nat) : Int)) = 8 from rfl] at e2
  rw [e1]
  dsimp only
  rw [e2]
  dsimp only
  rw [sgn_u64 h3, Int.toNat_of_nonneg h1]
theorem tkR_le (x : Tk) (r : List Nat) (hx : Tkok x) : tkR (0, tkBy x ++ r) = ((0, r), x) := by
  obtain ⟨o, a, v, q⟩ := x
  obtain ⟨⟨o1, o2⟩, ⟨a1, a2⟩, ⟨v1, v2⟩, h3⟩ := hx
  dsimp only at o1 o2 a1 a2 v1 v2 h3
  unfold tkR tkBy
  dsimp only
  rw [List.append_assoc, List.append_assoc, List.append_assoc]
  have e0 := numR_put o.toNat 4 (le a.toNat 1 ++ (le v.toNat 1 ++ (le (u64 q) 8 ++ r))) (by omega) (by omega) (by omega)
  have e1 := numR_put a.toNat 1 (le v.toNat 1 ++ (le (u64 q) 8 ++ r)) (by omega) (by omega) (by omega)
  have e2 := numR_put v.toNat 1 (le (u64 q) 8 ++ r) (by omega) (by omega) (by omega)
  have e3 := numR_put (u64 q) 8 r (by omega) (by omega) (u64_lt q)
  rw [show (((4 : Nat) : Int)) = 4 from rfl] at e0
  rw [show (((1 : Nat) : Int)) = 1 from rfl] at e1 e2
  rw [show (((8 : Nat) : Int)) = 8 from rfl] at e3
  rw [e0]
  dsimp only
  rw [e1]
  dsimp only
  rw [e2]
  dsimp only
  rw [e3]
  dsimp only
  rw [sgn_u64 h3, Int.toNat_of_nonneg o1, Int.toNat_of_nonneg a1, Int.toNat_of_nonneg v1]
theorem many_le {α : Type} {f : St → St × α} {g : α → List Nat} {Q : α → Prop} (hf : ∀ x r, Q x → f (0, g x ++ r) = ((0, r), x)) (d : α) (L : List α) (hQ : ∀ x ∈ L, Q x) (r : List Nat) : ∀ n, n ≤ L.length → manyR f n (0, L.flatMap g ++ r) = ((0, (L.drop n).flatMap g ++ r), L.take n)
  | 0, _ => rfl
  | n + 1, h => by
    have ih := many_le hf d L hQ r n (by omega)
    have hd : L.drop n = L[n] :: L.drop (n + 1) := List.drop_eq_getElem_cons (by omega)
    show ((f (manyR f n (0, L.flatMap g ++ r)).1).1, (manyR f n (0, L.flatMap g ++ r)).2 ++ [(f (manyR f n (0, L.flatMap g ++ r)).1).2]) = _
    rw [ih]
    dsimp only
    rw [hd, List.flatMap_cons, List.append_assoc, hf _ _ (hQ _ (List.getElem_mem _))]
    dsimp only
    rw [List.take_add_one, List.getElem?_eq_getElem (by omega)]
    rfl
theorem list_le {α : Type} {f : St → St × α} {g : α → List Nat} {Q : α → Prop} (hf : ∀ x r, Q x → f (0, g x ++ r) = ((0, r), x)) (d : α) (most : Nat) (L : List α) (hQ : ∀ x ∈ L, Q x) (r : List Nat) (hl : L.length ≤ most) (hm : most ≤ 100) : listR f most (0, le L.length 1 ++ L.flatMap g ++ r) = (((0, r), L), false) := by
  unfold listR
  have e := numR_put L.length 1 (L.flatMap g ++ r) (by omega) (by omega) (by omega)
  rw [show (((1 : Nat) : Int)) = 1 from rfl] at e
  rw [List.append_assoc, e]
  dsimp only
  rw [if_neg (by omega), many_le hf d L hQ r L.length (Nat.le_refl _), List.drop_length, List.take_length]
  rfl
/-- What is encoded is decoded as it was. -/
theorem dec_enc {P : Pg} (hg : goodP 4 4 P = true) (hok : Pgok P) : decP (bytesP P) = (0, P) := by
  obtain ⟨s1, s2, s3⟩ := good_small hg
  obtain ⟨k, od, po, L, T, M, sk, fr, to, q⟩ := P
  have hk := hok.kind
  have ho := hok.order
  have hp := hok.policy
  have h6 := hok.sku
  have h7 := hok.frm
  have h8 := hok.to
  have h9 := hok.qty
  dsimp only at s1 s2 s3 hk ho hp h6 h7 h8 h9
  have hdec : decR (bytesP ⟨k, od, po, L, T, M, sk, fr, to, q⟩) = ⟨(0, []), ⟨k, od, po, L, T, M, sk, fr, to, q⟩, false⟩ := by
    unfold decR bytesP lnsB tksB
    dsimp only
    have r1 := fun r => numR_put k.toNat 1 r (by omega) (by omega) (by omega)
    have r2 := fun r => numR_put od.toNat 4 r (by omega) (by omega) (by omega)
    have r3 := fun r => numR_put po.toNat 1 r (by omega) (by omega) (by omega)
    have r4 := fun r => list_le (fun x r hx => lineR_le x r hx) l0 3 L hok.lines r s1 (by omega)
    have r5 := fun r => list_le (fun x r hx => tkR_le x r hx) tk0 12 T hok.takes r s2 (by omega)
    have r6 := fun r => list_le (fun x r hx => lineR_le x r hx) l0 3 M hok.owes r s3 (by omega)
    have r7 := fun r => numR_put sk.toNat 1 r (by omega) (by omega) (by omega)
    have r8 := fun r => numR_put fr.toNat 1 r (by omega) (by omega) (by omega)
    have r9 := fun r => numR_put to.toNat 1 r (by omega) (by omega) (by omega)
    have r10 := fun r => numR_put (u64 q) 8 r (by omega) (by omega) (u64_lt q)
    simp only [show (((1 : Nat) : Int)) = 1 from rfl, show (((4 : Nat) : Int)) = 4 from rfl, show (((8 : Nat) : Int)) = 8 from rfl] at r1 r2 r3 r7 r8 r9 r10
    have e10 := r10 []
    rw [List.append_nil] at e10
    simp only [List.append_assoc] at r4 r5 r6 ⊢
    rw [r1]
    dsimp only
    rw [r2]
    dsimp only
    rw [r3]
    dsimp only
    rw [r4]
    dsimp only
    rw [r5]
    dsimp only
    rw [r6]
    dsimp only
    rw [r7]
    dsimp only
    rw [r8]
    dsimp only
    rw [r9]
    dsimp only
    rw [e10]
    dsimp only
    rw [Int.toNat_of_nonneg hk.1, Int.toNat_of_nonneg ho.1, Int.toNat_of_nonneg hp.1, Int.toNat_of_nonneg h6.1, Int.toNat_of_nonneg h7.1, Int.toNat_of_nonneg h8.1, sgn_u64 h9]
    rfl
  unfold decP decE
  rw [hdec]
  dsimp only
  rw [if_neg (show ¬ (false = true) by decide)]
  have e0 : endR ((0, []) : St) = 0 := rfl
  rw [e0, if_neg (fun h => h rfl), if_pos hg]
theorem lineR_split {S : St} (hB : By S) (h : (lineR S).1.1 = 0) : S.1 = 0 ∧ S.2 = lnB (lineR S).2 ++ (lineR S).1.2 := by
  have h2 := numR_split (S := (numR S 1).1) (numR_bytes hB 1) (n := 8) (by omega) (by omega) h
  have h1 := numR_split hB (n := 1) (by omega) (by omega) h2.1
  refine ⟨h1.1, ?_⟩
  rw [h1.2]
  show le (numR S 1).2 1 ++ (numR S 1).1.2 = _
  rw [h2.2]
  unfold lineR lnB
  dsimp only
  rw [Int.toNat_natCast, u64_sgn (fit8 (numR_bytes hB 1)), List.append_assoc]
  rfl
theorem tkR_split {S : St} (hB : By S) (h : (tkR S).1.1 = 0) : S.1 = 0 ∧ S.2 = tkBy (tkR S).2 ++ (tkR S).1.2 := by
  have b1 := numR_bytes hB 4
  have b2 := numR_bytes b1 1
  have b3 := numR_bytes b2 1
  have h4 := numR_split b3 (n := 8) (by omega) (by omega) h
  have h3 := numR_split b2 (n := 1) (by omega) (by omega) h4.1
  have h2 := numR_split b1 (n := 1) (by omega) (by omega) h3.1
  have h1 := numR_split hB (n := 4) (by omega) (by omega) h2.1
  refine ⟨h1.1, ?_⟩
  rw [h1.2]
  show le (numR S 4).2 4 ++ (numR S 4).1.2 = _
  rw [h2.2]
  show le (numR S 4).2 4 ++ (le (numR (numR S 4).1 1).2 1 ++ (numR (numR S 4).1 1).1.2) = _
  rw [h3.2]
  show le (numR S 4).2 4 ++ (le (numR (numR S 4).1 1).2 1 ++ (le (numR (numR (numR S 4).1 1).1 1).2 1 ++ (numR (numR (numR S 4).1 1).1 1).1.2)) = _
  rw [h4.2]
  unfold tkR tkBy
  dsimp only
  rw [Int.toNat_natCast, Int.toNat_natCast, Int.toNat_natCast, u64_sgn (fit8 b3)]
  simp only [List.append_assoc]
  rfl
theorem many_split {α : Type} {f : St → St × α} {g : α → List Nat} (hb : ∀ S, By S → By (f S).1) (hf : ∀ S : St, By S → (f S).1.1 = 0 → S.1 = 0 ∧ S.2 = g (f S).2 ++ (f S).1.2) {S : St} (hB : By S) : ∀ n, (manyR f n S).1.1 = 0 → S.1 = 0 ∧ S.2 = (manyR f n S).2.flatMap g ++ (manyR f n S).1.2
  | 0, h => ⟨h, rfl⟩
  | n + 1, h => by
    have h : (f (manyR f n S).1).1.1 = 0 := h
    obtain ⟨h1, h2⟩ := hf _ (manyR_by hb hB n) h
    obtain ⟨h3, h4⟩ := many_split hb hf hB n h1
    refine ⟨h3, ?_⟩
    rw [h4, h2]
    show _ = ((manyR f n S).2 ++ [(f (manyR f n S).1).2]).flatMap g ++ (f (manyR f n S).1).1.2
    rw [List.flatMap_append, List.append_assoc]
    simp
theorem list_split {α : Type} {f : St → St × α} {g : α → List Nat} (hb : ∀ S, By S → By (f S).1) (hf : ∀ S : St, By S → (f S).1.1 = 0 → S.1 = 0 ∧ S.2 = g (f S).2 ++ (f S).1.2) (most : Nat) {S : St} (hB : By S) (hm : (listR f most S).2 = false) (h : (listR f most S).1.1.1 = 0) : S.1 = 0 ∧ S.2 = le (listR f most S).1.2.length 1 ++ (listR f most S).1.2.flatMap g ++ (listR f most S).1.1.2 := by
  unfold listR at *
  split at hm
  · cases hm
  · rename_i hl
    rw [if_neg hl] at h ⊢
    dsimp only at h ⊢
    obtain ⟨h1, h2⟩ := many_split hb hf (numR_bytes hB 1) _ h
    obtain ⟨h3, h4⟩ := numR_split hB (n := 1) (by omega) (by omega) h1
    refine ⟨h3, ?_⟩
    rw [h4]
    show le (numR S 1).2 1 ++ (numR S 1).1.2 = _
    rw [h2, manyR_len, List.append_assoc]
set_option maxHeartbeats 4000000 in
/-- What is decoded is encoded so. -/
theorem enc_dec {Bs : List Nat} (hB : ∀ y ∈ Bs, y < 256) (h : (decP Bs).1 = 0) : goodP 4 4 (decP Bs).2 = true ∧ bytesP (decP Bs).2 = Bs ∧ Pgok (decP Bs).2 := by
  unfold decP at h ⊢
  by_cases he : decE Bs ≠ 0
  · rw [if_pos he] at h
    exact absurd h he
  rw [if_neg he] at h ⊢
  cases hg : goodP 4 4 (decR Bs).pg with
  | false =>
    rw [hg, if_neg (by decide)] at h
    exact absurd h (by decide)
  | true =>
    rw [if_pos rfl]
    dsimp only
    refine ⟨hg, ?_⟩
    have he0 : decE Bs = 0 := by omega
    unfold decE at he0
    have hmany : (decR Bs).many = false := by
      cases hm : (decR Bs).many with
      | false => rfl
      | true => rw [hm, if_pos rfl] at he0; exact absurd he0 (by decide)
    rw [hmany, if_neg (by decide)] at he0
    have hst : (decR Bs).st.1 = 0 ∧ (decR Bs).st.2 = [] := by
      unfold endR at he0
      split at he0
      · exact absurd he0 (by decide)
      · rename_i hn
        refine ⟨he0, ?_⟩
        by_cases hl : 0 < (decR Bs).st.2.length
        · exact absurd ⟨he0, hl⟩ hn
        · exact List.eq_nil_of_length_eq_zero (by omega)
    clear he he0 hg h
    unfold decR at hmany hst ⊢
    dsimp only at hmany hst ⊢
    have c0 : By ((0, Bs) : St) := hB
    have c1 := numR_bytes c0 1
    have c2 := numR_bytes c1 4
    have c3 := numR_bytes c2 1
    have c4 := listR_by (f := lineR) (fun S h => lineR_by h) 3 c3
    have c5 := listR_by (f := tkR) (fun S h => tkR_by h) 12 c4
    have c6 := listR_by (f := lineR) (fun S h => lineR_by h) 3 c5
    have c7 := numR_bytes c6 1
    have c8 := numR_bytes c7 1
    have c9 := numR_bytes c8 1
    have o4 := listR_all (f := lineR) (Q := Lnok) (fun S h => lineR_by h) (fun S h => lineR_ok h) 3 c3
    have o5 := listR_all (f := tkR) (Q := Tkok) (fun S h => tkR_by h) (fun S h => tkR_ok h) 12 c4
    have o6 := listR_all (f := lineR) (Q := Lnok) (fun S h => lineR_by h) (fun S h => lineR_ok h) 3 c5
    have f1 := fit1 c0
    have f2 := fit4 c1
    have f3 := fit1 c2
    have f7 := fit1 c6
    have f8 := fit1 c7
    have f9 := fit1 c8
    have f10 := fit8 c9
    simp only [Bool.or_eq_false_iff] at hmany
    obtain ⟨⟨ml, mt⟩, mo⟩ := hmany
    have s10 := numR_split c9 (n := 8) (by omega) (by omega) hst.1
    have s9 := numR_split c8 (n := 1) (by omega) (by omega) s10.1
    have s8 := numR_split c7 (n := 1) (by omega) (by omega) s9.1
    have s7 := numR_split c6 (n := 1) (by omega) (by omega) s8.1
    have s6 := list_split (f := lineR) (fun S h => lineR_by h) (fun S h h0 => lineR_split h h0) 3 c5 mo s7.1
    have s5 := list_split (f := tkR) (fun S h => tkR_by h) (fun S h h0 => tkR_split h h0) 12 c4 mt s6.1
    have s4 := list_split (f := lineR) (fun S h => lineR_by h) (fun S h h0 => lineR_split h h0) 3 c3 ml s5.1
    have s3 := numR_split c2 (n := 1) (by omega) (by omega) s4.1
    have s2 := numR_split c1 (n := 4) (by omega) (by omega) s3.1
    have s1 := numR_split c0 (n := 1) (by omega) (by omega) s2.1
    have e1 := s1.2
    have e2 := s2.2
    have e3 := s3.2
    have e4 := s4.2
    have e5 := s5.2
    have e6 := s6.2
    have e7 := s7.2
    have e8 := s8.2
    have e9 := s9.2
    have e10 := s10.2
    rw [show (((8 : Nat) : Int)) = 8 from rfl, hst.2, List.append_nil] at e10
    simp only [show (((1 : Nat) : Int)) = 1 from rfl, show (((4 : Nat) : Int)) = 4 from rfl] at e1 e2 e3 e7 e8 e9
    refine ⟨?_, ⟨⟨?_, ?_⟩, ⟨?_, ?_⟩, ⟨?_, ?_⟩, o4, o5, o6, ⟨?_, ?_⟩, ⟨?_, ?_⟩, ⟨?_, ?_⟩, sgn_in f10⟩⟩
    · unfold bytesP lnsB tksB
      dsimp only
      rw [u64_sgn f10]
      simp only [Int.toNat_natCast]
      conv => rhs; rw [e1, e2, e3, e4, e5, e6, e7, e8, e9, e10]
      simp only [List.append_assoc]
    all_goals (dsimp only; omega)
end Go.Proofs.YtdcanppiiikjgaaGreatDoor
