/- Acts: few; an act done to a disk. -/
import Derived.Test.YtnciihekbbmiaaaDiskDo
import Derived.Test.YtnciihekbbmiaaaDiskCrash
import Derived.Test.YtnciihekbbmiaaaDiskCopy
namespace Go.Proofs.Ytnciihekbbmiaaa
open Go.RowKit Go.ChangeShapes Go.WideShapes
set_option linter.unusedVariables false
set_option maxRecDepth 10000
set_option linter.unusedSimpArgs false

/-- An act, its bytes among it. -/
structure Ac where
  k : Nat
  n : Int
  tear : Int
  x : Int
  q : Option Addr
  m : Nat
  cq : Nat
  b : List Int
def ac0 : Ac := ⟨0, 0, 0, 0, none, 0, 0, []⟩
/-- An act's cells. -/
def ac (a : Ac) : List Value := [.int .u8 (a.k : Nat), .int .i64 a.n, .int .i64 a.tear, .int .i64 a.x, .slice a.q a.m a.cq]
theorem ac_len (a : Ac) : (ac a).length = 5 := rfl
/-- A slice of acts, each act's bytes in their row. -/
structure AL (w : World) (p : Option Addr) (n c : Nat) (L : List Ac) : Prop where
  row : SlG ac 5 ac0 w p n c L
  each : ∀ y ∈ L, BL w y.q y.m y.cq y.b ∧ y.k < 256
theorem AL.later {w w' : World} {p : Option Addr} {n c : Nat} {L : List Ac} (h : AL w p n c L) (hb : Below w.heap.size w w') : AL w' p n c L := ⟨h.row.later hb, fun y hy => ⟨SlG.later (h.each y hy).1 hb, (h.each y hy).2⟩⟩
theorem AL.at {w : World} {p : Option Addr} {n c : Nat} {L : List Ac} (h : AL w p n c L) {j : Nat} (hj : j < n) : ∃ b off, p = some ⟨b, off, none⟩ ∧ b < w.heap.size ∧ (w.cell? ⟨b, off + j * 5, none⟩ = some (.int .u8 ((L.getD j ac0).k : Nat)) ∧ w.cell? ⟨b, off + j * 5 + 1, none⟩ = some (.int .i64 (L.getD j ac0).n) ∧ w.cell? ⟨b, off + j * 5 + 2, none⟩ = some (.int .i64 (L.getD j ac0).tear) ∧
    w.cell? ⟨b, off + j * 5 + 3, none⟩ = some (.int .i64 (L.getD j ac0).x) ∧ w.cell? ⟨b, off + j * 5 + 4, none⟩ = some (.slice (L.getD j ac0).q (L.getD j ac0).m (L.getD j ac0).cq)) ∧ BL w (L.getD j ac0).q (L.getD j ac0).m (L.getD j ac0).cq (L.getD j ac0).b ∧ (L.getD j ac0).k < 256 := by
  obtain ⟨b, off, rfl, hb, hc⟩ := h.row.cell (by omega)
  have hl : j < L.length := by rw [h.row.len]; exact hj
  have hm : L.getD j ac0 ∈ L := by
    rw [List.getD, List.getElem?_eq_getElem hl]
    exact List.getElem_mem hl
  exact ⟨b, off, rfl, hb, ⟨hc j hj 0 _ rfl, hc j hj 1 _ rfl, hc j hj 2 _ rfl, hc j hj 3 _ rfl, hc j hj 4 _ rfl⟩, (h.each _ hm).1, (h.each _ hm).2⟩
/-- What few says. -/
def FewSays (n : Nat) (L : List Ac) (w : World) (e : Ending) (w' : World) : Prop := (∃ t : Bool, e = .returned (.bool t) ∧ (t = true → n ≤ 40 ∧ ∀ j, j < n → (L.getD j ac0).m ≤ 300)) ∧ w' = w
set_option maxHeartbeats 1000000 in
theorem few_any (p : Option Addr) (n c : Nat) (L : List Ac) (w : World) (h : AL w p n c L) : Calls Try.prog 8 #[.slice p n c] w (FewSays n L w) := by
  have H := Lib.hid h
  clear h
  go_enter Try.func8, Try.ntmps8
  by_cases hn : 40 < n
  · have hn' : (40 : Int) < n := by omega
    go_wp2_with fail
    go_ret
    exact ⟨⟨false, rfl, fun h => by cases h⟩, rfl⟩
  · have hn' : ¬ (40 : Int) < n := by omega
    go_wp2_with fail
    go_loop [3] (fun i => ∃ k : Nat, k ≤ n ∧ i = .int .i64 k ∧ Hid (∀ j, j < k → (L.getD j ac0).m ≤ 300)) (fun i => n - (intOf i).toNat)
    case atStart => exact ⟨0, Nat.zero_le _, rfl, Lib.hid fun j hj => by omega⟩
    case round =>
      obtain ⟨k, hk, rfl, HK⟩ := hrel
      by_cases hlt : k < n
      · have hlt' : (k : Int) < n := by omega
        obtain ⟨b, off, rfl, _, ⟨_, _, _, _, c1⟩, _⟩ := H.out.at hlt
        have HM : Hid ((L.getD k ac0).m ≤ 300 → ∀ j, j < k + 1 → (L.getD j ac0).m ≤ 300) := Lib.hid fun h j hj => by
          rcases Nat.lt_or_ge j k with h' | h'
          · exact HK.out j h'
          · obtain rfl : j = k := by omega
            exact h
        generalize (L.getD k ac0).q = q at *
        generalize (L.getD k ac0).m = m at *
        generalize (L.getD k ac0).cq = cq at *
        by_cases hm : 300 < m
        · have hm' : (300 : Int) < m := by omega
          go_wp2_with fail
          go_ret
          exact ⟨⟨false, rfl, fun h => by cases h⟩, rfl⟩
        · have hm' : ¬ (300 : Int) < m := by omega
          go_wp2_with fail
          go_round
          case rel => exact ⟨k + 1, by omega, by go_num, Lib.hid (HM.out (by omega))⟩
          case measure => simp [intOf]; omega
      · obtain rfl : k = n := by omega
        go_wp2_with fail
        go_ret
        exact ⟨⟨true, rfl, fun _ => ⟨by omega, HK.out⟩⟩, rfl⟩
section
variable {w : World} {col : Nat → Nat} {c B : Nat} {d : DS}
theorem Turned.later {w1 : World} (hb : Below w.heap.size w w1) {w' : World} (h : Turned w1 col c B d w') : Turned w col c B d w' := by
  obtain ⟨col', he, hd, hc⟩ := h
  exact ⟨col', fun k hk => he k (Nat.lt_of_lt_of_le hk hb.size), hd, (Chg.of_below hb).trans hc fun k _ h => h⟩
/-- What do says. -/
def DidD (w : World) (col : Nat → Nat) (c B : Nat) (d : DS) (k : Nat) (n tear x : Int) (b : List Int) (e : Ending) (w' : World) : Prop := e = .returned (.int .i64 (actE d k n b)) ∧ Turned w col c B (actD d k n tear x b) w'
set_option maxHeartbeats 1000000 in
theorem do_put (h : Dk w col c B d) (hbig : d.tot + 70000 ≤ 1000000) (hL : d.L.length < 1000000) (k : Nat) (hk : k < 256) (n tear x : Int) (q : Option Addr) (m cq : Nat) (b : List Int) (hb : BL w q m cq b) (h0 : 0 < m → ∀ a, q = some a → ¬ own col c a.block) (hkind : k % 6 = 0) :
    Calls Try.prog 13 #[.pointer (some ⟨B, 0, none⟩), .agg #[.int .u8 (k : Nat), .int .i64 n, .int .i64 tear, .int .i64 x, .slice q m cq]] w fun e w' => e = .returned (.int .i64 (d.putE n b)) ∧ Turned w col c B (d.put n b) w' := by
  have hbw : Below w.heap.size w (w.alloc (.cells #[.int .u8 (k : Nat), .int .i64 n, .int .i64 tear, .int .i64 x, .slice q m cq] 41)) := (Below.refl _ _).alloc (Nat.le_refl _) _
  have hA := alloc_block w (.cells #[.int .u8 (k : Nat), .int .i64 n, .int .i64 tear, .int .i64 x, .slice q m cq] 41)
  have HC := Lib.hid (disk_put (h.later hbw) (by omega) n q m cq b (SlG.later hb hbw) h0)
  have HBW := Lib.hid hbw
  have y0 := block_cell (j := 0) hA (v := .int .u8 (k : Nat)) rfl
  have y1 := block_cell (j := 1) hA (v := .int .i64 n) rfl
  have y2 := block_cell (j := 2) hA (v := .int .i64 tear) rfl
  have y3 := block_cell (j := 3) hA (v := .int .i64 x) rfl
  have y4 := block_cell (j := 4) hA (v := .slice q m cq) rfl
  have hk4 : (k : Int) % 6 = ((k % 6 : Nat) : Int) := by omega
  have hk5 : (k : Int).tmod 6 = ((k % 6 : Nat) : Int) := by rw [Int.tmod_eq_emod_of_nonneg (by omega)]; exact hk4
  generalize hkk : k % 6 = kk at *
  have hw8 : IntKind.u8.wrap (kk : Int) = (kk : Int) := by rw [IntKind.wrap_u8]; omega
  clear hbw hA h hb h0 hkk
  generalize d.put n b = D at *
  generalize d.putE n b = e0 at *
  obtain rfl : kk = 0 := hkind
  go_enter Try.func13, Try.ntmps13
  go_wp2_with fail
  generalize w.alloc (.cells #[.int .u8 (k : Nat), .int .i64 n, .int .i64 tear, .int .i64 x, .slice q m cq] 41) = W at *
  refine HC.out.mono ?_
  rintro e w2 ⟨rfl, ht⟩
  have HT := Lib.hid (ht.later HBW.out)
  clear ht
  go_wp2_with fail
  go_ret
  exact ⟨rfl, HT.out⟩
set_option maxHeartbeats 1000000 in
theorem do_append (h : Dk w col c B d) (hbig : d.tot + 70000 ≤ 1000000) (hL : d.L.length < 1000000) (k : Nat) (hk : k < 256) (n tear x : Int) (q : Option Addr) (m cq : Nat) (b : List Int) (hb : BL w q m cq b) (h0 : 0 < m → ∀ a, q = some a → ¬ own col c a.block) (hkind : k % 6 = 1) :
    Calls Try.prog 13 #[.pointer (some ⟨B, 0, none⟩), .agg #[.int .u8 (k : Nat), .int .i64 n, .int .i64 tear, .int .i64 x, .slice q m cq]] w fun e w' => e = .returned (.int .i64 (d.addE b)) ∧ Turned w col c B (d.app b) w' := by
  have hbw : Below w.heap.size w (w.alloc (.cells #[.int .u8 (k : Nat), .int .i64 n, .int .i64 tear, .int .i64 x, .slice q m cq] 41)) := (Below.refl _ _).alloc (Nat.le_refl _) _
  have hA := alloc_block w (.cells #[.int .u8 (k : Nat), .int .i64 n, .int .i64 tear, .int .i64 x, .slice q m cq] 41)
  have HC := Lib.hid (disk_append (h.later hbw) (by omega) (by omega) q m cq b (SlG.later hb hbw) h0)
  have HBW := Lib.hid hbw
  have y0 := block_cell (j := 0) hA (v := .int .u8 (k : Nat)) rfl
  have y1 := block_cell (j := 1) hA (v := .int .i64 n) rfl
  have y2 := block_cell (j := 2) hA (v := .int .i64 tear) rfl
  have y3 := block_cell (j := 3) hA (v := .int .i64 x) rfl
  have y4 := block_cell (j := 4) hA (v := .slice q m cq) rfl
  have hk4 : (k : Int) % 6 = ((k % 6 : Nat) : Int) := by omega
  have hk5 : (k : Int).tmod 6 = ((k % 6 : Nat) : Int) := by rw [Int.tmod_eq_emod_of_nonneg (by omega)]; exact hk4
  generalize hkk : k % 6 = kk at *
  have hw8 : IntKind.u8.wrap (kk : Int) = (kk : Int) := by rw [IntKind.wrap_u8]; omega
  clear hbw hA h hb h0 hkk
  generalize d.app b = D at *
  generalize d.addE b = e0 at *
  obtain rfl : kk = 1 := hkind
  go_enter Try.func13, Try.ntmps13
  go_wp2_with fail
  generalize w.alloc (.cells #[.int .u8 (k : Nat), .int .i64 n, .int .i64 tear, .int .i64 x, .slice q m cq] 41) = W at *
  refine HC.out.mono ?_
  rintro e w2 ⟨rfl, ht⟩
  have HT := Lib.hid (ht.later HBW.out)
  clear ht
  go_wp2_with fail
  go_ret
  exact ⟨rfl, HT.out⟩
set_option maxHeartbeats 1000000 in
theorem do_drop (h : Dk w col c B d) (hbig : d.tot + 70000 ≤ 1000000) (hL : d.L.length < 1000000) (k : Nat) (hk : k < 256) (n tear x : Int) (q : Option Addr) (m cq : Nat) (b : List Int) (hb : BL w q m cq b) (h0 : 0 < m → ∀ a, q = some a → ¬ own col c a.block) (hkind : k % 6 = 2) :
    Calls Try.prog 13 #[.pointer (some ⟨B, 0, none⟩), .agg #[.int .u8 (k : Nat), .int .i64 n, .int .i64 tear, .int .i64 x, .slice q m cq]] w fun e w' => e = .returned (.int .i64 (0)) ∧ Turned w col c B (d.add (.drop x)) w' := by
  have hbw : Below w.heap.size w (w.alloc (.cells #[.int .u8 (k : Nat), .int .i64 n, .int .i64 tear, .int .i64 x, .slice q m cq] 41)) := (Below.refl _ _).alloc (Nat.le_refl _) _
  have hA := alloc_block w (.cells #[.int .u8 (k : Nat), .int .i64 n, .int .i64 tear, .int .i64 x, .slice q m cq] 41)
  have HC := Lib.hid (disk_drop (h.later hbw) (by omega) (by omega) x)
  have HBW := Lib.hid hbw
  have y0 := block_cell (j := 0) hA (v := .int .u8 (k : Nat)) rfl
  have y1 := block_cell (j := 1) hA (v := .int .i64 n) rfl
  have y2 := block_cell (j := 2) hA (v := .int .i64 tear) rfl
  have y3 := block_cell (j := 3) hA (v := .int .i64 x) rfl
  have y4 := block_cell (j := 4) hA (v := .slice q m cq) rfl
  have hk4 : (k : Int) % 6 = ((k % 6 : Nat) : Int) := by omega
  have hk5 : (k : Int).tmod 6 = ((k % 6 : Nat) : Int) := by rw [Int.tmod_eq_emod_of_nonneg (by omega)]; exact hk4
  generalize hkk : k % 6 = kk at *
  have hw8 : IntKind.u8.wrap (kk : Int) = (kk : Int) := by rw [IntKind.wrap_u8]; omega
  clear hbw hA h hb h0 hkk
  generalize d.add (.drop x) = D at *
  obtain rfl : kk = 2 := hkind
  go_enter Try.func13, Try.ntmps13
  go_wp2_with fail
  generalize w.alloc (.cells #[.int .u8 (k : Nat), .int .i64 n, .int .i64 tear, .int .i64 x, .slice q m cq] 41) = W at *
  refine HC.out.mono ?_
  rintro e w2 ⟨rfl, ht⟩
  have HT := Lib.hid (ht.later HBW.out)
  clear ht
  go_wp2_with fail
  go_ret
  exact ⟨rfl, HT.out⟩
set_option maxHeartbeats 1000000 in
theorem do_cut (h : Dk w col c B d) (hbig : d.tot + 70000 ≤ 1000000) (hL : d.L.length < 1000000) (k : Nat) (hk : k < 256) (n tear x : Int) (q : Option Addr) (m cq : Nat) (b : List Int) (hb : BL w q m cq b) (h0 : 0 < m → ∀ a, q = some a → ¬ own col c a.block) (hkind : k % 6 = 3) :
    Calls Try.prog 13 #[.pointer (some ⟨B, 0, none⟩), .agg #[.int .u8 (k : Nat), .int .i64 n, .int .i64 tear, .int .i64 x, .slice q m cq]] w fun e w' => e = .returned (.int .i64 (0)) ∧ Turned w col c B (d.add (.cut x)) w' := by
  have hbw : Below w.heap.size w (w.alloc (.cells #[.int .u8 (k : Nat), .int .i64 n, .int .i64 tear, .int .i64 x, .slice q m cq] 41)) := (Below.refl _ _).alloc (Nat.le_refl _) _
  have hA := alloc_block w (.cells #[.int .u8 (k : Nat), .int .i64 n, .int .i64 tear, .int .i64 x, .slice q m cq] 41)
  have HC := Lib.hid (disk_cut (h.later hbw) (by omega) (by omega) x)
  have HBW := Lib.hid hbw
  have y0 := block_cell (j := 0) hA (v := .int .u8 (k : Nat)) rfl
  have y1 := block_cell (j := 1) hA (v := .int .i64 n) rfl
  have y2 := block_cell (j := 2) hA (v := .int .i64 tear) rfl
  have y3 := block_cell (j := 3) hA (v := .int .i64 x) rfl
  have y4 := block_cell (j := 4) hA (v := .slice q m cq) rfl
  have hk4 : (k : Int) % 6 = ((k % 6 : Nat) : Int) := by omega
  have hk5 : (k : Int).tmod 6 = ((k % 6 : Nat) : Int) := by rw [Int.tmod_eq_emod_of_nonneg (by omega)]; exact hk4
  generalize hkk : k % 6 = kk at *
  have hw8 : IntKind.u8.wrap (kk : Int) = (kk : Int) := by rw [IntKind.wrap_u8]; omega
  clear hbw hA h hb h0 hkk
  generalize d.add (.cut x) = D at *
  obtain rfl : kk = 3 := hkind
  go_enter Try.func13, Try.ntmps13
  go_wp2_with fail
  generalize w.alloc (.cells #[.int .u8 (k : Nat), .int .i64 n, .int .i64 tear, .int .i64 x, .slice q m cq] 41) = W at *
  refine HC.out.mono ?_
  rintro e w2 ⟨rfl, ht⟩
  have HT := Lib.hid (ht.later HBW.out)
  clear ht
  go_wp2_with fail
  go_ret
  exact ⟨rfl, HT.out⟩
set_option maxHeartbeats 1000000 in
theorem do_sync (h : Dk w col c B d) (hbig : d.tot + 70000 ≤ 1000000) (hL : d.L.length < 1000000) (k : Nat) (hk : k < 256) (n tear x : Int) (q : Option Addr) (m cq : Nat) (b : List Int) (hb : BL w q m cq b) (h0 : 0 < m → ∀ a, q = some a → ¬ own col c a.block) (hkind : k % 6 = 4) :
    Calls Try.prog 13 #[.pointer (some ⟨B, 0, none⟩), .agg #[.int .u8 (k : Nat), .int .i64 n, .int .i64 tear, .int .i64 x, .slice q m cq]] w fun e w' => e = .returned (.int .i64 (0)) ∧ Turned w col c B (d.sync) w' := by
  have hbw : Below w.heap.size w (w.alloc (.cells #[.int .u8 (k : Nat), .int .i64 n, .int .i64 tear, .int .i64 x, .slice q m cq] 41)) := (Below.refl _ _).alloc (Nat.le_refl _) _
  have hA := alloc_block w (.cells #[.int .u8 (k : Nat), .int .i64 n, .int .i64 tear, .int .i64 x, .slice q m cq] 41)
  have HC := Lib.hid (disk_sync (h.later hbw) (by omega) (by omega))
  have HBW := Lib.hid hbw
  have y0 := block_cell (j := 0) hA (v := .int .u8 (k : Nat)) rfl
  have y1 := block_cell (j := 1) hA (v := .int .i64 n) rfl
  have y2 := block_cell (j := 2) hA (v := .int .i64 tear) rfl
  have y3 := block_cell (j := 3) hA (v := .int .i64 x) rfl
  have y4 := block_cell (j := 4) hA (v := .slice q m cq) rfl
  have hk4 : (k : Int) % 6 = ((k % 6 : Nat) : Int) := by omega
  have hk5 : (k : Int).tmod 6 = ((k % 6 : Nat) : Int) := by rw [Int.tmod_eq_emod_of_nonneg (by omega)]; exact hk4
  generalize hkk : k % 6 = kk at *
  have hw8 : IntKind.u8.wrap (kk : Int) = (kk : Int) := by rw [IntKind.wrap_u8]; omega
  clear hbw hA h hb h0 hkk
  generalize d.sync = D at *
  obtain rfl : kk = 4 := hkind
  go_enter Try.func13, Try.ntmps13
  go_wp2_with fail
  generalize w.alloc (.cells #[.int .u8 (k : Nat), .int .i64 n, .int .i64 tear, .int .i64 x, .slice q m cq] 41) = W at *
  refine HC.out.mono ?_
  rintro e w2 ⟨rfl, ht⟩
  have HT := Lib.hid (ht.later HBW.out)
  clear ht
  go_wp2_with fail
  go_ret
  exact ⟨rfl, HT.out⟩
set_option maxHeartbeats 1000000 in
theorem do_crash (h : Dk w col c B d) (hbig : d.tot + 70000 ≤ 1000000) (hL : d.L.length < 1000000) (k : Nat) (hk : k < 256) (n tear x : Int) (q : Option Addr) (m cq : Nat) (b : List Int) (hb : BL w q m cq b) (h0 : 0 < m → ∀ a, q = some a → ¬ own col c a.block) (hkind : k % 6 = 5) :
    Calls Try.prog 13 #[.pointer (some ⟨B, 0, none⟩), .agg #[.int .u8 (k : Nat), .int .i64 n, .int .i64 tear, .int .i64 x, .slice q m cq]] w fun e w' => e = .returned (.int .i64 (0)) ∧ Turned w col c B (d.crash n tear) w' := by
  have hbw : Below w.heap.size w (w.alloc (.cells #[.int .u8 (k : Nat), .int .i64 n, .int .i64 tear, .int .i64 x, .slice q m cq] 41)) := (Below.refl _ _).alloc (Nat.le_refl _) _
  have hA := alloc_block w (.cells #[.int .u8 (k : Nat), .int .i64 n, .int .i64 tear, .int .i64 x, .slice q m cq] 41)
  have HC := Lib.hid (disk_crash (h.later hbw) (by omega) (by omega) n tear)
  have HBW := Lib.hid hbw
  have y0 := block_cell (j := 0) hA (v := .int .u8 (k : Nat)) rfl
  have y1 := block_cell (j := 1) hA (v := .int .i64 n) rfl
  have y2 := block_cell (j := 2) hA (v := .int .i64 tear) rfl
  have y3 := block_cell (j := 3) hA (v := .int .i64 x) rfl
  have y4 := block_cell (j := 4) hA (v := .slice q m cq) rfl
  have hk4 : (k : Int) % 6 = ((k % 6 : Nat) : Int) := by omega
  have hk5 : (k : Int).tmod 6 = ((k % 6 : Nat) : Int) := by rw [Int.tmod_eq_emod_of_nonneg (by omega)]; exact hk4
  generalize hkk : k % 6 = kk at *
  have hw8 : IntKind.u8.wrap (kk : Int) = (kk : Int) := by rw [IntKind.wrap_u8]; omega
  clear hbw hA h hb h0 hkk
  generalize d.crash n tear = D at *
  obtain rfl : kk = 5 := hkind
  go_enter Try.func13, Try.ntmps13
  go_wp2_with fail
  generalize w.alloc (.cells #[.int .u8 (k : Nat), .int .i64 n, .int .i64 tear, .int .i64 x, .slice q m cq] 41) = W at *
  refine HC.out.mono ?_
  rintro e w2 ⟨rfl, ht⟩
  have HT := Lib.hid (ht.later HBW.out)
  clear ht
  go_wp2_with fail
  go_ret
  exact ⟨rfl, HT.out⟩
theorem do_any (h : Dk w col c B d) (hbig : d.tot + 70000 ≤ 1000000) (hL : d.L.length < 1000000) (k : Nat) (hk : k < 256) (n tear x : Int) (q : Option Addr) (m cq : Nat) (b : List Int) (hb : BL w q m cq b) (h0 : 0 < m → ∀ a, q = some a → ¬ own col c a.block) :
    Calls Try.prog 13 #[.pointer (some ⟨B, 0, none⟩), .agg #[.int .u8 (k : Nat), .int .i64 n, .int .i64 tear, .int .i64 x, .slice q m cq]] w (DidD w col c B d k n tear x b) := by
  unfold DidD actD actE
  have hlt := Nat.mod_lt k (show 0 < 6 by omega)
  by_cases h00 : k % 6 = 0
  · rw [if_pos h00, if_pos h00]; exact do_put h hbig hL k hk n tear x q m cq b hb h0 h00
  · rw [if_neg h00, if_neg h00]
    by_cases h1 : k % 6 = 1
    · rw [if_pos h1, if_pos h1]; exact do_append h hbig hL k hk n tear x q m cq b hb h0 h1
    · rw [if_neg h1, if_neg h1]
      by_cases h2 : k % 6 = 2
      · rw [if_pos h2]; exact do_drop h hbig hL k hk n tear x q m cq b hb h0 h2
      · rw [if_neg h2]
        by_cases h3 : k % 6 = 3
        · rw [if_pos h3]; exact do_cut h hbig hL k hk n tear x q m cq b hb h0 h3
        · rw [if_neg h3]
          by_cases h4 : k % 6 = 4
          · rw [if_pos h4]; exact do_sync h hbig hL k hk n tear x q m cq b hb h0 h4
          · rw [if_neg h4]; exact do_crash h hbig hL k hk n tear x q m cq b hb h0 (by omega)
end
end Go.Proofs.Ytnciihekbbmiaaa
