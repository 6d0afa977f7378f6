/- An act told by the document. -/
/- Disks since a world: what they leave of what was there; the chapter's example. -/
/- A disk held against the document's: true, where both are the same. -/
/- A disk beside the document's: what the loop of acts keeps. -/
/- Acts that came in. -/
import Derived.Test.YtdkpjaobfohdfaaDiskRefWith
import Derived.Test.YtdkpjaobfohdfaaDiskRefCrash
import Derived.Test.YtdkpjaobfohdfaaPartF
import Derived.Lib.SlBytesConst
import Derived.Deep.RegionHeld
import Derived.Test.YtdkpjaobfohdfaaPartB
import Derived.Deep.Slices
import Derived.Deep.Fields
import Derived.Deep.Strs
import Derived.OpenShut
import Derived.ChangeSame
import Derived.Lib.SmallJoins
namespace Go.Proofs.Ytdkpjaobfohdfaa
open Go.RowKit Go.ChangeShapes Go.WideShapes
set_option linter.unusedVariables false
set_option maxRecDepth 10000
set_option linter.unusedSimpArgs false

theorem with_act (d : DS) (k : Nat) (hk : k % 6 ≤ 3) (n tear x : Int) (q : Option Addr) (m cq : Nat) (b : List Int) : withD d (Wd.x ⟨k % 6, n, q, m, cq, b, x⟩) = actD d k n tear x b ∧ withE d (Wd.x ⟨k % 6, n, q, m, cq, b, x⟩) = actE d k n b := by
  unfold Wd.x actD actE
  show withD d (if k % 6 = 0 then .put n b else if k % 6 = 1 then .grow b else if k % 6 = 2 then .drop x else .cut x) = _ ∧ withE d (if k % 6 = 0 then .put n b else if k % 6 = 1 then .grow b else if k % 6 = 2 then .drop x else .cut x) = _
  by_cases h0 : k % 6 = 0
  · simp only [if_pos h0]
    exact ⟨rfl, rfl⟩
  · simp only [if_neg h0]
    by_cases h1 : k % 6 = 1
    · simp only [if_pos h1]
      exact ⟨rfl, rfl⟩
    · simp only [if_neg h1]
      by_cases h2 : k % 6 = 2
      · simp only [if_pos h2]
        exact ⟨if_pos rfl, rfl⟩
      · simp only [if_neg h2]
        have h3 : k % 6 = 3 := by omega
        simp only [if_pos h3]
        exact ⟨if_pos rfl, rfl⟩
theorem RdGives.store {w W1 w2 : World} {Q : Nat → Prop} {D : DS} {R : Nat} {p tp lp : Option Addr} {c tc lc : Nat} {W : World} (h : Rd w2 (fun k => Q k ∧ k ≠ R) p c tp tc lp lc D) (hb : Below w.heap.size w w2) (hR : w.heap.size ≤ R) (hc : Chg (fun k => k = R) w2 W) (x : Int) : RdGivesE w Q D x (.returned (.tuple #[.agg (rdc p D.V.length c D.s tp D.t.B.length tc (D.t.f * D.z) D.z lp D.L.length lc D.M), .int .i64 x])) W :=
  ⟨p, c, tp, tc, lp, lc, rfl, (h.keep hc fun k hk hs => hk.2 hs).mono fun k hk _ => hk.1, hc.below hb hb.size fun k hk => by omega⟩
set_option maxHeartbeats 4000000 in
theorem told_sync {p tp lp : Option Addr} {c tc lc : Nat}
    (d : DS) (w : World) (Q : Nat → Prop) (hQ : ∀ k, w.heap.size ≤ k → Q k) (h : Rd w Q p c tp tc lp lc d) (hbig : d.tot ≤ 1000000) (hLL : d.L.length ≤ 1000) (hM : d.M ≤ 1048576) (k : Nat) (hk : k < 256) (n tear x : Int) (q : Option Addr) (m cq : Nat) (b : List Int) (hb : BL w q m cq b) (h0 : 0 < m → ∀ a, q = some a → Q a.block) (hkind : k % 6 = 4) :
    Calls Try.prog 8 #[.agg (rdc p d.V.length c d.s tp d.t.B.length tc (d.t.f * d.z) d.z lp d.L.length lc d.M), .agg #[.int .u8 (k : Nat), .int .i64 n, .int .i64 tear, .int .i64 x, .slice q m cq]] w (RdGivesE w Q d.sync 0) := by
  obtain ⟨a0, a1, a2, hbw, hsz⟩ := three_boxes w (rdc p d.V.length c d.s tp d.t.B.length tc (d.t.f * d.z) d.z lp d.L.length lc d.M) #[.int .u8 (k : Nat), .int .i64 n, .int .i64 tear, .int .i64 x, .slice q m cq] rdz 36 41 36
  have hd : Rd _ (fun k => Q k ∧ k ≠ w.heap.size + 1 + 1) p c tp tc lp lc d := (h.mono (R := fun k => Q k ∧ k ≠ w.heap.size + 1 + 1) fun k hk hl => ⟨hk, by omega⟩).later hbw
  have hQ2 : ∀ i, (((w.alloc (.cells (rdc p d.V.length c d.s tp d.t.B.length tc (d.t.f * d.z) d.z lp d.L.length lc d.M) 36)).alloc (.cells #[.int .u8 (k : Nat), .int .i64 n, .int .i64 tear, .int .i64 x, .slice q m cq] 41)).alloc (.cells rdz 36)).heap.size ≤ i → Q i ∧ i ≠ w.heap.size + 1 + 1 := fun i hi => by
    have h3 := Nat.le_trans (Nat.le_of_eq hsz.symm) hi
    exact ⟨hQ i (by omega), by omega⟩
  have HC := Lib.hid (refsync_any d _ _ hQ2 hd hbig)
  have HA := Lib.hid a0
  have HR := Lib.hid a2
  have HBW := Lib.hid hbw
  have HSZ := Lib.hid hsz
  have x0 := block_cell (j := 0) a1 (v := .int .u8 (k : Nat)) rfl
  have x1 := block_cell (j := 1) a1 (v := .int .i64 n) rfl
  have x2 := block_cell (j := 2) a1 (v := .int .i64 tear) rfl
  have x3 := block_cell (j := 3) a1 (v := .int .i64 x) rfl
  have x4 := block_cell (j := 4) a1 (v := .slice q m cq) rfl
  have hk4 : (k : Int) % 6 = ((k % 6 : Nat) : Int) := by omega
  have hk5 : (k : Int).tmod 6 = ((k % 6 : Nat) : Int) := by rw [Int.tmod_eq_emod_of_nonneg (by omega)]; exact hk4
  generalize hD : d.sync = D at *
  generalize hkk : k % 6 = kk at *
  have hw8 : IntKind.u8.wrap (kk : Int) = (kk : Int) := by rw [IntKind.wrap_u8]; omega
  clear hbw hsz hd hQ2 hD a0 a1 a2 h hb h0 hQ
  generalize d.V.length = nV at *
  generalize d.t.B.length = n1 at *
  generalize d.t.f * d.z = F1 at *
  generalize d.L.length = ln at *
  generalize d.s = s at *
  generalize d.z = z at *
  generalize d.M = M at *
  obtain rfl : kk = 4 := hkind
  go_enter Try.func8, Try.ntmps8
  go_wp2_with fail
  refine HC.out.mono ?_
  generalize ((w.alloc (.cells (rdc p nV c s tp n1 tc F1 z lp ln lc M) 36)).alloc (.cells #[.int .u8 (k : Nat), .int .i64 n, .int .i64 tear, .int .i64 x, .slice q m cq] 41)).alloc (.cells rdz 36) = W1 at *
  rintro e w2 ⟨p2, c2, tp2, tc2, lp2, lc2, rfl, hrd, hb2⟩
  have HFIN : Hid (∀ W, Chg (fun k => k = w.heap.size + 1 + 1) w2 W → RdGivesE w Q D 0 (.returned (.tuple #[.agg (rdc p2 D.V.length c2 D.s tp2 D.t.B.length tc2 (D.t.f * D.z) D.z lp2 D.L.length lc2 D.M), .int .i64 0])) W) := Lib.hid fun W hc => RdGives.store (W1 := W1) hrd (HBW.out.trans (hb2.mono HBW.out.size)) (by omega) hc 0
  clear hrd HC
  generalize D.V.length = nV2 at *
  generalize D.t.B.length = n2 at *
  generalize D.t.f * D.z = F2 at *
  generalize D.L.length = l2 at *
  generalize D.s = s2 at *
  generalize D.z = zz2 at *
  generalize D.M = M2 at *
  have gR := block_later HR.out hb2
  have y0 := block_cell (j := 0) gR (v := .slice none 0 0) rfl
  have y1 := block_cell (j := 1) gR (v := .int .i64 0) rfl
  have y2 := block_cell (j := 2) gR (v := .slice none 0 0) rfl
  have y3 := block_cell (j := 3) gR (v := .int .i64 0) rfl
  have y4 := block_cell (j := 4) gR (v := .int .i64 0) rfl
  have y5 := block_cell (j := 5) gR (v := .slice none 0 0) rfl
  have y6 := block_cell (j := 6) gR (v := .int .i64 0) rfl
  have z0 := block_free 0 gR
  have z1 := block_free 1 gR
  have z2 := block_free 2 gR
  have z3 := block_free 3 gR
  have z4 := block_free 4 gR
  have z5 := block_free 5 gR
  have z6 := block_free 6 gR
  have HP := Lib.hid (seven_put (.slice p2 nV2 c2) (.int .i64 (s2 : Nat)) (.slice tp2 n2 tc2) (.int .i64 (F2 : Nat)) (.int .i64 (zz2 : Nat)) (.slice lp2 l2 lc2) (.int .i64 (M2 : Nat)) gR)
  clear gR hb2
  go_wp2_with fail
  refine bodyPost_ret (v := .tuple #[.agg #[.slice p2 nV2 c2, .int .i64 (s2 : Nat), .slice tp2 n2 tc2, .int .i64 (F2 : Nat), .int .i64 (zz2 : Nat), .slice lp2 l2 lc2, .int .i64 (M2 : Nat)], .int .i64 0]) ?_ rfl ?_
  · exact results_rd rfl _ _ (w.heap.size + 1 + 1) _ _ rfl rfl HP.out.1 rfl
  · exact HFIN.out _ HP.out.2
set_option maxHeartbeats 4000000 in
theorem told_crash {p tp lp : Option Addr} {c tc lc : Nat}
    (d : DS) (w : World) (Q : Nat → Prop) (hQ : ∀ k, w.heap.size ≤ k → Q k) (h : Rd w Q p c tp tc lp lc d) (hbig : d.tot ≤ 1000000) (hLL : d.L.length ≤ 1000) (hM : d.M ≤ 1048576) (k : Nat) (hk : k < 256) (n tear x : Int) (q : Option Addr) (m cq : Nat) (b : List Int) (hb : BL w q m cq b) (h0 : 0 < m → ∀ a, q = some a → Q a.block) (hkind : k % 6 = 5) :
    Calls Try.prog 8 #[.agg (rdc p d.V.length c d.s tp d.t.B.length tc (d.t.f * d.z) d.z lp d.L.length lc d.M), .agg #[.int .u8 (k : Nat), .int .i64 n, .int .i64 tear, .int .i64 x, .slice q m cq]] w (RdGivesE w Q (d.crash n tear) 0) := by
  obtain ⟨a0, a1, a2, hbw, hsz⟩ := three_boxes w (rdc p d.V.length c d.s tp d.t.B.length tc (d.t.f * d.z) d.z lp d.L.length lc d.M) #[.int .u8 (k : Nat), .int .i64 n, .int .i64 tear, .int .i64 x, .slice q m cq] rdz 36 41 36
  have hd : Rd _ (fun k => Q k ∧ k ≠ w.heap.size + 1 + 1) p c tp tc lp lc d := (h.mono (R := fun k => Q k ∧ k ≠ w.heap.size + 1 + 1) fun k hk hl => ⟨hk, by omega⟩).later hbw
  have hQ2 : ∀ i, (((w.alloc (.cells (rdc p d.V.length c d.s tp d.t.B.length tc (d.t.f * d.z) d.z lp d.L.length lc d.M) 36)).alloc (.cells #[.int .u8 (k : Nat), .int .i64 n, .int .i64 tear, .int .i64 x, .slice q m cq] 41)).alloc (.cells rdz 36)).heap.size ≤ i → Q i ∧ i ≠ w.heap.size + 1 + 1 := fun i hi => by
    have h3 := Nat.le_trans (Nat.le_of_eq hsz.symm) hi
    exact ⟨hQ i (by omega), by omega⟩
  have HC := Lib.hid (refcrash_any d _ _ hQ2 hd hbig n tear)
  have HA := Lib.hid a0
  have HR := Lib.hid a2
  have HBW := Lib.hid hbw
  have HSZ := Lib.hid hsz
  have x0 := block_cell (j := 0) a1 (v := .int .u8 (k : Nat)) rfl
  have x1 := block_cell (j := 1) a1 (v := .int .i64 n) rfl
  have x2 := block_cell (j := 2) a1 (v := .int .i64 tear) rfl
  have x3 := block_cell (j := 3) a1 (v := .int .i64 x) rfl
  have x4 := block_cell (j := 4) a1 (v := .slice q m cq) rfl
  have hk4 : (k : Int) % 6 = ((k % 6 : Nat) : Int) := by omega
  have hk5 : (k : Int).tmod 6 = ((k % 6 : Nat) : Int) := by rw [Int.tmod_eq_emod_of_nonneg (by omega)]; exact hk4
  generalize hD : (d.crash n tear) = D at *
  generalize hkk : k % 6 = kk at *
  have hw8 : IntKind.u8.wrap (kk : Int) = (kk : Int) := by rw [IntKind.wrap_u8]; omega
  clear hbw hsz hd hQ2 hD a0 a1 a2 h hb h0 hQ
  generalize d.V.length = nV at *
  generalize d.t.B.length = n1 at *
  generalize d.t.f * d.z = F1 at *
  generalize d.L.length = ln at *
  generalize d.s = s at *
  generalize d.z = z at *
  generalize d.M = M at *
  obtain rfl : kk = 5 := hkind
  go_enter Try.func8, Try.ntmps8
  go_wp2_with fail
  refine HC.out.mono ?_
  generalize ((w.alloc (.cells (rdc p nV c s tp n1 tc F1 z lp ln lc M) 36)).alloc (.cells #[.int .u8 (k : Nat), .int .i64 n, .int .i64 tear, .int .i64 x, .slice q m cq] 41)).alloc (.cells rdz 36) = W1 at *
  rintro e w2 ⟨p2, c2, tp2, tc2, lp2, lc2, rfl, hrd, hb2⟩
  have HFIN : Hid (∀ W, Chg (fun k => k = w.heap.size + 1 + 1) w2 W → RdGivesE w Q D 0 (.returned (.tuple #[.agg (rdc p2 D.V.length c2 D.s tp2 D.t.B.length tc2 (D.t.f * D.z) D.z lp2 D.L.length lc2 D.M), .int .i64 0])) W) := Lib.hid fun W hc => RdGives.store (W1 := W1) hrd (HBW.out.trans (hb2.mono HBW.out.size)) (by omega) hc 0
  clear hrd HC
  generalize D.V.length = nV2 at *
  generalize D.t.B.length = n2 at *
  generalize D.t.f * D.z = F2 at *
  generalize D.L.length = l2 at *
  generalize D.s = s2 at *
  generalize D.z = zz2 at *
  generalize D.M = M2 at *
  have gR := block_later HR.out hb2
  have y0 := block_cell (j := 0) gR (v := .slice none 0 0) rfl
  have y1 := block_cell (j := 1) gR (v := .int .i64 0) rfl
  have y2 := block_cell (j := 2) gR (v := .slice none 0 0) rfl
  have y3 := block_cell (j := 3) gR (v := .int .i64 0) rfl
  have y4 := block_cell (j := 4) gR (v := .int .i64 0) rfl
  have y5 := block_cell (j := 5) gR (v := .slice none 0 0) rfl
  have y6 := block_cell (j := 6) gR (v := .int .i64 0) rfl
  have z0 := block_free 0 gR
  have z1 := block_free 1 gR
  have z2 := block_free 2 gR
  have z3 := block_free 3 gR
  have z4 := block_free 4 gR
  have z5 := block_free 5 gR
  have z6 := block_free 6 gR
  have HP := Lib.hid (seven_put (.slice p2 nV2 c2) (.int .i64 (s2 : Nat)) (.slice tp2 n2 tc2) (.int .i64 (F2 : Nat)) (.int .i64 (zz2 : Nat)) (.slice lp2 l2 lc2) (.int .i64 (M2 : Nat)) gR)
  clear gR hb2
  go_wp2_with fail
  refine bodyPost_ret (v := .tuple #[.agg #[.slice p2 nV2 c2, .int .i64 (s2 : Nat), .slice tp2 n2 tc2, .int .i64 (F2 : Nat), .int .i64 (zz2 : Nat), .slice lp2 l2 lc2, .int .i64 (M2 : Nat)], .int .i64 0]) ?_ rfl ?_
  · exact results_rd rfl _ _ (w.heap.size + 1 + 1) _ _ rfl rfl HP.out.1 rfl
  · exact HFIN.out _ HP.out.2
set_option maxHeartbeats 4000000 in
theorem told_with {p tp lp : Option Addr} {c tc lc : Nat}
    (d : DS) (w : World) (Q : Nat → Prop) (hQ : ∀ k, w.heap.size ≤ k → Q k) (h : Rd w Q p c tp tc lp lc d) (hbig : d.tot ≤ 1000000) (hLL : d.L.length ≤ 1000) (hM : d.M ≤ 1048576) (k : Nat) (hk : k < 256) (n tear x : Int) (q : Option Addr) (m cq : Nat) (b : List Int) (hb : BL w q m cq b) (h0 : 0 < m → ∀ a, q = some a → Q a.block) (hkind : k % 6 ≤ 3) :
    Calls Try.prog 8 #[.agg (rdc p d.V.length c d.s tp d.t.B.length tc (d.t.f * d.z) d.z lp d.L.length lc d.M), .agg #[.int .u8 (k : Nat), .int .i64 n, .int .i64 tear, .int .i64 x, .slice q m cq]] w (RdGivesE w Q (actD d k n tear x b) (actE d k n b)) := by
  obtain ⟨a0, a1, a2, hbw, hsz⟩ := three_boxes w (rdc p d.V.length c d.s tp d.t.B.length tc (d.t.f * d.z) d.z lp d.L.length lc d.M) #[.int .u8 (k : Nat), .int .i64 n, .int .i64 tear, .int .i64 x, .slice q m cq] rdz 36 41 36
  have hd : Rd _ (fun k => Q k ∧ k ≠ w.heap.size + 1 + 1) p c tp tc lp lc d := (h.mono (R := fun k => Q k ∧ k ≠ w.heap.size + 1 + 1) fun k hk hl => ⟨hk, by omega⟩).later hbw
  have hQ2 : ∀ i, (((w.alloc (.cells (rdc p d.V.length c d.s tp d.t.B.length tc (d.t.f * d.z) d.z lp d.L.length lc d.M) 36)).alloc (.cells #[.int .u8 (k : Nat), .int .i64 n, .int .i64 tear, .int .i64 x, .slice q m cq] 41)).alloc (.cells rdz 36)).heap.size ≤ i → Q i ∧ i ≠ w.heap.size + 1 + 1 := fun i hi => by
    have h3 := Nat.le_trans (Nat.le_of_eq hsz.symm) hi
    exact ⟨hQ i (by omega), by omega⟩
  have hby : Wd.ok _ (fun k => Q k ∧ k ≠ w.heap.size + 1 + 1) ⟨k % 6, n, q, m, cq, b, x⟩ := ⟨SlG.later hb hbw, bl_q (R := fun k => Q k ∧ k ≠ w.heap.size + 1 + 1) hb h0 fun k hk hl => ⟨hk, by omega⟩, hkind⟩
  have HC := Lib.hid (refwith_any d _ _ _ hQ2 hd hby hbig hLL hM)
  have HA := Lib.hid a0
  have HR := Lib.hid a2
  have HBW := Lib.hid hbw
  have HSZ := Lib.hid hsz
  have x0 := block_cell (j := 0) a1 (v := .int .u8 (k : Nat)) rfl
  have x1 := block_cell (j := 1) a1 (v := .int .i64 n) rfl
  have x2 := block_cell (j := 2) a1 (v := .int .i64 tear) rfl
  have x3 := block_cell (j := 3) a1 (v := .int .i64 x) rfl
  have x4 := block_cell (j := 4) a1 (v := .slice q m cq) rfl
  have hk4 : (k : Int) % 6 = ((k % 6 : Nat) : Int) := by omega
  have hk5 : (k : Int).tmod 6 = ((k % 6 : Nat) : Int) := by rw [Int.tmod_eq_emod_of_nonneg (by omega)]; exact hk4
  rw [(with_act d k hkind n tear x q m cq b).1, (with_act d k hkind n tear x q m cq b).2] at HC
  generalize hD : actD d k n tear x b = D at *
  generalize hE : actE d k n b = e0 at *
  generalize hkk : k % 6 = kk at *
  have hw8 : IntKind.u8.wrap (kk : Int) = (kk : Int) := by rw [IntKind.wrap_u8]; omega
  clear hbw hsz hd hQ2 hby hD hE a0 a1 a2 h hb h0 hQ
  generalize d.V.length = nV at *
  generalize d.t.B.length = n1 at *
  generalize d.t.f * d.z = F1 at *
  generalize d.L.length = ln at *
  generalize d.s = s at *
  generalize d.z = z at *
  generalize d.M = M at *
  have f4 : ((kk : Int) == 4) = false := by rw [beq_eq_false_iff_ne]; omega
  have f5 : ((kk : Int) == 5) = false := by rw [beq_eq_false_iff_ne]; omega
  go_enter Try.func8, Try.ntmps8
  go_wp2_with fail
  refine HC.out.mono ?_
  generalize ((w.alloc (.cells (rdc p nV c s tp n1 tc F1 z lp ln lc M) 36)).alloc (.cells #[.int .u8 (k : Nat), .int .i64 n, .int .i64 tear, .int .i64 x, .slice q m cq] 41)).alloc (.cells rdz 36) = W1 at *
  rintro e w2 ⟨p2, c2, tp2, tc2, lp2, lc2, rfl, hrd, hb2⟩
  have HFIN : Hid (∀ W, Chg (fun k => k = w.heap.size + 1 + 1) w2 W → RdGivesE w Q D e0 (.returned (.tuple #[.agg (rdc p2 D.V.length c2 D.s tp2 D.t.B.length tc2 (D.t.f * D.z) D.z lp2 D.L.length lc2 D.M), .int .i64 e0])) W) := Lib.hid fun W hc => RdGives.store (W1 := W1) hrd (HBW.out.trans (hb2.mono HBW.out.size)) (by omega) hc e0
  clear hrd HC
  generalize D.V.length = nV2 at *
  generalize D.t.B.length = n2 at *
  generalize D.t.f * D.z = F2 at *
  generalize D.L.length = l2 at *
  generalize D.s = s2 at *
  generalize D.z = zz2 at *
  generalize D.M = M2 at *
  have gR := block_later HR.out hb2
  have y0 := block_cell (j := 0) gR (v := .slice none 0 0) rfl
  have y1 := block_cell (j := 1) gR (v := .int .i64 0) rfl
  have y2 := block_cell (j := 2) gR (v := .slice none 0 0) rfl
  have y3 := block_cell (j := 3) gR (v := .int .i64 0) rfl
  have y4 := block_cell (j := 4) gR (v := .int .i64 0) rfl
  have y5 := block_cell (j := 5) gR (v := .slice none 0 0) rfl
  have y6 := block_cell (j := 6) gR (v := .int .i64 0) rfl
  have z0 := block_free 0 gR
  have z1 := block_free 1 gR
  have z2 := block_free 2 gR
  have z3 := block_free 3 gR
  have z4 := block_free 4 gR
  have z5 := block_free 5 gR
  have z6 := block_free 6 gR
  have HP := Lib.hid (seven_put (.slice p2 nV2 c2) (.int .i64 (s2 : Nat)) (.slice tp2 n2 tc2) (.int .i64 (F2 : Nat)) (.int .i64 (zz2 : Nat)) (.slice lp2 l2 lc2) (.int .i64 (M2 : Nat)) gR)
  clear gR hb2
  go_wp2_with fail
  refine bodyPost_ret (v := .tuple #[.agg #[.slice p2 nV2 c2, .int .i64 (s2 : Nat), .slice tp2 n2 tc2, .int .i64 (F2 : Nat), .int .i64 (zz2 : Nat), .slice lp2 l2 lc2, .int .i64 (M2 : Nat)], .int .i64 e0]) ?_ rfl ?_
  · exact results_rd rfl _ _ (w.heap.size + 1 + 1) _ _ rfl rfl HP.out.1 rfl
  · exact HFIN.out _ HP.out.2
theorem told_any {p tp lp : Option Addr} {c tc lc : Nat}
    (d : DS) (w : World) (Q : Nat → Prop) (hQ : ∀ k, w.heap.size ≤ k → Q k) (h : Rd w Q p c tp tc lp lc d) (hbig : d.tot ≤ 1000000) (hLL : d.L.length ≤ 1000) (hM : d.M ≤ 1048576) (k : Nat) (hk : k < 256) (n tear x : Int) (q : Option Addr) (m cq : Nat) (b : List Int) (hb : BL w q m cq b) (h0 : 0 < m → ∀ a, q = some a → Q a.block) :
    Calls Try.prog 8 #[.agg (rdc p d.V.length c d.s tp d.t.B.length tc (d.t.f * d.z) d.z lp d.L.length lc d.M), .agg #[.int .u8 (k : Nat), .int .i64 n, .int .i64 tear, .int .i64 x, .slice q m cq]] w (RdGivesE w Q (actD d k n tear x b) (actE d k n b)) := by
  have hlt := Nat.mod_lt k (show 0 < 6 by omega)
  by_cases h3 : k % 6 ≤ 3
  · exact told_with d w Q hQ h hbig hLL hM k hk n tear x q m cq b hb h0 h3
  · by_cases h4 : k % 6 = 4
    · have hE : actE d k n b = 0 := by unfold actE; rw [if_neg (by omega), if_neg (by omega)]
      have hD : actD d k n tear x b = d.sync := by unfold actD; rw [if_neg (by omega), if_neg (by omega), if_neg (by omega), if_neg (by omega), if_pos h4]
      rw [hE, hD]
      exact told_sync d w Q hQ h hbig hLL hM k hk n tear x q m cq b hb h0 h4
    · have h5 : k % 6 = 5 := by omega
      have hE : actE d k n b = 0 := by unfold actE; rw [if_neg (by omega), if_neg (by omega)]
      have hD : actD d k n tear x b = d.crash n tear := by unfold actD; rw [if_neg (by omega), if_neg (by omega), if_neg (by omega), if_neg (by omega), if_neg h4]
      rw [hE, hD]
      exact told_crash d w Q hQ h hbig hLL hM k hk n tear x q m cq b hb h0 h5
end Go.Proofs.Ytdkpjaobfohdfaa
namespace Go.Proofs.Ytdkpjaobfohdfaa
open Go.RowKit Go.ChangeShapes Go.WideShapes
set_option linter.unusedVariables false
set_option maxRecDepth 10000
set_option linter.unusedSimpArgs false

/-- All that lay in W has colour 0, and lies as it did. -/
structure Hd (W w : World) (col : Nat → Nat) : Prop where
  zero : ∀ k, k < W.heap.size → col k = 0
  below : Below W.heap.size W w
theorem Hd.start (W : World) : Hd W W (fun _ => 0) := ⟨fun _ _ => rfl, Below.refl _ _⟩
theorem Hd.ext {W w : World} {col col' : Nat → Nat} (h : Hd W w col) (he : Ext w col col') : Hd W w col' := ⟨fun k hk => (he k (Nat.lt_of_lt_of_le hk h.below.size)).trans (h.zero k hk), h.below⟩
theorem Hd.later {W w w' : World} {col : Nat → Nat} (h : Hd W w col) (hb : Below w.heap.size w w') : Hd W w' col := ⟨h.zero, h.below.trans (hb.mono h.below.size)⟩
theorem Hd.turn {W w w' : World} {col : Nat → Nat} {c : Nat} (h : Hd W w col) (hc : Chg (own col c) w w') (h0 : 1 ≤ c) : Hd W w' col :=
  ⟨h.zero, (hc.mono (T := fun k => W.heap.size ≤ k) fun k _ hk => by
    rcases Nat.lt_or_ge k W.heap.size with h1 | h1
    · have := h.zero k h1
      unfold own at hk
      omega
    · exact h1).below h.below h.below.size fun k hk => hk⟩
/-- A disk behind an act. -/
theorem Hd.act {W w w' : World} {col : Nat → Nat} {c B : Nat} {d : DS} (h : Hd W w col) (ht : Turned w col c B d w') (h0 : 1 ≤ c) : ∃ col', Ext w col col' ∧ Dk w' col' c B d ∧ Hd W w' col' ∧ Chg (own col c) w w' := by
  obtain ⟨col', he, hd, hc⟩ := ht
  have h1 := h.turn hc h0
  exact ⟨col', he, hd, ⟨fun k hk => (he k (Nat.lt_of_lt_of_le hk h.below.size)).trans (h.zero k hk), h1.below⟩, hc⟩
theorem Dk.c0 {w : World} {col : Nat → Nat} {c B : Nat} {d : DS} (h : Dk w col c B d) : 1 ≤ c := by
  obtain ⟨A, h⟩ := h
  exact h.c0
/-- Two bytes of a constant, in a block of their own. -/
theorem two_bytes (w : World) (x y : Int) : BL (w.alloc (.cells #[.int .u8 x, .int .u8 y] 5 (2, 3))) (some ⟨w.heap.size, 0, none⟩) 2 2 [x, y] ∧ Below w.heap.size w (w.alloc (.cells #[.int .u8 x, .int .u8 y] 5 (2, 3))) := by
  refine ⟨BL.mk rfl (Nat.le_refl _) (by unfold maxLen; omega) (fun e => by cases e) fun _ => ⟨w.heap.size, 0, rfl, by simp, fun j hj => ?_⟩, (Below.refl _ _).alloc (Nat.le_refl _) _⟩
  have h := alloc_block w (.cells #[.int .u8 x, .int .u8 y] 5 (2, 3))
  have h1 : j = 0 ∨ j = 1 := by omega
  rcases h1 with rfl | rfl <;> (show World.cell? _ ⟨w.heap.size, _, none⟩ = _; unfold World.cell?; simp only [h]; rfl)
/-- An append of two bytes of a constant. -/
theorem append_two {W w : World} {col : Nat → Nat} {c B : Nat} {d : DS} (hh : Hd W w col) (h : Dk w col c B d) (hbig : d.tot + 65536 ≤ 1000000) (hL : d.L.length < 1000000) (x y : Int) :
    Calls Try.prog 11 #[.pointer (some ⟨B, 0, none⟩), .slice (some ⟨w.heap.size, 0, none⟩) 2 2] (w.alloc (.cells #[.int .u8 x, .int .u8 y] 5 (2, 3))) fun e w' => e = .returned (.int .i64 (d.addE [x, y])) ∧ ∃ col', Dk w' col' c B (d.app [x, y]) ∧ Hd W w' col' := by
  obtain ⟨hb, hw⟩ := two_bytes w x y
  have he := Ext.paint w col 0
  refine (disk_append ((h.recol he).later hw) hbig hL _ 2 2 [x, y] hb (fun _ a ha ho => ?_)).mono ?_
  · cases ha
    have : paint col w.heap.size 0 w.heap.size = 0 := paint_new (Nat.le_refl _)
    unfold own at ho
    simp only at ho
    rw [this] at ho
    have := h.c0
    omega
  · rintro e w' ⟨rfl, ht⟩
    obtain ⟨col', _, h1, h2, _⟩ := ((hh.ext he).later hw).act ht h.c0
    exact ⟨rfl, col', h1, h2⟩
def wd0 : DS := DS.new 1 8 64 100
def wd1 : DS := wd0.app [97, 98]
def wd2 : DS := wd1.sync
def wd3 : DS := wd2.app [99, 100]
def wd4 : DS := wd3.app [101, 102]
def wd5 : DS := wd4.crash 1 1
theorem wd_facts : (wd0.tot + 65536 ≤ 1000000 ∧ wd0.L.length < 1000000) ∧ (wd1.tot ≤ 1000000 ∧ wd1.L.length ≤ 1000000) ∧ (wd2.tot + 65536 ≤ 1000000 ∧ wd2.L.length < 1000000) ∧ (wd3.tot + 65536 ≤ 1000000 ∧ wd3.L.length < 1000000) ∧ (wd4.tot ≤ 1000000 ∧ wd4.L.length ≤ 1000000) ∧ wd4.L.length = 2 ∧ wd5.L.length = 0 ∧ bytesT wd5.z wd5.sT 0 = [97, 98, 99, 100, 101] ∧ wd5.sT.len wd5.z ≤ 1000000 := by
  decide +kernel
theorem wd_str : strOfNums [97, 98, 99, 100, 101] = ⟨#[97, 98, 99, 100, 101]⟩ := by decide +kernel
set_option maxHeartbeats 2000000 in
theorem disk_works (w : World) : Calls Try.prog 5 #[] w fun e w' => e = .returned (.bool true) ∧ Below w.heap.size w w' := by
  have hn := disk_new 1 8 64 100 w
  obtain ⟨⟨f0, f0'⟩, ⟨f1, f1'⟩, ⟨f2, f2'⟩, ⟨f3, f3'⟩, ⟨f4, f4'⟩, f5, f6, f7, f8⟩ := wd_facts
  have kc := fun (w : World) (C : Array Value) (n c : Nat) => Lib.run_convert_bytes_const (P := Try.prog) w 31 5 C n c Try.underlying31 Try.underlying5
  have F0 := Lib.hid f0
  have F0' := Lib.hid f0'
  have F1 := Lib.hid f1
  have F1' := Lib.hid f1'
  have F2 := Lib.hid f2
  have F2' := Lib.hid f2'
  have F3 := Lib.hid f3
  have F3' := Lib.hid f3'
  have F4 := Lib.hid f4
  have F4' := Lib.hid f4'
  have F5 := Lib.hid f5
  have F6 := Lib.hid f6
  have F7 := Lib.hid f7
  have F8 := Lib.hid f8
  clear f0 f0' f1 f1' f2 f2' f3 f3' f4 f4' f5 f6 f7 f8
  go_enter Try.func5, Try.ntmps5
  go_wp2_with fail
  refine hn.mono ?_
  rintro e w1 ⟨B, rfl, hbo, _, hb1⟩
  obtain ⟨col1, he1, hd1⟩ := hbo (fun _ => 0) 1 (by omega)
  have HH1 : Hid (Hd w w1 col1) := Lib.hid (((Hd.start w).ext he1).later hb1)
  have h1 := append_two HH1.out (d := wd0) hd1 F0.out F0'.out 97 98
  clear hn hbo he1 hd1 hb1
  go_wp2_with fail
  refine h1.mono ?_
  rintro e w2 ⟨rfl, col2, hd2, hh2⟩
  have h2 := disk_sync (d := wd1) hd2 F1.out F1'.out
  have HH2 := Lib.hid hh2
  clear h1 hd2 hh2 HH1
  go_wp2_with fail
  refine h2.mono ?_
  rintro e w3 ⟨rfl, ht3⟩
  obtain ⟨col3, _, hd3, hh3, _⟩ := HH2.out.act ht3 (by omega)
  have h3 := append_two hh3 (d := wd2) hd3 F2.out F2'.out 99 100
  clear h2 ht3 hd3 hh3 HH2
  go_wp2_with fail
  refine h3.mono ?_
  rintro e w4 ⟨rfl, col4, hd4, hh4⟩
  have h4 := append_two hh4 (d := wd3) hd4 F3.out F3'.out 101 102
  clear h3 hd4 hh4
  go_wp2_with fail
  refine h4.mono ?_
  rintro e w5 ⟨rfl, col5, hd5, hh5⟩
  have h5 := disk_pending (d := wd4) hd5
  rw [F5.out] at h5
  have h6 := disk_crash (d := wd4) hd5 F4.out F4'.out 1 1
  have HH5 := Lib.hid hh5
  clear h4 hd5 hh5
  go_wp2_with fail
  refine h5.mono ?_
  rintro e w6 ⟨rfl, rfl⟩
  clear h5
  go_wp2_with fail
  refine h6.mono ?_
  rintro e w7 ⟨rfl, ht7⟩
  obtain ⟨col7, _, hd7, hh7, _⟩ := HH5.out.act ht7 (by omega)
  have h7 := disk_bytes (d := wd5) hd7 F8.out 0
  rw [F7.out] at h7
  have HD7 := Lib.hid hd7
  have HH7 := Lib.hid hh7
  clear h6 ht7 hd7 hh7 HH5
  go_wp2_with fail
  refine h7.mono ?_
  rintro e w8 ⟨p, cp, rfl, hbl, hb8, _⟩
  have hcv0 := conv_bl hbl
  rw [wd_str] at hcv0
  have hcv : (convert 31 9 (.slice p 5 cp)).run Try.prog w8 = .ok (.string ⟨#[97, 98, 99, 100, 101]⟩) w8 := hcv0
  clear hcv0
  have h8 := disk_pending (d := wd5) (HD7.out.later hb8)
  rw [F6.out] at h8
  have HB8 := Lib.hid (HH7.out.later hb8).below
  clear h7 hbl hb8
  go_wp2_with fail
  refine h8.mono ?_
  rintro e w9 ⟨rfl, rfl⟩
  go_wp2_with fail
  go_ret
  exact ⟨rfl, HB8.out⟩
end Go.Proofs.Ytdkpjaobfohdfaa
namespace Go.Proofs.Ytdkpjaobfohdfaa
open Go.RowKit Go.ChangeShapes Go.WideShapes
set_option linter.unusedVariables false
set_option maxRecDepth 10000
set_option linter.unusedSimpArgs false

set_option maxHeartbeats 8000000 in
set_option maxRecDepth 100000 in
theorem dsame_any {w : World} {col : Nat → Nat} {c B : Nat} {d : DS} (h : Dk w col c B d) {Q : Nat → Prop} {p tp lp : Option Addr} {cR tc lc : Nat} (hr : Rd w Q p cR tp tc lp lc d) (hbig : d.tot ≤ 1000000) :
    Calls Try.prog 10 #[.pointer (some ⟨B, 0, none⟩), .agg (rdc p d.V.length cR d.s tp d.t.B.length tc (d.t.f * d.z) d.z lp d.L.length lc d.M)] w fun e w' => e = .returned (.bool true) ∧ Below w.heap.size w w' := by
  have hz := hr.z
  have hb1 : Below w.heap.size w (w.alloc (.cells (rdc p d.V.length cR d.s tp d.t.B.length tc (d.t.f * d.z) d.z lp d.L.length lc d.M) 36)) := (Below.refl _ _).alloc (Nat.le_refl _) _
  have HSE := Lib.hid (refseen_any d _ (fun _ => True) (fun _ _ => trivial) ((hr.mono (R := fun _ => True) fun _ _ _ => trivial).later hb1) hbig)
  have HX1 := Lib.hid (alloc_block w (.cells (rdc p d.V.length cR d.s tp d.t.B.length tc (d.t.f * d.z) d.z lp d.L.length lc d.M) 36))
  have HB1 := Lib.hid hb1
  have HD := Lib.hid h
  have hlen : d.sT.len d.z ≤ 1000000 := Nat.le_trans (d.sT_len (by omega)) hbig
  have HNB : Hid (bytesT d.z d.sT 0 = d.sT.B) := Lib.hid (by
    have : fromT d.z d.sT 0 = 0 := by unfold fromT; omega
    unfold bytesT
    rw [this, List.drop_zero])
  have HLEN := Lib.hid hlen
  have HSV : Hid (d.sV.length = d.V.length) := Lib.hid (foldV_len ..)
  have HN4 := Lib.hid hr.n4
  clear h hr hb1
  obtain ⟨sb, hsb⟩ : ∃ sb, strOfNums d.sT.B = sb := ⟨_, rfl⟩
  have CBL : Hid (∀ w', Below w.heap.size w w' → Calls Try.prog 29 #[.pointer (some ⟨B, 0, none⟩)] w' fun e w'' => e = .returned (.int .i64 (d.V.length : Nat)) ∧ Below w'.heap.size w' w'') := Lib.hid fun w' hb => disk_blocks (HD.out.later hb)
  have CSZ : Hid (∀ w', Below w.heap.size w w' → Calls Try.prog 30 #[.pointer (some ⟨B, 0, none⟩)] w' fun e w'' => e = .returned (.int .i64 (d.s : Nat)) ∧ Below w'.heap.size w' w'') := Lib.hid fun w' hb => disk_size (HD.out.later hb)
  have CPE : Hid (∀ w', Below w.heap.size w w' → Calls Try.prog 13 #[.pointer (some ⟨B, 0, none⟩)] w' fun e w'' => e = .returned (.int .i64 (d.L.length : Nat)) ∧ w'' = w') := Lib.hid fun w' hb => disk_pending (HD.out.later hb)
  have CFI : Hid (∀ w', Below w.heap.size w w' → Calls Try.prog 32 #[.pointer (some ⟨B, 0, none⟩)] w' fun e w'' => e = .returned (.int .i64 (d.sT.f * d.z : Nat)) ∧ Below w'.heap.size w' w'') := Lib.hid fun w' hb => disk_first (HD.out.later hb)
  have CEN : Hid (∀ w', Below w.heap.size w w' → Calls Try.prog 33 #[.pointer (some ⟨B, 0, none⟩)] w' fun e w'' => e = .returned (.int .i64 (d.sT.f * d.z + d.sT.B.length : Nat)) ∧ Below w'.heap.size w' w'') := Lib.hid fun w' hb => disk_end (HD.out.later hb)
  have CSG : Hid (∀ w', Below w.heap.size w w' → Calls Try.prog 35 #[.pointer (some ⟨B, 0, none⟩)] w' fun e w'' => e = .returned (.int .i64 (nS d.z d.sT.B.length : Nat)) ∧ Below w'.heap.size w' w'') := Lib.hid fun w' hb => disk_segs (HD.out.later hb)
  have CBY : Hid (∀ w', Below w.heap.size w w' → Calls Try.prog 15 #[.pointer (some ⟨B, 0, none⟩), .int .i64 0] w' fun e w'' => ∃ p' n' c', e = .returned (.slice p' n' c') ∧ (∀ w3, Below w''.heap.size w'' w3 → (convert 31 9 (.slice p' n' c')).run Try.prog w3 = .ok (.string sb) w3) ∧ Below w'.heap.size w' w'') := Lib.hid fun w' hb => (disk_bytes (HD.out.later hb) HLEN.out 0).mono fun e w'' hh => by
    obtain ⟨p', c', he, hbl, hbw, _⟩ := hh
    rw [HNB.out] at he hbl
    exact ⟨p', _, c', he, fun w3 h3 => by rw [← hsb]; exact conv_bl (SlG.later hbl h3), hbw⟩
  have CKK : Hid (∀ (w' : World) (i : Nat), Below w.heap.size w w' → i < d.V.length → Calls Try.prog 31 #[.pointer (some ⟨B, 0, none⟩), .int .i64 (i : Nat)] w' fun e w'' => ∃ p c, e = .returned (.slice p d.s c) ∧ BL w'' p d.s c (d.sV.getD i []) ∧ Below w'.heap.size w' w'') := Lib.hid fun w' i hb hi => disk_block (HD.out.later hb) i hi
  have HBIG : Hid (d.sT.f * d.z + d.sT.B.length ≤ 1000000) := Lib.hid (by have := HLEN.out; unfold TS.len at this; exact this)
  have hz0 : 0 < d.z := by omega
  have hz4 : d.z ≤ 4096 := by omega
  clear HD HLEN HNB hlen
  generalize hSV : d.sV = SV at *
  generalize hST : d.sT = ST at *
  generalize d.V.length = n at *
  generalize d.t.B.length = n1 at *
  generalize d.t.f * d.z = F1 at *
  generalize d.L.length = ln at *
  generalize d.s = s at *
  generalize d.z = z at *
  generalize d.M = M at *
  clear hSV hST
  obtain ⟨X, hX⟩ : ∃ X, w.heap.size = X := ⟨_, rfl⟩
  have HXX := Lib.hid hX
  rw [hX] at HX1
  go_enter Try.func10, Try.ntmps10
  go_wp2_with fail
  have hse := HSE.out.mono fun e w' h => RdDo.rnd0 h
  refine hse.mono ?_
  clear hse
  generalize w.alloc (.cells (rdc p n cR s tp n1 tc F1 z lp ln lc M) 36) = W1 at *
  rintro e w2 ⟨p', c', tp', tc', n5, F5, rfl, H5⟩
  have hv := H5.out.1
  have ht := H5.out.2.1
  have hn5 := H5.out.2.2.2.1
  have hF5 := H5.out.2.2.2.2.1
  have hb2 := H5.out.2.2.2.2.2
  rw [hn5] at CEN CSG HBIG
  rw [hF5] at CFI CEN HBIG
  clear H5 HSE
  obtain ⟨q0, q1, hb4⟩ := two_boxes w2 #[.slice p' n c', .int .i64 (s : Nat)] #[.slice tp' n5 tc', .int .i64 (F5 : Nat), .int .i64 (z : Nat)] 30 33
  have HV0 := Lib.hid (hv.later hb4)
  have HT0 := Lib.hid (ht.later hb4)
  have hb24 := hb2.trans (hb4.mono hb2.size)
  have HX0 := Lib.hid (block_later HX1.out hb24)
  have HQ0 := Lib.hid q0
  have HQ1 := Lib.hid q1
  have HB0 := Lib.hid (HB1.out.trans (hb24.mono HB1.out.size))
  obtain ⟨Y, hY⟩ : ∃ Y, w2.heap.size = Y := ⟨_, rfl⟩
  have HTB : Hid (strOfNums ST.B = sb) := Lib.hid hsb
  have HN5 := Lib.hid hn5
  clear hv ht hb2 hb4 hb24 q0 q1 HX1 HB1 hn5 hF5 hsb
  rw [hY] at HQ0 HQ1
  go_wp2_with fail
  try rw [hY]
  generalize (w2.alloc (.cells #[.slice p' n c', .int .i64 (s : Nat)] 30)).alloc (.cells #[.slice tp' n5 tc', .int .i64 (F5 : Nat), .int .i64 (z : Nat)] 33) = W0 at *
  clear hY hX
  have hbl : ∀ r : After W0, Calls Try.prog 29 #[.pointer (some ⟨B, 0, none⟩)] r.w fun e w' => e = .returned (.int .i64 (n : Nat)) ∧ Below r.w.heap.size r.w w' := fun r => CBL.out _ (HB0.out.trans (r.h.mono HB0.out.size))
  have hsz : ∀ r : After W0, Calls Try.prog 30 #[.pointer (some ⟨B, 0, none⟩)] r.w fun e w' => e = .returned (.int .i64 (s : Nat)) ∧ Below r.w.heap.size r.w w' := fun r => CSZ.out _ (HB0.out.trans (r.h.mono HB0.out.size))
  have hpe : ∀ r : After W0, Calls Try.prog 13 #[.pointer (some ⟨B, 0, none⟩)] r.w fun e w' => e = .returned (.int .i64 (ln : Nat)) ∧ w' = r.w := fun r => CPE.out _ (HB0.out.trans (r.h.mono HB0.out.size))
  have x0 := fun r : After W0 => cell_after r (block_cell (j := 0) HQ0.out (v := .slice p' n c') rfl)
  have x1 := fun r : After W0 => cell_after r (block_cell (j := 1) HQ0.out (v := .int .i64 (s : Nat)) rfl)
  have x5 := fun r : After W0 => cell_after r (block_cell (j := 5) HX0.out (v := .slice lp ln lc) rfl)
  have q1 : ((n : Int) != (n : Int)) = false := by simp
  have q2 : ((s : Int) != (s : Int)) = false := by simp
  have q3 : ((ln : Int) != (ln : Int)) = false := by simp
  refine wp_region_after (by kernel_rfl) (by kernel_rfl) ?_
  repeat (go_big_quiet_step (first | (go_at_call 29; exact calls_after _ (hbl _)) | (go_at_call 30; exact calls_after _ (hsz _)) | (go_at_call 13; exact calls_after_same _ (hpe _))))
  refine wpQuiet_nil ?_
  intro w4 hw'
  obtain ⟨⟨wq, h6⟩, hw''⟩ := hw'
  subst hw''
  have HB4 := Lib.hid h6
  clear hbl hsz hpe x0 x1 x5 q1 q2 q3 h6
  go_wp2_with fail
  go_loopw [7] (fun i wr => ∃ j : Nat, j ≤ n ∧ i = .int .i64 (j : Nat) ∧ Hid (Below W0.heap.size W0 wr)) (fun i _ => n - (intOf i).toNat)
  case atStart => exact ⟨0, Nat.zero_le _, rfl, HB4⟩
  case round =>
    obtain ⟨j, hj, rfl, HBr⟩ := hrel
    have hn4 := HN4.out
    have x0 := block_cell (j := 0) (block_later HQ0.out HBr.out) (v := .slice p' n c') rfl
    have hbw := HB0.out.trans (HBr.out.mono HB0.out.size)
    by_cases hlt : j < n
    · have hlt' : (j : Int) < n := by omega
      have hjV : j < SV.length := by rw [HSV.out]; exact hlt
      have hvr := HV0.out.later HBr.out
      obtain ⟨vb, vo, q, cq, rfl, hc1, hbq, _⟩ := hvr.one hjV
      have HC : Hid (∀ k, Calls Try.prog 31 #[.pointer (some ⟨B, 0, none⟩), .int .i64 (j : Nat)] (wr.drewN k) fun e w' => ∃ p c, e = .returned (.slice p s c) ∧ BL w' p s c (SV.getD j []) ∧ Below wr.heap.size wr w') := Lib.hid fun k => (CKK.out (wr.drewN k) j (below_drewN hbw k) hlt).mono fun e w' ⟨p, c, h1, h2, h3⟩ => ⟨p, c, h1, h2, below_undrew h3⟩
      have HBQ := Lib.hid hbq
      have hcq : ∀ k, (convert 31 9 (.slice q s cq)).run Try.prog (wr.drewN k) = .ok (.string (strOfNums (SV.getD j []))) (wr.drewN k) := fun k => conv_bl (BL.keep HBQ.out ((Chg.refl (fun _ => False) _).drewN k) fun _ _ _ h => h)
      have hcd : (convert 31 9 (.slice q s cq)).run Try.prog wr.drew = .ok (.string (strOfNums (SV.getD j []))) wr.drew := hcq 1
      have HC1 := Lib.hid hc1
      have HXR := Lib.hid (block_later HQ0.out HBr.out)
      clear hvr hbq hbw
      generalize hst : strOfNums (SV.getD j []) = st at *
      have HST := Lib.hid hst
      clear hst
      go_wp2_with fail
      go_region_held (fun w' => w'.cell? ⟨Y, 0, none⟩ = some (.slice (some ⟨vb, vo, none⟩) n c') ∧ w'.cell? ⟨vb, vo + j, none⟩ = some (.slice q s cq) ∧ (convert 31 9 (.slice q s cq)).run Try.prog w' = .ok (.string st) w') (first | exact ⟨x0, hc1, hcd⟩ | exact ⟨x0, hc1, hcq 0⟩ | exact ⟨f0, f1, g2⟩) ((go_at_call 31; refine (HC.out _).mono ?_; rintro e w5 ⟨P5, C5, rfl, hb5, hbw5⟩; have f0 := block_cell (j := 0) (block_later (w := wr) HXR.out hbw5) (v := .slice (some ⟨vb, vo, none⟩) n c') rfl; have f1 : w5.cell? ⟨vb, vo + j, none⟩ = some (.slice q s cq) := (hbw5.cell (World.block_lt_of_cell? _ _ HC1.out)).trans HC1.out; have g1 := conv_bl hb5; rw [HST.out] at g1; have g2 := conv_bl (SlG.later (w := wr) HBQ.out hbw5); rw [HST.out] at g2; clear hb5))
      all_goals
        have HB5 := Lib.hid (HBr.out.trans (hbw5.mono HBr.out.size))
        clear hbw5 f0 f1 g1 g2
        go_wp2_with fail
        go_roundw
        case rel => exact ⟨j + 1, by omega, by go_num, HB5⟩
        case measure => simp [intOf]; omega
    · obtain rfl : j = n := by omega
      have L0 := fun (w' : World) (hb : Below W0.heap.size W0 w') => HB0.out.trans (hb.mono HB0.out.size)
      have cF : Hid (∀ w', Below W0.heap.size W0 w' → Calls Try.prog 32 #[.pointer (some ⟨B, 0, none⟩)] w' fun e w'' => e = .returned (.int .i64 (F5 : Nat)) ∧ Below W0.heap.size W0 w'' ∧ Below w'.heap.size w' w'') := Lib.hid fun w' hb => (CFI.out w' (L0 w' hb)).mono fun e w'' hh => ⟨hh.1, hb.trans (hh.2.mono hb.size), hh.2⟩
      have cE : Hid (∀ w', Below W0.heap.size W0 w' → Calls Try.prog 33 #[.pointer (some ⟨B, 0, none⟩)] w' fun e w'' => e = .returned (.int .i64 (F5 + n5 : Nat)) ∧ Below W0.heap.size W0 w'' ∧ Below w'.heap.size w' w'') := Lib.hid fun w' hb => (CEN.out w' (L0 w' hb)).mono fun e w'' hh => ⟨hh.1, hb.trans (hh.2.mono hb.size), hh.2⟩
      have cRE : Hid (∀ w', Below W0.heap.size W0 w' → Calls Try.prog 34 #[.agg #[.slice tp' n5 tc', .int .i64 (F5 : Nat), .int .i64 (z : Nat)]] w' fun e w'' => e = .returned (.int .i64 (F5 + n5 : Nat)) ∧ Below W0.heap.size W0 w'' ∧ Below w'.heap.size w' w'') := Lib.hid fun w' hb => (refend_any tp' n5 tc' F5 z w' (by have := HBIG.out; omega)).mono fun e w'' hh => ⟨hh.1, hb.trans (hh.2.mono hb.size), hh.2⟩
      have cS : Hid (∀ w', Below W0.heap.size W0 w' → Calls Try.prog 35 #[.pointer (some ⟨B, 0, none⟩)] w' fun e w'' => e = .returned (.int .i64 (nS z n5 : Nat)) ∧ Below W0.heap.size W0 w'' ∧ Below w'.heap.size w' w'') := Lib.hid fun w' hb => (CSG.out w' (L0 w' hb)).mono fun e w'' hh => ⟨hh.1, hb.trans (hh.2.mono hb.size), hh.2⟩
      have cRS : Hid (∀ w', Below W0.heap.size W0 w' → Calls Try.prog 36 #[.agg #[.slice tp' n5 tc', .int .i64 (F5 : Nat), .int .i64 (z : Nat)]] w' fun e w'' => e = .returned (.int .i64 (nS z n5 : Nat)) ∧ Below W0.heap.size W0 w'' ∧ Below w'.heap.size w' w'') := Lib.hid fun w' hb => (refsegs_any tp' n5 tc' F5 z w' hz0 hz4 (by have := HBIG.out; omega)).mono fun e w'' hh => ⟨hh.1, hb.trans (hh.2.mono hb.size), hh.2⟩
      have cB : Hid (∀ w', Below W0.heap.size W0 w' → Calls Try.prog 15 #[.pointer (some ⟨B, 0, none⟩), .int .i64 0] w' fun e w'' => ∃ p' n' c', e = .returned (.slice p' n' c') ∧ (∀ w3, Below w''.heap.size w'' w3 → (convert 31 9 (.slice p' n' c')).run Try.prog w3 = .ok (.string sb) w3) ∧ Below W0.heap.size W0 w'' ∧ Below w'.heap.size w' w'') := Lib.hid fun w' hb => (CBY.out w' (L0 w' hb)).mono fun e w'' ⟨p1, n1, c1, g1, g2, g3⟩ => ⟨p1, n1, c1, g1, g2, hb.trans (g3.mono hb.size), g3⟩
      have HS : Hid (∀ w', Below W0.heap.size W0 w' → w'.cell? ⟨Y + 1, 0, none⟩ = some (.slice tp' n5 tc') ∧ w'.cell? ⟨Y + 1, 1, none⟩ = some (.int .i64 (F5 : Nat)) ∧ w'.cell? ⟨Y + 1, 2, none⟩ = some (.int .i64 (z : Nat)) ∧ (convert 31 9 (.slice tp' n5 tc')).run Try.prog w' = .ok (.string sb) w') := Lib.hid fun w' hb => by
        have h1 := block_later HQ1.out hb
        have h2 := (HT0.out.later hb).bl
        rw [HN5.out] at h2
        exact ⟨block_cell h1 rfl, block_cell h1 rfl, block_cell h1 rfl, by rw [← HTB.out]; exact conv_bl h2⟩
      have hbd : Below W0.heap.size W0 wr.drew := HBr.out.drew
      clear L0 hbw CBL CSZ CPE CFI CEN CSG CBY CKK
      generalize nS z n5 = ns at *
      generalize F5 + n5 = EE at *
      clear hlt
      go_wp2_with fail
      refine wp_region_held_drew (S := fun w' => Hid (Below W0.heap.size W0 w')) (by kernel_rfl) (Lib.hid hbd) (fun hHeld => ?_)
      clear hbd
      refine wpAnyH_take (i := 0) (oi := ⟨some 52, _, _, _, _, _⟩) (v := .pointer (some ⟨B, 0, none⟩)) rfl (by kernel_rfl) (by kernel_rfl) (by kernel_rfl) (fun _ _ _ h => h) (Or.inl ⟨by rfl, fun w' hw' => ?_⟩) (by assumption) ?_
      · clear hHeld
        go_simp
      simp only [Act.put, List.setIfInBounds_toArray, List.set_cons_zero, List.set_cons_succ]
      refine wpAnyH_take (i := 2) (oi := ⟨some 54, _, _, _, _, _⟩) (v := .pointer (some ⟨Y + 1, 1, none⟩)) rfl (by kernel_rfl) (by kernel_rfl) (by kernel_rfl) (fun _ _ _ h => h) (Or.inl ⟨by rfl, fun w' hw' => ?_⟩) (by assumption) ?_
      · clear hHeld
        go_simp
      simp only [Act.put, List.setIfInBounds_toArray, List.set_cons_zero, List.set_cons_succ]
      refine wpAnyH_take (i := 3) (oi := ⟨some 55, _, _, _, _, _⟩) (v := .int .i64 (F5 : Nat)) rfl (by kernel_rfl) (by kernel_rfl) (by kernel_rfl) (fun _ _ _ h => h) (Or.inl ⟨by rfl, fun w' hw' => ?_⟩) (by assumption) ?_
      · obtain ⟨g0, g1, g2, g3⟩ := HS.out w' hw'.out
        clear hHeld
        go_simp
      simp only [Act.put, List.setIfInBounds_toArray, List.set_cons_zero, List.set_cons_succ]
      refine wpAnyH_ready (rs := [1]) (by kernel_rfl) (by simp) (AllReadyH.cons rfl (fun K hK => ?_) AllReadyH.nil)
      go_simp
      go_wp2_with fail
      refine (cF.out _ hHeld.out).mono ?_
      rintro e w1 ⟨rfl, hb1, hbb1⟩
      have hH1 : Hid (Below W0.heap.size W0 w1) := Lib.hid hb1
      go_wp2_with fail
      refine hK.out _ _ hH1 (fun hHeld2 => ?_)
      clear hH1
      clear hK K hHeld
      have hHeld := hHeld2
      clear hHeld2
      refine wpAnyH_take (i := 4) (oi := ⟨some 56, _, _, _, _, _⟩) (v := .bool true) rfl (by kernel_rfl) (by kernel_rfl) (by kernel_rfl) (fun _ _ _ h => h) (Or.inl ⟨by rfl, fun w' hw' => ?_⟩) (by assumption) ?_
      · clear hHeld
        go_simp
      simp only [Act.put, List.setIfInBounds_toArray, List.set_cons_zero, List.set_cons_succ]
      refine wpAnyH_take (i := 5) (oi := ⟨some 57, _, _, _, _, _⟩) (v := .bool true) rfl (by kernel_rfl) (by kernel_rfl) (by kernel_rfl) (fun _ _ _ h => h) (Or.inl ⟨by rfl, fun w' hw' => ?_⟩) (by assumption) ?_
      · clear hHeld
        go_simp
      simp only [Act.put, List.setIfInBounds_toArray, List.set_cons_zero, List.set_cons_succ]
      refine wpAnyH_take (i := 6) (oi := ⟨some 58, _, _, _, _, _⟩) (v := .pointer (some ⟨B, 0, none⟩)) rfl (by kernel_rfl) (by kernel_rfl) (by kernel_rfl) (fun _ _ _ h => h) (Or.inl ⟨by rfl, fun w' hw' => ?_⟩) (by assumption) ?_
      · clear hHeld
        go_simp
      simp only [Act.put, List.setIfInBounds_toArray, List.set_cons_zero, List.set_cons_succ]
      refine wpAnyH_take (i := 8) (oi := ⟨some 60, _, _, _, _, _⟩) (v := .agg #[.slice tp' n5 tc', .int .i64 (F5 : Nat), .int .i64 (z : Nat)]) rfl (by kernel_rfl) (by kernel_rfl) (by kernel_rfl) (fun _ _ _ h => h) (Or.inl ⟨by rfl, fun w' hw' => ?_⟩) (by assumption) ?_
      · obtain ⟨g0, g1, g2, g3⟩ := HS.out w' hw'.out
        clear hHeld
        go_simp
      simp only [Act.put, List.setIfInBounds_toArray, List.set_cons_zero, List.set_cons_succ]
      refine wpAnyH_ready (rs := [7]) (by kernel_rfl) (by simp) (AllReadyH.cons rfl (fun K hK => ?_) AllReadyH.nil)
      go_simp
      go_wp2_with fail
      refine (cE.out _ hHeld.out).mono ?_
      rintro e w2 ⟨rfl, hb2, hbb2⟩
      have hH2 : Hid (Below W0.heap.size W0 w2) := Lib.hid hb2
      go_wp2_with fail
      refine hK.out _ _ hH2 (fun hHeld2 => ?_)
      clear hH2
      clear hK K hHeld
      have hHeld := hHeld2
      clear hHeld2
      refine wpAnyH_ready (rs := [9]) (by kernel_rfl) (by simp) (AllReadyH.cons rfl (fun K hK => ?_) AllReadyH.nil)
      go_simp
      go_wp2_with fail
      refine (cRE.out _ hHeld.out).mono ?_
      rintro e w3 ⟨rfl, hb3, hbb3⟩
      have hH3 : Hid (Below W0.heap.size W0 w3) := Lib.hid hb3
      go_wp2_with fail
      refine hK.out _ _ hH3 (fun hHeld2 => ?_)
      clear hH3
      clear hK K hHeld
      have hHeld := hHeld2
      clear hHeld2
      refine wpAnyH_take (i := 10) (oi := ⟨some 62, _, _, _, _, _⟩) (v := .bool true) rfl (by kernel_rfl) (by kernel_rfl) (by kernel_rfl) (fun _ _ _ h => h) (Or.inl ⟨by rfl, fun w' hw' => ?_⟩) (by assumption) ?_
      · clear hHeld
        go_simp
      simp only [Act.put, List.setIfInBounds_toArray, List.set_cons_zero, List.set_cons_succ]
      refine wpAnyH_take (i := 11) (oi := ⟨some 63, _, _, _, _, _⟩) (v := .bool true) rfl (by kernel_rfl) (by kernel_rfl) (by kernel_rfl) (fun _ _ _ h => h) (Or.inl ⟨by rfl, fun w' hw' => ?_⟩) (by assumption) ?_
      · clear hHeld
        go_simp
      simp only [Act.put, List.setIfInBounds_toArray, List.set_cons_zero, List.set_cons_succ]
      refine wpAnyH_take (i := 12) (oi := ⟨some 64, _, _, _, _, _⟩) (v := .bool true) rfl (by kernel_rfl) (by kernel_rfl) (by kernel_rfl) (fun _ _ _ h => h) (Or.inl ⟨by rfl, fun w' hw' => ?_⟩) (by assumption) ?_
      · clear hHeld
        go_simp
      simp only [Act.put, List.setIfInBounds_toArray, List.set_cons_zero, List.set_cons_succ]
      refine wpAnyH_take (i := 13) (oi := ⟨some 65, _, _, _, _, _⟩) (v := .pointer (some ⟨B, 0, none⟩)) rfl (by kernel_rfl) (by kernel_rfl) (by kernel_rfl) (fun _ _ _ h => h) (Or.inl ⟨by rfl, fun w' hw' => ?_⟩) (by assumption) ?_
      · clear hHeld
        go_simp
      simp only [Act.put, List.setIfInBounds_toArray, List.set_cons_zero, List.set_cons_succ]
      refine wpAnyH_take (i := 15) (oi := ⟨some 67, _, _, _, _, _⟩) (v := .agg #[.slice tp' n5 tc', .int .i64 (F5 : Nat), .int .i64 (z : Nat)]) rfl (by kernel_rfl) (by kernel_rfl) (by kernel_rfl) (fun _ _ _ h => h) (Or.inl ⟨by rfl, fun w' hw' => ?_⟩) (by assumption) ?_
      · obtain ⟨g0, g1, g2, g3⟩ := HS.out w' hw'.out
        clear hHeld
        go_simp
      simp only [Act.put, List.setIfInBounds_toArray, List.set_cons_zero, List.set_cons_succ]
      refine wpAnyH_ready (rs := [14]) (by kernel_rfl) (by simp) (AllReadyH.cons rfl (fun K hK => ?_) AllReadyH.nil)
      go_simp
      go_wp2_with fail
      refine (cS.out _ hHeld.out).mono ?_
      rintro e w4 ⟨rfl, hb4, hbb4⟩
      have hH4 : Hid (Below W0.heap.size W0 w4) := Lib.hid hb4
      go_wp2_with fail
      refine hK.out _ _ hH4 (fun hHeld2 => ?_)
      clear hH4
      clear hK K hHeld
      have hHeld := hHeld2
      clear hHeld2
      refine wpAnyH_ready (rs := [16]) (by kernel_rfl) (by simp) (AllReadyH.cons rfl (fun K hK => ?_) AllReadyH.nil)
      go_simp
      go_wp2_with fail
      refine (cRS.out _ hHeld.out).mono ?_
      rintro e w5 ⟨rfl, hb5, hbb5⟩
      have hH5 : Hid (Below W0.heap.size W0 w5) := Lib.hid hb5
      go_wp2_with fail
      refine hK.out _ _ hH5 (fun hHeld2 => ?_)
      clear hH5
      clear hK K hHeld
      have hHeld := hHeld2
      clear hHeld2
      refine wpAnyH_take (i := 17) (oi := ⟨some 69, _, _, _, _, _⟩) (v := .bool true) rfl (by kernel_rfl) (by kernel_rfl) (by kernel_rfl) (fun _ _ _ h => h) (Or.inl ⟨by rfl, fun w' hw' => ?_⟩) (by assumption) ?_
      · clear hHeld
        go_simp
      simp only [Act.put, List.setIfInBounds_toArray, List.set_cons_zero, List.set_cons_succ]
      refine wpAnyH_take (i := 18) (oi := ⟨some 70, _, _, _, _, _⟩) (v := .bool true) rfl (by kernel_rfl) (by kernel_rfl) (by kernel_rfl) (fun _ _ _ h => h) (Or.inl ⟨by rfl, fun w' hw' => ?_⟩) (by assumption) ?_
      · clear hHeld
        go_simp
      simp only [Act.put, List.setIfInBounds_toArray, List.set_cons_zero, List.set_cons_succ]
      refine wpAnyH_take (i := 19) (oi := ⟨some 71, _, _, _, _, _⟩) (v := .bool true) rfl (by kernel_rfl) (by kernel_rfl) (by kernel_rfl) (fun _ _ _ h => h) (Or.inl ⟨by rfl, fun w' hw' => ?_⟩) (by assumption) ?_
      · clear hHeld
        go_simp
      simp only [Act.put, List.setIfInBounds_toArray, List.set_cons_zero, List.set_cons_succ]
      refine wpAnyH_take (i := 20) (oi := ⟨some 72, _, _, _, _, _⟩) (v := .pointer (some ⟨B, 0, none⟩)) rfl (by kernel_rfl) (by kernel_rfl) (by kernel_rfl) (fun _ _ _ h => h) (Or.inl ⟨by rfl, fun w' hw' => ?_⟩) (by assumption) ?_
      · clear hHeld
        go_simp
      simp only [Act.put, List.setIfInBounds_toArray, List.set_cons_zero, List.set_cons_succ]
      refine wpAnyH_take (i := 23) (oi := ⟨some 75, _, _, _, _, _⟩) (v := .pointer (some ⟨Y + 1, 0, none⟩)) rfl (by kernel_rfl) (by kernel_rfl) (by kernel_rfl) (fun _ _ _ h => h) (Or.inl ⟨by rfl, fun w' hw' => ?_⟩) (by assumption) ?_
      · clear hHeld
        go_simp
      simp only [Act.put, List.setIfInBounds_toArray, List.set_cons_zero, List.set_cons_succ]
      refine wpAnyH_take (i := 24) (oi := ⟨some 76, _, _, _, _, _⟩) (v := .slice tp' n5 tc') rfl (by kernel_rfl) (by kernel_rfl) (by kernel_rfl) (fun _ _ _ h => h) (Or.inl ⟨by rfl, fun w' hw' => ?_⟩) (by assumption) ?_
      · obtain ⟨g0, g1, g2, g3⟩ := HS.out w' hw'.out
        clear hHeld
        go_simp
      simp only [Act.put, List.setIfInBounds_toArray, List.set_cons_zero, List.set_cons_succ]
      refine wpAnyH_take (i := 25) (oi := ⟨some 77, _, _, _, _, _⟩) (v := .string sb) rfl (by kernel_rfl) (by kernel_rfl) (by kernel_rfl) (fun _ _ _ h => h) (Or.inl ⟨by rfl, fun w' hw' => ?_⟩) (by assumption) ?_
      · obtain ⟨g0, g1, g2, g3⟩ := HS.out w' hw'.out
        clear hHeld
        go_simp
      simp only [Act.put, List.setIfInBounds_toArray, List.set_cons_zero, List.set_cons_succ]
      refine wpAnyH_ready (rs := [21]) (by kernel_rfl) (by simp) (AllReadyH.cons rfl (fun K hK => ?_) AllReadyH.nil)
      go_simp
      go_wp2_with fail
      refine (cB.out _ hHeld.out).mono ?_
      rintro e w6 ⟨p6, n6, c6, rfl, hcv6, hb6, hbb6⟩
      have hH6 : Hid (Below W0.heap.size W0 w6) := Lib.hid hb6
      have HCV6 := Lib.hid hcv6
      go_wp2_with fail
      refine hK.out _ _ hH6 (fun hHeld2 => ?_)
      clear hH6
      clear hcv6
      clear hK K hHeld
      have hHeld := hHeld2
      clear hHeld2
      refine wpAnyH_less (S2 := fun w' => Hid (Below W0.heap.size W0 w') ∧ Hid (Below w6.heap.size w6 w')) (fun _ h => h.1) _ _ _ _ ?_
      have hHeld2 : (fun w' => Hid (Below W0.heap.size W0 w') ∧ Hid (Below w6.heap.size w6 w')) w6 := ⟨hHeld, Lib.hid (Below.refl _ _)⟩
      clear hHeld
      have hHeld := hHeld2
      clear hHeld2
      refine wpAnyH_take (i := 22) (oi := ⟨some 74, _, _, _, _, _⟩) (v := .string sb) rfl (by kernel_rfl) (by kernel_rfl) (by kernel_rfl) (fun _ _ _ h => h) (Or.inl ⟨by rfl, fun w' hw' => ?_⟩) (by assumption) ?_
      · have g := HCV6.out w' hw'.2.out
        clear hHeld
        go_simp
      simp only [Act.put, List.setIfInBounds_toArray, List.set_cons_zero, List.set_cons_succ]
      refine wpAnyH_take (i := 26) (oi := ⟨some 78, _, _, _, _, _⟩) (v := .bool true) rfl (by kernel_rfl) (by kernel_rfl) (by kernel_rfl) (fun _ _ _ h => h) (Or.inl ⟨by rfl, fun w' hw' => ?_⟩) (by assumption) ?_
      · clear hHeld
        go_simp
      simp only [Act.put, List.setIfInBounds_toArray, List.set_cons_zero, List.set_cons_succ]
      refine wpAnyH_take (i := 27) (oi := ⟨some 79, _, _, _, _, _⟩) (v := .bool true) rfl (by kernel_rfl) (by kernel_rfl) (by kernel_rfl) (fun _ _ _ h => h) (Or.inl ⟨by rfl, fun w' hw' => ?_⟩) (by assumption) ?_
      · clear hHeld
        go_simp
      simp only [Act.put, List.setIfInBounds_toArray, List.set_cons_zero, List.set_cons_succ]
      refine wpAnyH_take (i := 28) (oi := ⟨some 4, _, _, _, _, _⟩) (v := .bool true) rfl (by kernel_rfl) (by kernel_rfl) (by kernel_rfl) (fun _ _ _ h => h) (Or.inl ⟨by rfl, fun w' hw' => ?_⟩) (by assumption) ?_
      · clear hHeld
        go_simp
      simp only [Act.put, List.setIfInBounds_toArray, List.set_cons_zero, List.set_cons_succ]
      refine wpAnyH_done (by kernel_rfl) ?_ _
      go_wp2_with fail
      go_ret
      exact ⟨rfl, HB0.out.trans (hHeld.1.out.mono HB0.out.size)⟩
end Go.Proofs.Ytdkpjaobfohdfaa
namespace Go.Proofs.Ytdkpjaobfohdfaa
open Go.RowKit Go.ChangeShapes Go.WideShapes
set_option linter.unusedVariables false
set_option maxRecDepth 10000
set_option linter.unusedSimpArgs false

/-- As RdGivesE, its numbers as variables. -/
def RdVE (w : World) (Q : Nat → Prop) (D : DS) (x : Int) (e : Ending) (w' : World) : Prop :=
  ∃ p c tp tc lp lc n s n1 F z ln M, e = .returned (.tuple #[.agg (rdc p n c s tp n1 tc F z lp ln lc M), .int .i64 x]) ∧ Hid (Rd w' Q p c tp tc lp lc D ∧ Below w.heap.size w w' ∧ D.V.length = n ∧ D.s = s ∧ D.t.B.length = n1 ∧ D.t.f * D.z = F ∧ D.z = z ∧ D.L.length = ln ∧ D.M = M)
theorem RdGivesE.var {w : World} {Q : Nat → Prop} {D : DS} {x : Int} {e : Ending} {w' : World} (h : RdGivesE w Q D x e w') : RdVE w Q D x e w' := by
  obtain ⟨p, c, tp, tc, lp, lc, he, h1, h2⟩ := h
  exact ⟨p, c, tp, tc, lp, lc, _, _, _, _, _, _, _, he, Lib.hid ⟨h1, h2, rfl, rfl, rfl, rfl, rfl, rfl, rfl⟩⟩
/-- The disk at block B, the document's by value in the box X, whose parts lie in blocks of no colour. -/
structure Dp (w wr : World) (col : Nat → Nat) (B X : Nat) (d : DS) (p : Option Addr) (c : Nat) (tp : Option Addr) (tc : Nat) (lp : Option Addr) (lc j : Nat) : Prop where
  dk : Dk wr col 1 B d
  hd : Hd w wr col
  flat : ∀ k, wr.heap.size ≤ k → col k = 0
  x0 : col X = 9
  xw : w.heap.size ≤ X
  rd : Rd wr (fun k => col k = 0 ∧ k ≠ X) p c tp tc lp lc d
  box : wr.heap[X]? = some (.cells (rdc p d.V.length c d.s tp d.t.B.length tc (d.t.f * d.z) d.z lp d.L.length lc d.M) 36 (0, 0))
  tot : d.tot ≤ j * 300
  len : d.L.length ≤ j
  m : d.M ≤ 1999
/-- No colour behind the world's end. -/
def flatC (w : World) (col : Nat → Nat) : Nat → Nat := fun k => if k < w.heap.size then col k else 0
theorem flatC_ext (w : World) (col : Nat → Nat) : Ext w col (flatC w col) := fun k hk => if_pos hk
theorem not_own {col : Nat → Nat} {k : Nat} (h : col k = 0) : ¬ own col 1 k := fun ho => by
  unfold own at ho
  omega
theorem not_own9 {col : Nat → Nat} {k : Nat} (h : col k = 9) : ¬ own col 1 k := fun ho => by
  unfold own at ho
  omega
theorem Dp.start {w w1 w2 W3 : World} {B : Nat} {d : DS} {p tp lp : Option Addr} {c tc lc : Nat} (hbo : Born w w1 B d) (hb1 : Below w.heap.size w w1) (hr : Rd w2 (fun k => w1.heap.size ≤ k) p c tp tc lp lc d) (hb2 : Below w1.heap.size w1 w2)
    (hW : W3 = w2.alloc (.cells (rdc p d.V.length c d.s tp d.t.B.length tc (d.t.f * d.z) d.z lp d.L.length lc d.M) 36)) (ht : d.tot = 0) (hl : d.L.length = 0) (hm : d.M ≤ 1999) : ∃ col, Dp w W3 col B w2.heap.size d p c tp tc lp lc 0 := by
  obtain ⟨col1, he1, hd1⟩ := hbo (fun _ => 0) 1 (by omega)
  have hb3 : Below w2.heap.size w2 W3 := by rw [hW]; exact (Below.refl _ _).alloc (Nat.le_refl _) _
  have hs3 : W3.heap.size = w2.heap.size + 1 := by rw [hW]; simp
  have hs2 := hb2.size
  have hs1 := hb1.size
  have hh1 : Hd w w1 col1 := ((Hd.start w).ext he1).later hb1
  have hfl : Ext w1 col1 (fun k => if k = w2.heap.size then 9 else flatC w1 col1 k) := fun k hk => by
    show (if k = w2.heap.size then 9 else flatC w1 col1 k) = _
    rw [if_neg (by omega)]
    exact flatC_ext w1 col1 k hk
  have hz : ∀ k, w1.heap.size ≤ k → k ≠ w2.heap.size → (fun k => if k = w2.heap.size then 9 else flatC w1 col1 k) k = 0 := fun k hk hne => by
    show (if k = w2.heap.size then 9 else flatC w1 col1 k) = _
    rw [if_neg hne]
    exact if_neg (Nat.not_lt.2 hk)
  have hb13 := hb2.trans (hb3.mono hb2.size)
  refine ⟨_, (hd1.recol hfl).later hb13, (hh1.ext hfl).later hb13, fun k hk => hz k (by omega) (by omega), if_pos rfl, by omega, ?_, by rw [hW]; exact alloc_block w2 _, by rw [ht]; omega, by omega, hm⟩
  exact (hr.mono (R := fun k => (fun k => if k = w2.heap.size then 9 else flatC w1 col1 k) k = 0 ∧ k ≠ w2.heap.size) fun k h1 h2 => ⟨hz k h1 (by omega), by omega⟩).later hb3
/-- What the region of told leaves: the document's next disk in the box Y. -/
structure Dq (w wr W9 : World) (col : Nat → Nat) (X Y : Nat) (D : DS) (p : Option Addr) (c : Nat) (tp : Option Addr) (tc : Nat) (lp : Option Addr) (lc : Nat) : Prop where
  below : Below wr.heap.size wr W9
  y : wr.heap.size ≤ Y
  rd : Rd W9 (fun k => (col k = 0 ∧ k ≠ X) ∧ k ≠ Y) p c tp tc lp lc D
  box : W9.heap[Y]? = some (.cells (rdc p D.V.length c D.s tp D.t.B.length tc (D.t.f * D.z) D.z lp D.L.length lc D.M) 36 (0, 0))
/-- The program's disk does the act, too; the box X has the next disk. -/
theorem Dp.step {w wr W9 w10 w11 w12 : World} {col : Nat → Nat} {B X Y : Nat} {d D : DS} {p tp lp p2 tp2 lp2 : Option Addr} {c tc lc c2 tc2 lc2 j : Nat} (h : Dp w wr col B X d p c tp tc lp lc j) (hq : Dq w wr W9 col X Y D p2 c2 tp2 tc2 lp2 lc2)
    (ht : Turned W9 col 1 B D w10) : (∃ col5, Dk w10 col5 1 B D) ∧ Rd w10 (fun k => (col k = 0 ∧ k ≠ X) ∧ k ≠ Y) p2 c2 tp2 tc2 lp2 lc2 D ∧ w10.heap[Y]? = some (.cells (rdc p2 D.V.length c2 D.s tp2 D.t.B.length tc2 (D.t.f * D.z) D.z lp2 D.L.length lc2 D.M) 36 (0, 0)) ∧
    w10.heap[X]? = some (.cells (rdc p d.V.length c d.s tp d.t.B.length tc (d.t.f * d.z) d.z lp d.L.length lc d.M) 36 (0, 0)) ∧
    (Below w10.heap.size w10 w11 → w12.heap[X]? = some (.cells (rdc p2 D.V.length c2 D.s tp2 D.t.B.length tc2 (D.t.f * D.z) D.z lp2 D.L.length lc2 D.M) 36 (0, 0)) → Chg (fun k => k = X) w11 w12 → D.tot ≤ (j + 1) * 300 → D.L.length ≤ j + 1 → D.M = d.M → ∃ col', Dp w w12 col' B X D p2 c2 tp2 tc2 lp2 lc2 (j + 1)) := by
  have hxl := block_lt h.box
  have hs9 := hq.below.size
  have hd9 : Hd w W9 col := h.hd.later hq.below
  obtain ⟨col5, he, hdk, hh, hc⟩ := hd9.act ht (by omega)
  have hy0 : col Y = 0 := h.flat Y hq.y
  have hyl := block_lt hq.box
  have hrd10 : Rd w10 (fun k => ((col k = 0 ∧ k ≠ X) ∧ k ≠ Y) ∧ k < W9.heap.size) p2 c2 tp2 tc2 lp2 lc2 D := (hq.rd.mono (R := fun k => ((col k = 0 ∧ k ≠ X) ∧ k ≠ Y) ∧ k < W9.heap.size) fun k h1 h2 => ⟨h1, h2⟩).keep hc fun k hk ho => not_own hk.1.1.1 ho
  have hX9 : W9.heap[X]? = _ := block_later h.box hq.below
  refine ⟨⟨col5, hdk⟩, hrd10.mono fun k hk _ => hk.1, (hc.block Y hyl (not_own hy0)).trans hq.box, (hc.block X (block_lt hX9) (not_own9 h.x0)).trans hX9, fun hb11 hX12 hc12 htot hlen hM => ?_⟩
  have hs12 := hc12.size
  have hs11 := hb11.size
  have hs10 := hc.size
  have h5X : col5 X = 9 := (he X (by omega)).trans h.x0
  have hfl := flatC_ext w12 col5
  have hdk12 : Dk w12 col5 1 B D := (hdk.later hb11).keep hc12 fun k ho hk => by
    subst hk
    rcases ho with ho | ho
    · omega
    · exact not_own9 h5X ho
  have hh11 : Hd w w11 col5 := hh.later hb11
  have hh12 : Hd w w12 col5 := ⟨hh11.zero, hc12.below hh11.below hh11.below.size fun k hk => by have := h.xw; omega⟩
  refine ⟨flatC w12 col5, hdk12.recol hfl, hh12.ext hfl, fun k hk => if_neg (Nat.not_lt.2 hk), ?_, h.xw, ?_, hX12, htot, hlen, by rw [hM]; exact h.m⟩
  · rw [hfl X (by omega)]; exact h5X
  · refine ((hrd10.later hb11).keep hc12 fun k hk hs => hk.1.1.2 hs).mono fun k hk hl => ⟨?_, hk.1.1.2⟩
    rw [hfl k hl, he k hk.2]
    exact hk.1.1.1
end Go.Proofs.Ytdkpjaobfohdfaa
namespace Go.Proofs.Ytdkpjaobfohdfaa
open Go.RowKit Go.ChangeShapes Go.WideShapes Go.Deep
set_option linter.unusedVariables false
set_option maxRecDepth 10000

theorem actCells5 : Try.prog.cellsOf 41 = 5 := by kernel_rfl
theorem byteCells1 : Try.prog.cellsOf 5 = 1 := by kernel_rfl
theorem intCells1 : Try.prog.cellsOf 3 = 1 := by kernel_rfl
theorem longCells1 : Try.prog.cellsOf 2 = 1 := by kernel_rfl
theorem rowCells1 : Try.prog.cellsOf 31 = 1 := by kernel_rfl
theorem trod_struct5 {H : Type} {enc : TypeId × Value → H} {P : Program} {w : World} {base : Nat} {spare : Nat → Bool} {held : Bool} {t : TypeId} {f0 f1 f2 f3 f4 : Field} {fuel : Nat} {cs : List Value} {x : DataW H × List MemPlace} (ht : P.underlying t = some (.struct #[f0, f1, f2, f3, f4])) (h : DataW.trod enc P w base spare held fuel t cs = some x) :
    ∃ y0 y1 y2 y3 y4 n, cs.length = P.cellsOf t ∧ DataW.trod enc P w base spare held n f0.type ((cs.drop f0.offset).take (P.cellsOf f0.type)) = some y0 ∧
      DataW.trod enc P w base spare held n f1.type ((cs.drop f1.offset).take (P.cellsOf f1.type)) = some y1 ∧ DataW.trod enc P w base spare held n f2.type ((cs.drop f2.offset).take (P.cellsOf f2.type)) = some y2 ∧
      DataW.trod enc P w base spare held n f3.type ((cs.drop f3.offset).take (P.cellsOf f3.type)) = some y3 ∧ DataW.trod enc P w base spare held n f4.type ((cs.drop f4.offset).take (P.cellsOf f4.type)) = some y4 := by
  obtain ⟨xs, n, _, rfl, hl, hlen, hf⟩ := DataW.trod_struct ht h
  match xs, hlen with
  | [y0, y1, y2, y3, y4], _ => exact ⟨y0, y1, y2, y3, y4, n, hl, by simpa using hf 0 f0 rfl, by simpa using hf 1 f1 rfl, by simpa using hf 2 f2 rfl, by simpa using hf 3 f3 rfl, by simpa using hf 4 f4 rfl⟩
/-- Nothing is asked of a byte, of an act. -/
def AnyI (_ : Int) : Prop := True
def AnyA (_ : Ac) : Prop := True
section
variable {H : Type} {enc : TypeId × Value → H} {w : World} {base : Nat} {held : Bool}
/-- A slice of bytes that came in. -/
theorem open_bl {fuel : Nat} {v : Value} {d : DataW H × List MemPlace} (h : DataW.trod enc Try.prog w base (fun _ => true) held fuel 31 [v] = some d) : ∃ p n c L, v = .slice p n c ∧ BL w p n c L := by
  rcases open_ints Try.underlying31 Try.underlying5 (by kernel_rfl) h with ⟨hcs, _⟩ | ⟨x, l, c, zs, hcs, _, hl, hm, hz, _, hcell, hwz⟩
  · simp at hcs
    subst hcs
    exact ⟨none, 0, 0, [], rfl, SlG.empty w⟩
  · simp at hcs
    subst hcs
    rw [if_pos rfl] at hz
    refine ⟨_, _, _, zs.take l, rfl, BL.mk (by rw [List.length_take]; omega) hl hm (fun h => by cases h) fun h0 => ?_⟩
    have h00 := hcell 0 (by omega)
    have hsp : x.spot = none := World.cell?_spot (a := x) (by simpa [Addr.add] using h00)
    obtain ⟨b, off, sp⟩ := x
    replace hsp : sp = none := hsp
    subst hsp
    refine ⟨b, off, rfl, World.block_lt_of_cell? _ _ h00, fun j hj => ?_⟩
    have := hcell j (by omega)
    rw [Go.WideShapes.add_plain] at this
    rw [this, List.getD, List.getD, List.getElem?_take, if_pos hj]
theorem byte_nat {z : Int} (h : (Lit.int .u8 z).wf = true) : ∃ n : Nat, z = n ∧ n < 256 := by
  obtain ⟨g1, g2⟩ := bounds_u8 h
  exact ⟨z.toNat, by omega, by omega⟩
theorem act_trod {fuel : Nat} {cs : List Value} {d : DataW H × List MemPlace} (h : DataW.trod enc Try.prog w base (fun _ => true) held fuel 41 cs = some d) : ∃ a : Ac, (BL w a.q a.m a.cq a.b ∧ a.k < 256) ∧ cs = ac a := by
  obtain ⟨y0, y1, y2, y3, y4, n, hlen, t0, t1, t2, t3, t4⟩ := trod_struct5 Try.underlying41 h
  rw [actCells5] at hlen
  obtain ⟨v0, v1, v2, v3, v4, rfl⟩ : ∃ v0 v1 v2 v3 v4, cs = [v0, v1, v2, v3, v4] := by
    match cs, hlen with
    | [a, b, c, d, e], _ => exact ⟨a, b, c, d, e, rfl⟩
  simp only [byteCells1, longCells1, intCells1, rowCells1, List.drop_zero, List.drop_succ_cons, List.take_succ_cons, List.take_zero] at t0 t1 t2 t3 t4
  obtain ⟨z0, hv0, hw0⟩ := DataW.trod_int Try.underlying5 t0
  obtain ⟨z1, hv1, _⟩ := DataW.trod_int Try.underlying3 t1
  obtain ⟨z2, hv2, _⟩ := DataW.trod_int Try.underlying3 t2
  obtain ⟨z3, hv3, _⟩ := DataW.trod_int Try.underlying2 t3
  obtain ⟨p, m, c, L, rfl, hb⟩ := open_bl t4
  simp at hv0 hv1 hv2 hv3
  subst hv0 hv1 hv2 hv3
  have hwf : (Lit.int .u8 z0).wf = true := by first | exact hw0 | exact hw0.2 | exact hw0.1
  obtain ⟨n0, rfl, hn0⟩ := byte_nat hwf
  exact ⟨⟨n0, z1, z2, z3, p, m, c, L⟩, ⟨hb, hn0⟩, rfl⟩
/-- A slice of acts that came in. -/
theorem open_acts {fuel : Nat} {a : Option Addr} {len cap : Nat} {x : DataW H × List MemPlace}
    (h : DataW.trod enc Try.prog w base (fun _ => true) held fuel 23 [.slice a len cap] = some x) : ∃ L, AL w a len cap L ∧ ∀ y ∈ L, AnyA y := by
  rcases open_slice Try.underlying23 h with ⟨hcs, _⟩ | ⟨a', l, c, m, n, D, Pl, hcs, hb, hl, hm, hmm, hx, hi⟩
  · simp at hcs
    obtain ⟨rfl, rfl, rfl⟩ := hcs
    exact ⟨[], ⟨SlG.empty w, fun y hy => by cases hy⟩, fun y hy => trivial⟩
  · simp at hcs
    obtain ⟨rfl, rfl, rfl⟩ := hcs
    rw [if_pos rfl] at hmm
    subst hmm
    have hall : ∀ i, i < len → ∃ y : Ac, (BL w y.q y.m y.cq y.b ∧ y.k < 256) ∧ ∀ j u, (ac y)[j]? = some u → w.cell? (a'.add (i * 5 + j)) = some u := by
      intro i hil
      obtain ⟨cs', hc, ht⟩ := hi i (by omega)
      rw [actCells5] at hc
      obtain ⟨y, hy, rfl⟩ := act_trod ht
      obtain ⟨_, hcl, hat⟩ := World.cells?_some hc
      refine ⟨y, hy, fun j u hu => ?_⟩
      have hj : j < 5 := (List.getElem?_eq_some_iff.1 hu).1
      have := hat j hj
      rw [← Go.Deep.add_add, this]
      exact hu
    obtain ⟨f, hf⟩ : ∃ f : Nat → Ac, ∀ i, i < len → (BL w (f i).q (f i).m (f i).cq (f i).b ∧ (f i).k < 256) ∧ ∀ j u, (ac (f i))[j]? = some u → w.cell? (a'.add (i * 5 + j)) = some u :=
      ⟨fun i => if h : i < len then Classical.choose (hall i h) else ac0, fun i h => by dsimp only; rw [dif_pos h]; exact Classical.choose_spec (hall i h)⟩
    refine ⟨(List.range len).map f, ⟨⟨by simp, hl, hm, (fun h => by cases h), fun h0 => ?_⟩, fun y hy => ?_⟩, fun y hy => trivial⟩
    · have h00 := (hf 0 h0).2 0 _ rfl
      have hsp : a'.spot = none := World.cell?_spot (a := a') (by simpa [Addr.add] using h00)
      obtain ⟨b, off, sp⟩ := a'
      replace hsp : sp = none := hsp
      subst hsp
      rw [Go.WideShapes.add_plain] at h00
      refine ⟨b, off, rfl, World.block_lt_of_cell? _ _ h00, fun j hj i v hv => ?_⟩
      have e : ((List.range len).map f).getD j ac0 = f j := by
        rw [List.getD, List.getElem?_map, List.getElem?_range hj]; rfl
      rw [e] at hv
      have := (hf j hj).2 i v hv
      rwa [Go.WideShapes.add_plain, ← Nat.add_assoc] at this
    · obtain ⟨i, hi', rfl⟩ := List.mem_map.1 hy
      exact (hf i (List.mem_range.1 hi')).1
theorem open_blk {fuel : Nat} {a : Option Addr} {len cap : Nat} {x : DataW H × List MemPlace} (h : DataW.trod enc Try.prog w base (fun _ => true) held fuel 31 [.slice a len cap] = some x) : ∃ L, BL w a len cap L ∧ ∀ y ∈ L, AnyI y := by
  obtain ⟨p, n, c, L, e, hb⟩ := open_bl h
  cases e
  exact ⟨L, hb, fun _ _ => trivial⟩
end
/-- What is known of an act's cells. -/
def ActIn (w : World) (c : Array Value) : Prop := ∃ y : Ac, c = (ac y).toArray ∧ BL w y.q y.m y.cq y.b ∧ y.k < 256
theorem open_act {H : Type} {enc : TypeId × Value → H} {w : World} {base b0 : Nat} {held : Bool} {r : Reach} {v : Value} {d : DataW H} {p : List MemPlace}
    (hv : Value.okWide Try.prog w r b0 41 v) (h : DataW.Trod enc Try.prog w base (fun _ => true) held 41 v d p) : ∃ c, v = .agg c ∧ ActIn w c := by
  obtain ⟨c, rfl, hsz⟩ := okWide_struct Try.underlying41 hv
  obtain ⟨fuel, hf⟩ := h
  obtain ⟨y, hb, hc⟩ := act_trod hf
  refine ⟨c, rfl, y, ?_, hb⟩
  have h2 : c.toList = ac y := hc
  rw [← h2]
/-- What is known of a tail's cells. -/
def TailIn (w : World) (c : Array Value) : Prop := ∃ (p : Option Addr) (n cp : Nat) (L : List Int) (p' : Option Addr) (n' cp' : Nat) (L' : List Int) (k t : Nat), c = #[.slice p n cp, .slice p' n' cp', .int .u8 (k : Nat), .int .u8 (t : Nat)] ∧ BL w p n cp L ∧ BL w p' n' cp' L' ∧ k < 256 ∧ t < 256
end Go.Proofs.Ytdkpjaobfohdfaa
