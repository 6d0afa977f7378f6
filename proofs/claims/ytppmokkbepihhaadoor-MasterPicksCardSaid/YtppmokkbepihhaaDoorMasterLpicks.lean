/- MasterPicks: Of any two slots the one that counts is the document's. (Written by tools/src/mkmasterlpicks.py.) -/
import Derived.Test.YtppmokkbepihhaaDoorMasterLbytes
namespace Go.Proofs.YtppmokkbepihhaaDoor
open Go.RowKit Go.ChangeShapes Go.WideShapes
set_option linter.unusedVariables false
set_option linter.unusedSimpArgs false
set_option maxRecDepth 10000

set_option maxHeartbeats 2000000 in
theorem law_mpicks (p q : Option Addr) (n c m d : Nat) (A B : List Nat) (w : World) (hT : Tab w) (hA : Sl w p n c A) (hc : c ≤ maxLen) (hB : Sl w q m d B) (hd : d ≤ maxLen) :
    Calls Tryd.prog 4 #[.slice p n c, .slice q m d] w fun e w' => e = .returned (.bool true) ∧ Below w.heap.size w w' := by
  obtain ⟨k, hk, hkn, hk100⟩ : ∃ k : Nat, min (n : Int) 100 = (k : Int) ∧ k ≤ n ∧ k ≤ 100 := mmin_of n 100
  obtain ⟨j, hj, hjm, hj100⟩ : ∃ k : Nat, min (m : Int) 100 = (k : Int) ∧ k ≤ m ∧ k ≤ 100 := mmin_of m 100
  have hcap := hA.cap
  have hdap := hB.cap
  have hc63 : c ≤ 9223372036854775807 := hc
  have hd63 : d ≤ 9223372036854775807 := hd
  have hkc : (k : Int) ≤ (c : Int) := by omega
  have hjd : (j : Int) ≤ (d : Int) := by omega
  have HSA := Lib.hid fun z => (hA.take k hkn).later (below_drewN (Below.refl w.heap.size w) z)
  have HSB := Lib.hid fun z => (hB.take j hjm).later (below_drewN (Below.refl w.heap.size w) z)
  have HT := Lib.hid fun z => hT.later (below_drewN (Below.refl w.heap.size w) z) hT.lt
  generalize A.take k = K at *
  generalize B.take j = J at *
  clear hA hB hT
  have HDV : Hid (pickV K J = ⟨(pickV K J).g, (pickV K J).a, (pickV K J).r, (pickV K J).t, (pickV K J).s⟩ ∧ pickK K J = pickK K J ∧ pickE K J = pickE K J) := Lib.hid ⟨rfl, rfl, rfl⟩
  generalize hdv : pickV K J = v at *
  obtain ⟨g2, a2, r2, t2, s2⟩ := v
  generalize hdk : pickK K J = kv at *
  generalize hde : pickE K J = ev at *
  replace HDV : Hid (pickV K J = ⟨g2, a2, r2, t2, s2⟩ ∧ pickK K J = kv ∧ pickE K J = ev) := Lib.hid ⟨hdv, hdk, hde⟩
  clear hdv hde hdk
  go_enter Tryd.func4, Tryd.ntmps4
  go_wp2_with fail
  go_quiet (fail)
  have HSA0 := Lib.hid (HSA.out nq)
  have HSB0 := Lib.hid (HSB.out nq)
  have HT0 := Lib.hid (HT.out nq)
  have HB0 : Hid (Below w.heap.size w (w.drewN nq)) := Lib.hid (below_drewN (Below.refl _ _) nq)
  clear HSA HSB HT
  generalize w.drewN nq = w0 at *
  go_wp2_with fail
  refine (mpick_any _ _ _ _ _ _ K J _ HSA0.out HSB0.out hc hd (by omega) (by omega) HT0.out).mono ?_
  rw [HDV.out.1, HDV.out.2.1, HDV.out.2.2]
  rintro e w4 ⟨rfl, hb4⟩
  have hbn := ((Below.refl w4.heap.size w4).alloc (Nat.le_refl _) (.cells #[.int .u64 (g2 : Int), .int .u8 (a2 : Int), .int .i64 (sgn r2), .int .i64 (sgn t2), .int .i64 (sgn s2)] 24))
  have HY4 := Lib.hid (alloc_block w4 (.cells #[.int .u64 (g2 : Int), .int .u8 (a2 : Int), .int .i64 (sgn r2), .int .i64 (sgn t2), .int .i64 (sgn s2)] 24))
  have hbb := hb4.trans (hbn.mono hb4.size)
  have HB4 := Lib.hid (HB0.out.trans (hbb.mono HB0.out.size))
  have HT4 := Lib.hid (HT0.out.later hbb HT0.out.lt)
  have HSA4 := Lib.hid (HSA0.out.later hbb)
  have HSB4 := Lib.hid (HSB0.out.later hbb)
  clear hb4 hbn hbb HB0 HT0 HSA0 HSB0
  go_wp2_with fail
  generalize w4.alloc (.cells #[.int .u64 (g2 : Int), .int .u8 (a2 : Int), .int .i64 (sgn r2), .int .i64 (sgn t2), .int .i64 (sgn s2)] 24) = W4 at *
  generalize w4.heap.size = Y1 at *
  refine (mrpick_any _ _ _ _ _ _ K J _ HSA4.out HSB4.out hc hd (by omega) (by omega)).mono ?_
  rw [HDV.out.1, HDV.out.2.1, HDV.out.2.2]
  rintro e w5 ⟨rfl, hb5⟩
  have hbn := ((Below.refl w5.heap.size w5).alloc (Nat.le_refl _) (.cells #[.int .u64 (g2 : Int), .int .u8 (a2 : Int), .int .i64 (sgn r2), .int .i64 (sgn t2), .int .i64 (sgn s2)] 24))
  have HY5 := Lib.hid (alloc_block w5 (.cells #[.int .u64 (g2 : Int), .int .u8 (a2 : Int), .int .i64 (sgn r2), .int .i64 (sgn t2), .int .i64 (sgn s2)] 24))
  have hbb := hb5.trans (hbn.mono hb5.size)
  have HY45 := Lib.hid (block_later HY4.out hbb)
  have HB5 := Lib.hid (HB4.out.trans (hbb.mono HB4.out.size))
  have HT5 := Lib.hid (HT4.out.later hbb HT4.out.lt)
  clear hb5 hbn hbb HB4 HT4 HSA4 HSB4 HY4
  go_upto_region 4 with (fail)
  generalize w5.alloc (.cells #[.int .u64 (g2 : Int), .int .u8 (a2 : Int), .int .i64 (sgn r2), .int .i64 (sgn t2), .int .i64 (sgn s2)] 24) = W5 at *
  generalize w5.heap.size = Y2 at *
  obtain ⟨y0, y1, y2, y3, y4⟩ := mcells HY45.out
  obtain ⟨z0, z1, z2, z3, z4⟩ := mcells HY5.out
  go_wp2_with fail
  refine (works16 _ HT5.out).mono ?_
  rintro e w9 ⟨rfl, h6⟩
  have HF := Lib.hid (HB5.out.trans (h6.mono HB5.out.size))
  clear h6 y0 y1 y2 y3 y4 z0 z1 z2 z3 z4
  go_wp2_with fail
  go_ret
  exact ⟨rfl, HF.out⟩
end Go.Proofs.YtppmokkbepihhaaDoor
