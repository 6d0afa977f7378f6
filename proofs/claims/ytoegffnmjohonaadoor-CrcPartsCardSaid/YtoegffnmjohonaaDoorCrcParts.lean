/-
  CrcParts answers true of any two rows of bytes, and writes nothing that was there: the tied card. No condition but the card's own: the table of half a byte's moves lies as the program's text lays it.
-/
import Derived.Test.YtoegffnmjohonaaDoorRows
import Derived.Test.YtoegffnmjohonaaDoorCrcOwn
import Derived.Outline
import Derived.Deep.QuietTactic
import Derived.BigQuiet
import Derived.Test.YtoegffnmjohonaaDoorCards
import Derived.Test.YtoegffnmjohonaaDoorTie
import Derived.SevenTiedAt
import Derived.Stop.Joined
import Derived.WalkKit
import Derived.ProofKit
import Derived.OpenShut
import Derived.ShutString
import Derived.ChangeOld
import Derived.Below
namespace Go.Proofs.YtoegffnmjohonaaDoor.crcParts
open Go.ChangeShapes Go.WideShapes Go.ChangeAt Go.RowKit
open Go.ChangeMaps (open_string shut_string)
set_option linter.unusedVariables false

theorem own : ownKnob Tryd.prog.godebug = none := by kernel_rfl
theorem laidOut : laidOutB Tryd.prog = true := by kernel_rfl

/-- WHAT THE WALK IS TOLD OF A SLICE OF INTEGERS THAT CAME IN: it is nil; or it leads to a row of 'cap' cells, the numbers 'zs' (the first 'len' are its elements, the rest its spare room), each fitting its kind. -/
def IsRow (k : IntKind) (w : World) (a : Option Addr) (len cap : Nat) (zs : List Int) : Prop :=
  (a = none ∧ len = 0 ∧ cap = 0 ∧ zs = []) ∨
  ∃ x, a = some x ∧ len ≤ cap ∧ cap ≤ maxLen ∧ zs.length = cap ∧ (∀ i, i < zs.length → w.cell? (x.add i) = some (.int k (zs.getD i 0))) ∧ ∀ n ∈ zs, (Lit.int k n).wf = true

theorem row_bytes {w : World} {a : Option Addr} {len cap : Nat} {zs : List Int} (h : IsRow .u8 w a len cap zs) (k : Nat) (hk : k ≤ len) : k ≤ cap ∧ (a = none → k = 0 ∧ cap = 0) ∧ ∃ f, Bytes w a k f := by
  rcases h with ⟨rfl, rfl, rfl, rfl⟩ | ⟨x, rfl, hl, hm, hz, hc, hwf⟩
  · obtain rfl : k = 0 := by omega
    exact ⟨Nat.le_refl _, fun _ => ⟨rfl, rfl⟩, _, bytes_none fun _ => 0⟩
  · exact ⟨by omega, (fun h => by cases h), _, bytes_take k (by omega) hc hwf⟩

set_option maxHeartbeats 400000 in
theorem walk (a0 : Option Addr) (len0 cap0 : Nat) (z0 : List Int) (a1 : Option Addr) (len1 cap1 : Nat) (z1 : List Int) (w : World) (hT : Tab w) (w0 : IsRow .u8 w a0 len0 cap0 z0) (w1 : IsRow .u8 w a1 len1 cap1 z1) :
    Calls Tryd.prog 4 #[.slice a0 len0 cap0, .slice a1 len1 cap1] w fun e w' => e = .returned (.bool true) ∧ Below w.heap.size w w' := by
  have HT := Lib.hid hT
  clear hT
  obtain ⟨k0, hk0, hl0, hb0⟩ : ∃ k : Nat, (if (1000 : Int) < (len0 : Int) then (1000 : Int) else (len0 : Int)) = (k : Int) ∧ k ≤ len0 ∧ k ≤ 1000 := least len0 1000
  obtain ⟨k1, hk1, hl1, hb1⟩ : ∃ k : Nat, (if (1000 : Int) < (len1 : Int) then (1000 : Int) else (len1 : Int)) = (k : Int) ∧ k ≤ len1 ∧ k ≤ 1000 := least len1 1000
  obtain ⟨hc0, hn0, f, HF⟩ := row_bytes w0 k0 hl0
  obtain ⟨hc1, hn1, g, HG⟩ := row_bytes w1 k1 hl1
  replace HF := Lib.hid HF
  replace HG := Lib.hid HG
  replace hn0 := Lib.hid hn0
  replace hn1 := Lib.hid hn1
  clear w0 w1
  go_enter Tryd.func4, Tryd.ntmps4
  go_wp2_with fail
  go_quiet (fail)
  have HB : Hid (∀ q, Below w.heap.size w (w.drewN q)) := Lib.hid fun q => below_drewN (Below.refl _ _) q
  have HT1 : Hid (∀ q, Tab (w.drewN q)) := Lib.hid fun q => HT.out.later (HB.out q) HT.out.lt
  have HF1 : Hid (∀ q, Bytes (w.drewN q) a0 k0 f) := Lib.hid fun q => HF.out.later (HB.out q)
  have HG1 : Hid (∀ q, Bytes (w.drewN q) a1 k1 g) := Lib.hid fun q => HG.out.later (HB.out q)
  go_wp2_with fail
  refine (sum_any _ _ _ _ _ (HF1.out _) (by omega) (HT1.out _)).mono ?_
  rintro e w' ⟨rfl, rfl⟩
  go_wp2_with fail
  refine (more_any _ _ _ _ _ _ (sumF_lt _ _) (HG1.out _) (by omega) (HT1.out _)).mono ?_
  rintro e w' ⟨rfl, rfl⟩
  have HO : Hid (∀ q, ((w.drewN q).alloc (.cells #[] 5)).ownsRow w.heap.size 5 1 (.slice (some ⟨w.heap.size, 0, none⟩) 0 0) 0 (vals f 0)) := Lib.hid fun q => own_empty (w.drewN q) _ f
  have HB2 : Hid (∀ q, Below w.heap.size w ((w.drewN q).alloc (.cells #[] 5))) := Lib.hid fun q => (HB.out q).alloc (Nat.le_refl _) _
  have HF2 : Hid (∀ q, Bytes ((w.drewN q).alloc (.cells #[] 5)) a0 k0 f) := Lib.hid fun q => HF.out.later (HB2.out q)
  go_wp2_with (at_builtin; refine wpList_append_bytes rfl _ _ rfl w.heap.size w (HB2.out _) (by simp) _ _ _ rfl (HO.out _) _ _ _ f rfl (HF2.out _) hn0.out (by omega) ?_)
  intro v1 w1 ho1 hb1
  rw [behind_none] at ho1
  obtain ⟨p1, c1, rfl, hp1, hp2, hp3⟩ := bytes_of_owns ho1 HF.out.1
  clear hp1 hp2 hp3
  have HO1 := Lib.hid ho1
  have HB3 := Lib.hid hb1
  clear ho1 hb1
  have HG3 := Lib.hid (HG.out.later HB3.out)
  go_wp2_with (at_builtin; refine wpList_append_bytes rfl _ _ rfl w.heap.size w HB3.out HB3.out.size _ _ _ rfl HO1.out _ _ _ g rfl HG3.out hn1.out (by omega) ?_)
  intro v2 w2 ho2 hb2
  obtain ⟨p2, c2, rfl, hp1, hp2, hp3⟩ := bytes_of_owns ho2 (behind_lt f k0 g k1 HF.out.1 HG.out.1)
  clear hp1 hp2
  have HP := Lib.hid hp3
  have HB4 := Lib.hid hb2
  clear ho2 hb2 hp3
  have HT2 := Lib.hid (HT.out.later HB4.out HT.out.lt)
  have HF4 := Lib.hid (HF.out.later HB4.out)
  have HE : Hid (4294967295 - runF (4294967295 - sumF f k0) g k1 = sumF (behind f k0 g) (k0 + k1)) := Lib.hid (sumF_behind f g _ k0 k1 HF.out.1 (fun j hj => behind_old f g k0 j hj) (fun j _ => behind_new f g k0 j))
  rw [HE.out]
  go_wp2_with fail
  refine (sum_any _ _ _ _ _ HP.out (by omega) HT2.out).mono ?_
  rintro e w' ⟨rfl, rfl⟩
  go_wp2_with fail
  refine (sum_any _ _ _ _ _ HF4.out (by omega) HT2.out).mono ?_
  rintro e w' ⟨rfl, rfl⟩
  go_wp2_with fail
  refine (more_any _ _ _ _ _ _ (sumF_lt _ _) (bytes_none f) (by omega) HT2.out).mono ?_
  rintro e w' ⟨rfl, rfl⟩
  rw [sumF_alone]
  go_wp2_with fail
  refine (sum_any _ _ _ _ _ HF4.out (by omega) HT2.out).mono ?_
  rintro e w' ⟨rfl, rfl⟩
  go_wp2_with fail
  refine (works_any _ HT2.out).mono ?_
  rintro e wC ⟨rfl, hC⟩
  go_wp2_with fail
  go_ret
  exact ⟨rfl, HB4.out.trans (hC.mono HB4.out.size)⟩

set_option maxRecDepth 100000 in
theorem lifted (os : Os) (started : os.Started) (H : Type) (enc : TypeId × Value → H) :
    ReturnsInHanded {} Tryd.checked os 4 .any (fun w args => (Rows.crcPartsSpec.pre enc Tryd.prog Tryd.f4 [] false w args ∧ laidMetH Tryd.prog Rows.crcPartsRow.laid w) ∧ sizedMet enc Tryd.prog Tryd.f4 (OpenSpec.ofChange Rows.crcPartsSpec) false w args) (Rows.crcPartsSpec.post enc Tryd.prog Tryd.f4 false true false false) := by
  refine returnsInHanded_of_change_and (C := Tryd.checked) (X := fun w _ => laidMetH Tryd.prog Rows.crcPartsRow.laid w) (fun _ _ _ hh h => h.of_heap hh) own started (by kernel_rfl) Tryd.func4
    (ChangeSpec.witness_shaped (enc := enc) (C := Tryd.checked) (os := os) (X := fun w _ => laidMetH Tryd.prog Rows.crcPartsRow.laid w) false (World.doorLaid Tryd.prog 400 os) #[.slice none 0 0, .slice none 0 0] 8 rfl (World.shaped_of_RefB (by kernel_rfl) (by kernel_rfl)) (by kernel_rfl) (by kernel_rfl) (by kernel_rfl) (door_met os _)) ?_
  intro W base args ds gs before hval0 hW _ _ hL _
  have hval : ∀ (j : Nat) t v, Tryd.f4.params[j]? = some t → args[j]? = some v → Value.okWide Tryd.prog W .any base t v := hval0
  have hW' := hW
  obtain ⟨p, q, hA0, hV, rfl, hfz, hnd⟩ := hW
  have hA : DataW.TrodAll enc Tryd.prog W 0 (fun _ => true) true Tryd.f4.params.toList args.toList ds p := hA0
  rw [Tryd.params4] at hA hval
  obtain ⟨v0, vs0, d0, ds0, p0, q0, hargs, rfl, rfl, h0, r0⟩ := trodAll_cons hA
  obtain ⟨v1, vs1, d1, ds1, p1, q1, rfl, rfl, rfl, h1, r1⟩ := trodAll_cons r0
  obtain ⟨rfl, rfl, rfl⟩ := trodAll_nil r1
  obtain rfl : args = #[v0, v1] := by cases args; simp_all
  obtain ⟨rfl, rfl⟩ := trodVars_none hV
  obtain ⟨a0, len0, cap0, rfl⟩ := okWide_slice Tryd.underlying22 (hval 0 22 v0 rfl rfl)
  have k0 := h0
  have lt0 : ∀ x ∈ p0, x.block < W.heap.size := by obtain ⟨m, hm⟩ := k0; exact DataW.trod_lt m _ _ _ hm
  obtain ⟨z0, w0⟩ : ∃ zs, IsRow .u8 W a0 len0 cap0 zs := by
    obtain ⟨fuel, hf⟩ := h0
    rcases open_ints Tryd.underlying22 Tryd.underlying5 (by kernel_rfl) hf with ⟨hcs, _⟩ | ⟨x, l, c, zs, hcs, _, hl, hm, hz, _, hcell, hwz⟩
    · simp [Value.cells] at hcs
      obtain ⟨rfl, rfl, rfl⟩ := hcs
      exact ⟨[], .inl ⟨rfl, rfl, rfl, rfl⟩⟩
    · simp [Value.cells] at hcs
      obtain ⟨rfl, rfl, rfl⟩ := hcs
      exact ⟨zs, .inr ⟨_, rfl, hl, hm, by simpa using hz, hcell, hwz⟩⟩
  obtain ⟨a1, len1, cap1, rfl⟩ := okWide_slice Tryd.underlying22 (hval 1 22 v1 rfl rfl)
  have k1 := h1
  have lt1 : ∀ x ∈ p1, x.block < W.heap.size := by obtain ⟨m, hm⟩ := k1; exact DataW.trod_lt m _ _ _ hm
  obtain ⟨z1, w1⟩ : ∃ zs, IsRow .u8 W a1 len1 cap1 zs := by
    obtain ⟨fuel, hf⟩ := h1
    rcases open_ints Tryd.underlying22 Tryd.underlying5 (by kernel_rfl) hf with ⟨hcs, _⟩ | ⟨x, l, c, zs, hcs, _, hl, hm, hz, _, hcell, hwz⟩
    · simp [Value.cells] at hcs
      obtain ⟨rfl, rfl, rfl⟩ := hcs
      exact ⟨[], .inl ⟨rfl, rfl, rfl, rfl⟩⟩
    · simp [Value.cells] at hcs
      obtain ⟨rfl, rfl, rfl⟩ := hcs
      exact ⟨zs, .inr ⟨_, rfl, hl, hm, by simpa using hz, hcell, hwz⟩⟩
  clear hA0 hval0
  refine (walk a0 len0 cap0 z0 a1 len1 cap1 z1 W (of_laid hL) w0 w1).mono fun e W' ⟨he, bel⟩ => ?_
  subst he
  exact ⟨_, rfl, _, _, _, [], _, [], hW', trodAll_mk1 (shut_bool Tryd.underlying4 _), (trodAll_cons_mk (Below.trod laidOut (by kernel_rfl) (of_decide_eq_true (by kernel_rfl)) k0 bel lt0) (trodAll_cons_mk (Below.trod laidOut (by kernel_rfl) (of_decide_eq_true (by kernel_rfl)) k1 bel lt1) trodAll_mk0)), rfl, bel.frame _, fun h => by cases h⟩

theorem over : Rows.crcPartsRow.holds Tryd.pinned (OpenSpec.ofChange Rows.crcPartsSpec) :=
  OpenClaim.holds_of_wide 4 Tryd.f4 rfl rfl rfl rfl rfl rfl rfl ⟨rfl, rfl, rfl, rfl, rfl⟩ rfl rfl rfl rfl rfl (by kernel_rfl) Tryd.func4 (by kernel_rfl)
    (of_decide_eq_true (by kernel_rfl)) (by unfold Func.isWrapper; first | (rw [if_pos (by decide +kernel)]; kernel_rfl) | (rw [if_neg (by decide +kernel)]; exact ⟨rfl, rfl⟩))
    (fun os started H enc _ => lifted os started H enc)

theorem proved : Rows.CrcPartsCardSaid :=
  Claim7.holds_tied_plain_at .later [] [.data] true (true, "7b123bce1e568699da8ae04d5be36bac09dff5987060df3eefb0255ff41a661c") false
    over (fun _ h => by cases h) (by kernel_rfl) (fun _ h => by cases h) crcParts_row_tie rfl ⟨rfl, rfl⟩ (by kernel_rfl) rfl
    (fun f fn hf hfn => by
      obtain rfl : f = 4 := Option.some.inj ((show Tryd.prog.funcNamed "pledge/pledgelaw02.CrcParts" = some 4 by kernel_rfl).symm.trans hf) |>.symm
      obtain rfl : fn = Tryd.f4 := (Option.some.inj (Tryd.func4.symm.trans hfn)).symm
      exact ⟨by kernel_rfl, fun j t ht => by
        rw [Tryd.params4] at ht
        have hm : t ∈ [22, 22] := by simpa using Array.mem_of_getElem? ht
        have hall : ([22, 22].all fun u => !Tryd.prog.wantsStandIn u) = true := by kernel_rfl
        exact (show Tryd.prog.wantsStandIn t = false by simpa using List.all_eq_true.1 hall t hm)⟩)
    (by kernel_rfl)
#print axioms proved
end Go.Proofs.YtoegffnmjohonaaDoor.crcParts
