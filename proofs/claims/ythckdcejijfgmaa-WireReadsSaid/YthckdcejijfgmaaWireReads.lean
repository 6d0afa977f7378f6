/-
  WireReads answers true of any row of bytes and any row of items, and writes nothing that was there. No condition.
-/
import Derived.Test.YthckdcejijfgmaaRows
import Derived.Test.YthckdcejijfgmaaWireKept
import Derived.Outline
import Derived.Deep.QuietTactic
import Derived.BigQuiet
import Derived.WalkKit
import Derived.ProofKit
import Derived.OpenShut
import Derived.ShutString
import Derived.ChangeOld
import Derived.Below
namespace Go.Proofs.Ythckdcejijfgmaa.wireReads
open Go.ChangeShapes Go.WideShapes Go.ChangeAt Go.RowKit
open Go.ChangeMaps (open_string shut_string)
set_option linter.unusedVariables false

theorem own : ownKnob Try.prog.godebug = none := by kernel_rfl
theorem laidOut : laidOutB Try.prog = true := by kernel_rfl
def IsRow (k : IntKind) (w : World) (a : Option Addr) (len cap : Nat) (zs : List Int) : Prop :=
  (a = none ∧ len = 0 ∧ cap = 0 ∧ zs = []) ∨
  ∃ x, a = some x ∧ len ≤ cap ∧ cap ≤ maxLen ∧ zs.length = cap ∧ (∀ i, i < zs.length → w.cell? (x.add i) = some (.int k (zs.getD i 0))) ∧ ∀ n ∈ zs, (Lit.int k n).wf = true

theorem row_sl {w : World} {a : Option Addr} {len cap : Nat} {zs : List Int} (h : IsRow .u8 w a len cap zs) (k : Nat) (hk : k ≤ len) : k ≤ cap ∧ ∃ L, Sl w a k cap L := by
  rcases h with ⟨rfl, rfl, rfl, rfl⟩ | ⟨x, rfl, hl, hm, hz, hc, hwf⟩
  · obtain rfl : k = 0 := by omega
    exact ⟨Nat.le_refl _, _, Sl.none⟩
  · exact ⟨by omega, _, sl_first k cap (by omega) (by omega) hc hwf⟩
/-- A copy of bytes, and what is known of its world. -/
structure Fresh (W w : World) (v : Value) (n : Nat) (L : List Nat) : Prop where
  row : Row w v n L
  own : ∀ k, v.ownBlock = some k → W.heap.size ≤ k
  below : Below W.heap.size W w
theorem fresh_copy {w w1 : World} {v : Value} {n : Nat} {L : List Nat} (hr : Row w1 v n L) (hc : Chg (fun k => (Value.slice (some ⟨w.heap.size, 0, none⟩) 0 0).ownBlock = some k) (w.alloc (.cells #[] 5)) w1) (hk : ∀ k, v.ownBlock = some k → (Value.slice (some ⟨w.heap.size, 0, none⟩) 0 0).ownBlock = some k ∨ w.heap.size + 1 ≤ k) : Fresh w w1 v n L := by
  refine ⟨hr, fun k hv => ?_, hc.below ((Below.refl _ _).alloc (Nat.le_refl _) _) (by simp) fun k hk => by simp [Value.ownBlock] at hk; omega⟩
  rcases hk k hv with h | h
  · simp [Value.ownBlock] at h; omega
  · omega

set_option maxHeartbeats 400000 in
set_option maxRecDepth 100000 in
theorem walk (a0 : Option Addr) (len0 cap0 : Nat) (z0 : List Int) (a1 : Option Addr) (len1 cap1 : Nat) (its1 : Nat → Item) (w : World) (w0 : IsRow .u8 w a0 len0 cap0 z0) (w1 : Items w a1 len1 cap1 its1) :
    Calls Try.prog 4 #[.slice a0 len0 cap0, .slice a1 len1 cap1] w fun e w' => e = .returned (.bool true) ∧ Below w.heap.size w w' := by
  obtain ⟨k0, hk0, hl0, hb0⟩ : ∃ k : Nat, min (len0 : Int) 400 = (k : Int) ∧ k ≤ len0 ∧ k ≤ 400 := least len0 400
  have hk0' : (if (400 : Int) < (len0 : Int) then (400 : Int) else (len0 : Int)) = (k0 : Int) := by rw [← hk0]; split <;> omega
  obtain ⟨hc0, L0, HS⟩ := row_sl w0 k0 hl0
  have HI := Lib.hid w1
  have hcap1 : len1 ≤ 9223372036854775807 := Nat.le_trans w1.1 w1.2.1
  have HS1 : Hid (Sl (w.alloc (.cells #[] 5)) a0 k0 cap0 L0) := Lib.hid (HS.later ((Below.refl _ _).alloc (Nat.le_refl _) _))
  have HO := Lib.hid (own_none w)
  replace HS := Lib.hid HS
  clear w0 w1
  go_enter Try.func4, Try.ntmps4
  go_wp2_with (at_builtin; refine wpList_append_row rfl _ _ rfl _ _ [] rfl HO.out _ _ _ L0 rfl HS1.out (by omega) ?_)
  intro v1 w1 hr hc hk
  have hF := fresh_copy hr hc hk
  clear hr hc hk HO HS1
  obtain ⟨pb, cb, rfl, hcbm, hslb, hob⟩ := hF.row.sl
  have HF := Lib.hid hF
  have HSB := Lib.hid hslb
  have HOB := Lib.hid hob
  clear hF hslb hob
  by_cases h30 : 30 < len1
  · go_wp2_with fail
    refine (works_any _).mono ?_
    rintro e wC ⟨rfl, hC⟩
    have HC := Lib.hid (HF.out.below.trans (hC.mono HF.out.below.size))
    clear hC
    go_wp2_with fail
    go_ret
    exact ⟨rfl, HC.out⟩
  · have HO2 := Lib.hid (own_none w1)
    have HS2 : Hid (Sl (w1.alloc (.cells #[] 5)) pb k0 cb L0) := Lib.hid (HSB.out.later ((Below.refl _ _).alloc (Nat.le_refl _) _))
    go_wp2_with (at_builtin; refine wpList_append_row rfl _ _ rfl _ _ [] rfl HO2.out _ _ _ L0 rfl HS2.out (by omega) ?_)
    intro v2 w2 hr hc hk
    have hF2 := fresh_copy hr hc hk
    clear hr hc hk HO2 HS2
    obtain ⟨p2, c2, rfl, _, hsl2, hob2⟩ := hF2.row.sl
    have HF2 := Lib.hid hF2
    have HSL2 := Lib.hid hsl2
    clear hF2 hsl2 hob2
    go_wp2_with fail
    refine (read_any _ _ _ _ _ HSL2.out (by omega)).mono ?_
    rintro e w3 ⟨B, pr, cr, rfl, g1, g2, g3, g4⟩
    have G1 := Lib.hid g1
    have G2 := Lib.hid g2
    have G3 := Lib.hid g3
    have G4 := Lib.hid g4
    clear g1 g2 g3 g4
    go_wp2_with fail
    have HR2 : Hid (Row w3 (.slice p2 k0 c2) k0 L0) := Lib.hid (HF2.out.row.keep fun k hk => G4.out.block k (HF2.out.row.bound k hk))
    go_loopw [36] (fun i wr => ∃ (j : Nat) (M : List Nat), j ≤ k0 ∧ i = .int .i64 j ∧ Row wr (.slice p2 k0 c2) k0 M ∧ Chg (fun k => (Value.slice p2 k0 c2).ownBlock = some k) w3 wr) (fun i _ => k0 - (intOf i).toNat)
    case atStart => exact ⟨0, L0, Nat.zero_le _, rfl, HR2.out, Chg.refl _ _⟩
    case round =>
      obtain ⟨j, M, hj, rfl, hrow, hch⟩ := hrel
      have HCH := Lib.hid hch
      clear hch HR2
      by_cases hlt : j < k0
      · obtain ⟨g, cg, he⟩ := row_form hrow (by omega)
        obtain ⟨rfl, _⟩ : p2 = some ⟨g, 0, none⟩ ∧ c2 = cg := by simpa using he
        clear he
        obtain ⟨hl, hfz, hz⟩ := hrow.load j hlt
        have HRW := Lib.hid hrow
        clear hrow
        generalize M.getD j 0 = z at *
        have HST : Hid (Row (wr.setCell ⟨g, j, none⟩ (.int .u8 (((z : Int) + 1) % 256))) (.slice (some ⟨g, 0, none⟩) k0 c2) k0 (M.set j ((z + 1) % 256))) := Lib.hid (HRW.out.store j ((z + 1) % 256) (by omega) _ (by omega))
        have HCN : Hid (Chg (fun k => (Value.slice (some ⟨g, 0, none⟩) k0 c2).ownBlock = some k) w3 (wr.setCell ⟨g, j, none⟩ (.int .u8 (((z : Int) + 1) % 256)))) := Lib.hid (HCH.out.setCell _ _ fun _ => rfl)
        clear HCH HRW
        go_wp2_with fail
        go_roundw
        case rel => exact ⟨j + 1, _, by omega, by go_num, HST.out, HCN.out⟩
        case measure => simp [intOf]; omega
      · obtain rfl : j = k0 := by omega
        clear hrow
        have hv2 : ∀ k, (Value.slice p2 j c2).ownBlock = some k → w1.heap.size ≤ k ∧ k < w2.heap.size := fun k hk => ⟨HF2.out.own k hk, HF2.out.row.bound k hk⟩
        have hpb : ∀ a, pb = some a → a.block < w1.heap.size := fun a ha => HF.out.row.bound _ (HOB.out a ha)
        have hb12 : w1.heap.size ≤ w2.heap.size := HF2.out.below.size
        have hb01 : w.heap.size ≤ w1.heap.size := HF.out.below.size
        have hrd : Rd wr B pr cr (0, L0) := G2.out.chg HCH.out (fun e => by have := hv2 _ e; have := G1.out; omega) fun a ha e => by have := hv2 _ e; have := (G3.out a ha).1; omega
        have hslb : Sl wr pb j cb L0 := (((HSB.out.later HF2.out.below).later G4.out).chg HCH.out fun a ha e => by have := hv2 _ e; have := hpb a ha; omega)
        have hbel : Below w.heap.size w wr := HCH.out.below ((HF.out.below.trans (HF2.out.below.mono hb01)).trans (G4.out.mono (by omega))) (Nat.le_trans (by omega) G4.out.size) fun k hk => by have := hv2 k hk; omega
        have hL4 : L0.length ≤ 400 := by have : L0.length = j := HS.out.len; omega
        have HREADS : Hid (Reads w wr B pb (0, L0) (0, L0) pb j cb) := Lib.hid ⟨⟨pr, cr, hrd⟩, ⟨hslb, From.refl _, hcbm⟩, hbel, Nat.le_trans (Nat.le_trans hb01 hb12) G1.out, fun a ha e => by have := hpb a ha; have := G1.out; omega, hL4⟩
        clear hv2 hpb hb12 hb01 hrd hslb hbel hL4 HCH
        go_wp2_with fail
        go_loopw [7, 8, 10] (fun r e i wl => ∃ (t : Nat) (S : St) (q : Option Addr) (m d : Nat), t ≤ len1 ∧ i = .int .i64 t ∧ e = .int .i64 S.1 ∧ r = .slice q m d ∧ Reads w wl B pb S S q m d) (fun _ _ i _ => len1 - (intOf i).toNat)
        case atStart => exact ⟨0, (0, L0), pb, j, cb, Nat.zero_le _, rfl, rfl, rfl, HREADS.out⟩
        case round =>
          obtain ⟨t, S, q, m, d, ht, rfl, rfl, rfl, hr⟩ := hrel
          have HR := Lib.hid hr
          clear hr HREADS
          have hmlen : m ≤ 400 := by
            have e1 := HR.out.same
            have e2 := HR.out.len
            unfold restOf at e1
            split at e1
            · omega
            · simp at e1; omega
          by_cases hlt : t < len1
          · obtain ⟨b0, o0, he0, hi0⟩ := HI.out.2.2 (by omega)
            have HITW := Lib.hid (hi0 t hlt)
            subst he0
            clear hi0
            generalize hq1 : its1 t = it at *
            clear hq1
            have hit := HITW.out.later HR.out.below
            have c0 := hit.c0
            have c1 := hit.c1
            have c2' := hit.c2
            have c3 := hit.c3
            obtain ⟨p', c', hrd⟩ := HR.out.rd
            have HRI := Lib.hid (read_item B c' p' S it _ hrd (by have := HR.out.len; omega) hit.k8)
            have hal : (act it S).1.2.length ≤ 400 := Nat.le_trans (act_len it S) HR.out.len
            clear hit hrd
            go_wp2_with fail
            refine HRI.out.mono ?_
            rintro e w5 ⟨Q, M, D, rfl, hs, hw⟩
            have HR5 := Lib.hid (HR.out.read hw hal)
            have HQ := Lib.hid hs
            clear hs hw HRI c0 c1 c2' c3
            have hit := HITW.out.later HR5.out.below
            have c0 := hit.c0
            have c1 := hit.c1
            have c2' := hit.c2
            have c3 := hit.c3
            have hk8 := hit.k8
            clear hit
            obtain ⟨y, Z⟩ := S
            by_cases hy : y = 0
            · subst hy
              have hpart : Part w5 pb q m d Z := HR5.out.part
              have HG := Lib.hid (got_item q m d Z it w5 hpart.1 hpart.2.2 hk8)
              clear hpart hk8
              generalize act it (0, Z) = A at *
              go_wp2_with fail
              refine HG.out.mono ?_
              rintro e w6 ⟨u, um, ud, q', m', d', rfl, hu, hp, hb⟩
              have HR6 : Hid (Reads w w6 B pb A.1 A.1 q' m' d') := Lib.hid (HR5.out.got hb hp)
              have hcq := conv_sl (HQ.out.later hb)
              have hcu := conv_sl hu.1
              clear hu hp hb HG
              go_wp2_with fail
              refine (reads_err w _ B pb q' A.1 A.1 m' d' HR6.out).mono ?_
              rintro e w7 ⟨rfl, rfl⟩
              go_wp2_with fail
              refine (reads_left w _ B pb q' A.1 m' d' HR6.out).mono ?_
              rintro e w7 ⟨rfl, rfl⟩
              clear hcq hcu
              go_wp2_with fail
              go_roundw
              case rel => exact ⟨t + 1, A.1, q', m', d', by omega, by go_num, rfl, rfl, HR6.out⟩
              case measure => simp [intOf]; omega
            · have hy1 : (y == 0) = false := by simpa using hy
              have ha := act_wrong it (y, Z) hy
              rw [ha] at HR5 HQ ⊢
              have hM : M = 0 := by have := HQ.out.len; simpa using this.symm
              subst hM
              have HR6 : Hid (Reads w w5 B pb (y, Z) (y, Z) q m d) := HR5
              clear HR5 ha hal
              go_wp2_with fail
              refine (reads_err w _ B pb q (y, Z) (y, Z) m d HR6.out).mono ?_
              rintro e w7 ⟨rfl, rfl⟩
              go_wp2_with fail
              refine (reads_left w _ B pb q (y, Z) m d HR6.out).mono ?_
              rintro e w7 ⟨rfl, rfl⟩
              go_wp2_with fail
              go_roundw
              case rel => exact ⟨t + 1, (y, Z), q, m, d, by omega, by go_num, rfl, rfl, HR6.out⟩
              case measure => simp [intOf]; omega
          · obtain rfl : t = len1 := by omega
            obtain ⟨y, Z⟩ := S
            have HW := Lib.hid HR.out.below
            by_cases hy : y = 0
            · subst hy
              by_cases hm0 : 0 < m
              · go_wp2_with fail
                refine (reads_end_as w _ B pb q (0, Z) m d HR.out 8 (if_pos ⟨rfl, hm0⟩)).mono ?_
                rintro e w7 ⟨rfl, rfl⟩
                go_wp2_with fail
                refine (works_any _).mono ?_
                rintro e wC ⟨rfl, hC⟩
                have HC := Lib.hid (HW.out.trans (hC.mono HW.out.size))
                clear hC
                go_wp2_with fail
                go_ret
                exact ⟨rfl, HC.out⟩
              · go_wp2_with fail
                refine (reads_end_as w _ B pb q (0, Z) m d HR.out 0 (if_neg fun h => hm0 h.2)).mono ?_
                rintro e w7 ⟨rfl, rfl⟩
                go_wp2_with fail
                refine (works_any _).mono ?_
                rintro e wC ⟨rfl, hC⟩
                have HC := Lib.hid (HW.out.trans (hC.mono HW.out.size))
                clear hC
                go_wp2_with fail
                go_ret
                exact ⟨rfl, HC.out⟩
            · have hy1 : (y == 0) = false := by simpa using hy
              go_wp2_with fail
              refine (reads_end_as w _ B pb q (y, Z) m d HR.out y (if_neg fun h => hy h.1)).mono ?_
              rintro e w7 ⟨rfl, rfl⟩
              go_wp2_with fail
              refine (works_any _).mono ?_
              rintro e wC ⟨rfl, hC⟩
              have HC := Lib.hid (HW.out.trans (hC.mono HW.out.size))
              clear hC
              go_wp2_with fail
              go_ret
              exact ⟨rfl, HC.out⟩

set_option maxRecDepth 100000 in
theorem lifted (os : Os) (started : os.Started) (H : Type) (enc : TypeId × Value → H) :
    ReturnsInHanded {} Try.checked os 4 .any (Rows.wireReadsSpec.pre6 enc Try.prog Try.f4 Rows.wireReadsRow.domain false) (Rows.wireReadsSpec.post enc Try.prog Try.f4 false true false false) := by
  refine returnsInHanded_of_change (C := Try.checked) own started (by kernel_rfl) Try.func4
    (ChangeSpec.witness6 (enc := enc) (C := Try.checked) false ⟨#[], #[.slice none 0 0, .slice none 0 0], []⟩ 8 (by kernel_rfl) (by kernel_rfl) (by kernel_rfl) (by kernel_rfl)) ?_
  intro W base args ds gs before hval0 hW hcnd _
  have hval : ∀ (j : Nat) t v, Try.f4.params[j]? = some t → args[j]? = some v → Value.okWide Try.prog W .any base t v := hval0
  have hW' := hW
  obtain ⟨p, q, hA0, hV, rfl, hfz, hnd⟩ := hW
  have hA : DataW.TrodAll enc Try.prog W 0 (fun _ => true) true Try.f4.params.toList args.toList ds p := hA0
  rw [Try.params4] at hA hval
  obtain ⟨v0, vs0, d0, ds0, p0, q0, hargs, rfl, rfl, h0, r0⟩ := trodAll_cons hA
  obtain ⟨v1, vs1, d1, ds1, p1, q1, rfl, rfl, rfl, h1, r1⟩ := trodAll_cons r0
  obtain ⟨rfl, rfl, rfl⟩ := trodAll_nil r1
  obtain rfl : args = #[v0, v1] := by cases args; simp_all
  obtain ⟨rfl, rfl⟩ := trodVars_none hV
  obtain ⟨a0, len0, cap0, rfl⟩ := okWide_slice Try.underlying27 (hval 0 27 v0 rfl rfl)
  have k0 := h0
  have lt0 : ∀ x ∈ p0, x.block < W.heap.size := by obtain ⟨m, hm⟩ := k0; exact DataW.trod_lt m _ _ _ hm
  obtain ⟨z0, w0⟩ : ∃ zs, IsRow .u8 W a0 len0 cap0 zs := by
    obtain ⟨fuel, hf⟩ := h0
    rcases open_ints Try.underlying27 Try.underlying5 (by kernel_rfl) hf with ⟨hcs, _⟩ | ⟨x, l, c, zs, hcs, _, hl, hm, hz, _, hcell, hwz⟩
    · simp [Value.cells] at hcs
      obtain ⟨rfl, rfl, rfl⟩ := hcs
      exact ⟨[], .inl ⟨rfl, rfl, rfl, rfl⟩⟩
    · simp [Value.cells] at hcs
      obtain ⟨rfl, rfl, rfl⟩ := hcs
      exact ⟨zs, .inr ⟨_, rfl, hl, hm, by simpa using hz, hcell, hwz⟩⟩
  obtain ⟨a1, len1, cap1, rfl⟩ := okWide_slice Try.underlying22 (hval 1 22 v1 rfl rfl)
  have k1 := h1
  have lt1 : ∀ x ∈ p1, x.block < W.heap.size := by obtain ⟨m, hm⟩ := k1; exact DataW.trod_lt m _ _ _ hm
  obtain ⟨its1, w1⟩ : ∃ its, Items W a1 len1 cap1 its := by
    obtain ⟨fuel, hf⟩ := h1
    exact open_items hf
  clear hA0 hval0
  refine (walk a0 len0 cap0 z0 a1 len1 cap1 its1 W w0 w1).mono fun e W' ⟨he, bel⟩ => ?_
  subst he
  exact ⟨_, rfl, _, _, _, [], _, [], hW', trodAll_mk1 (shut_bool Try.underlying4 _), (trodAll_cons_mk (Below.trod laidOut (by kernel_rfl) (of_decide_eq_true (by kernel_rfl)) k0 bel lt0) (trodAll_cons_mk (Below.trod laidOut (by kernel_rfl) (of_decide_eq_true (by kernel_rfl)) k1 bel lt1) trodAll_mk0)), rfl, bel.frame _, fun h => by cases h⟩

theorem over : Rows.wireReadsRow.holds Try.pinned (OpenSpec.ofChange Rows.wireReadsSpec) :=
  OpenClaim.holds_of_wide 4 Try.f4 rfl rfl rfl rfl rfl rfl rfl ⟨rfl, rfl, rfl, rfl, rfl⟩ rfl rfl rfl rfl rfl (by kernel_rfl) Try.func4 (by kernel_rfl)
    (of_decide_eq_true (by kernel_rfl)) (by unfold Func.isWrapper; first | (rw [if_pos (by decide +kernel)]; kernel_rfl) | (rw [if_neg (by decide +kernel)]; exact ⟨rfl, rfl⟩))
    (fun os started H enc _ => lifted os started H enc)

theorem proved : Rows.WireReadsSaid := over
#print axioms proved
end Go.Proofs.Ythckdcejijfgmaa.wireReads
