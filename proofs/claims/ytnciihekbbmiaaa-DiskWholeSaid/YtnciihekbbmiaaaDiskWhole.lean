/-
  DiskWhole answers true of any acts and any act, and writes nothing that was there. No condition.
PLAIN4
-/
import Derived.Test.YtnciihekbbmiaaaRows
import Derived.Test.YtnciihekbbmiaaaDiskOpen
import Derived.Test.YtnciihekbbmiaaaDiskWholeMath
import Derived.Test.YtnciihekbbmiaaaHand
import Derived.Deep.RegionHeld3
import Derived.WalkKit
import Derived.ProofKit
import Derived.OpenShut
import Derived.ShutString
import Derived.ChangeOld
import Derived.Below
namespace Go.Proofs.Ytnciihekbbmiaaa.diskWhole
open Go.ChangeShapes Go.WideShapes Go.ChangeAt Go.RowKit
open Go.ChangeMaps (open_string shut_string)
set_option linter.unusedVariables false

theorem own : ownKnob Try.prog.godebug = none := by kernel_rfl
theorem laidOut : laidOutB Try.prog = true := by kernel_rfl

set_option maxHeartbeats 1000000 in
set_option maxRecDepth 100000 in
theorem walk (a0 : Option Addr) (len0 cap0 : Nat) (L0 : List Ac) (a1 : Array Value) (w : World) (w0 : AL w a0 len0 cap0 L0 ∧ ∀ y ∈ L0, AnyA y) (w1 : ActIn w a1) :
    Calls Try.prog 5 #[.slice a0 len0 cap0, .agg a1] w fun e w' => e = .returned (.bool true) ∧ Below w.heap.size w w' := by
  obtain ⟨hA, _⟩ := w0
  obtain ⟨ya, rfl, hya⟩ := w1
  have hb0 : Below w.heap.size w (w.alloc (.cells (ac ya).toArray 41)) := (Below.refl _ _).alloc (Nat.le_refl _) _
  have HX := Lib.hid (alloc_block w (.cells (ac ya).toArray 41))
  have HA := Lib.hid (hA.later hb0)
  have HY : Hid (BL (w.alloc (.cells (ac ya).toArray 41)) ya.q ya.m ya.cq ya.b ∧ ya.k < 256) := Lib.hid ⟨SlG.later hya.1 hb0, hya.2⟩
  have HB0 := Lib.hid hb0
  have hf := few_any a0 len0 cap0 L0 _ HA.out
  clear hA hya hb0
  obtain ⟨X, hX⟩ : ∃ X, w.heap.size = X := ⟨_, rfl⟩
  have HXX := Lib.hid hX
  unfold ac at *
  go_enter Try.func5, Try.ntmps5
  go_wp2_with fail
  rw [hX] at HX
  clear hX
  generalize hW0 : w.alloc (.cells #[.int .u8 (ya.k : Nat), .int .i64 ya.n, .int .i64 ya.tear, .int .i64 ya.x, .slice ya.q ya.m ya.cq] 41) = W0 at *
  clear hW0
  refine hf.mono ?_
  rintro e w' ⟨⟨tf, rfl, hlen⟩, rfl⟩
  have hc0 : ∀ w2, Below w'.heap.size w' w2 → w2.cell? ⟨X, 0, none⟩ = some (.int .u8 (ya.k : Nat)) ∧ w2.cell? ⟨X, 1, none⟩ = some (.int .i64 ya.n) ∧ w2.cell? ⟨X, 2, none⟩ = some (.int .i64 ya.tear) ∧ w2.cell? ⟨X, 3, none⟩ = some (.int .i64 ya.x) ∧ w2.cell? ⟨X, 4, none⟩ = some (.slice ya.q ya.m ya.cq) := fun w2 hb => by
    have h1 := block_later HX.out hb
    exact ⟨block_cell h1 rfl, block_cell h1 rfl, block_cell h1 rfl, block_cell h1 rfl, block_cell h1 rfl⟩
  have HC := Lib.hid hc0
  clear hc0
  cases tf with
  | false =>
    go_wp2_with fail
    refine (disk_works _).mono ?_
    rintro e W3 ⟨rfl, hb3⟩
    have HB3 := Lib.hid (HB0.out.trans (hb3.mono HB0.out.size))
    clear hb3
    go_wp2_with fail
    go_ret
    exact ⟨rfl, HB3.out⟩
  | true =>
    obtain ⟨hl40, hm3⟩ := hlen rfl
    obtain ⟨hone, hb1⟩ := one_act w' ya HY.out
    have hf2 := few_any (some ⟨w'.heap.size, 0, none⟩) 1 1 [ya] _ hone
    have HA1 := Lib.hid (HA.out.later hb1)
    have HY1 := Lib.hid (SlG.later HY.out.1 hb1)
    have HB1 := Lib.hid hb1
    obtain ⟨x0, x1, x2, x3, x4⟩ := HC.out w' (Below.refl _ _)
    have HM3 := Lib.hid hm3
    clear hf hlen hm3 hone hb1
    unfold ac at *
    go_wp2_with fail
    generalize hW1 : w'.alloc (.cells #[.int .u8 (ya.k : Nat), .int .i64 ya.n, .int .i64 ya.tear, .int .i64 ya.x, .slice ya.q ya.m ya.cq] 41) = W1 at *
    clear hW1
    refine hf2.mono ?_
    rintro e W1' ⟨⟨tf2, rfl, hlen2⟩, rfl⟩
    have HB01 := Lib.hid (HB0.out.trans (HB1.out.mono HB0.out.size))
    clear hf2 x0 x1 x2 x3 x4
    cases tf2 with
    | false =>
      go_wp2_with fail
      refine (disk_works _).mono ?_
      rintro e W3 ⟨rfl, hb3⟩
      have HB3 := Lib.hid (HB01.out.trans (hb3.mono HB01.out.size))
      clear hb3
      go_wp2_with fail
      go_ret
      exact ⟨rfl, HB3.out⟩
    | true =>
      have hm1 : ya.m ≤ 300 := (hlen2 rfl).2 0 (by omega)
      have hp := played_any a0 len0 cap0 L0 W1' HA1.out hl40 HM3.out
      clear hlen2
      go_wp2_with fail
      refine hp.mono ?_
      rintro e W2 ⟨B0, d, col2, rfl, hd2, hh2, htot, hL, hlk⟩
      have hz := hd2.z_in
      have htot1 := sync_tot d (by omega)
      have hsy := disk_sync hd2 (by omega) (by omega)
      have hs32 : d.s = 32 := by rw [hlk.2.2.2.1]; exact pd_facts.2.2.2.1
      have hv4 : d.sV.length = 4 := by rw [show d.sV.length = d.V.length from foldV_len .., hlk.2.2.2.2]; exact pd_facts.2.2.1
      have hde : d.sync = ⟨d.M, d.a, d.z, 32, d.sV, d.sT, []⟩ := by rw [← hs32]; rfl
      have hall : ∀ y ∈ d.sV, y.length = 32 := by
        obtain ⟨A, h⟩ := hd2
        obtain ⟨G, hv, _⟩ := h.seen.vo
        rw [← hs32]
        exact hv.len
      have hsl : d.sync.sT.len d.sync.z ≤ 1000000 := by
        have h1 := d.sT_len (by omega)
        show d.sT.len d.z ≤ 1000000
        omega
      have hwf := whole_facts d.M d.a d.z d.sV d.sT hv4 hall ya.n ya.b
      rw [← hde] at hwf
      have hsv4 : d.sync.V.length = 4 := hv4
      have hvv : d.sync.sV = d.sV := rfl
      have hsL : d.sync.L = [] := rfl
      have hss : d.sync.s = 32 := hs32
      have htt : d.sync.tot ≤ 12000 := by omega
      have HHH := Lib.hid hh2
      clear hp hd2 hh2 htot hL hlk hz htot1 hs32 hv4 hde hall
      generalize d.sync = d1 at *
      have HWF := Lib.hid hwf
      have HSL := Lib.hid hsl
      have HSV := Lib.hid hsv4
      have HVV := Lib.hid hvv
      have HLL := Lib.hid hsL
      have HSS := Lib.hid hss
      have HTT := Lib.hid htt
      clear hwf hsl hsv4 hvv hsL hss htt
      generalize d.sV = V0 at *
      go_wp2_with fail
      refine hsy.mono ?_
      rintro e W3 ⟨rfl, ht3⟩
      obtain ⟨col3, _, hd3, hh3, _⟩ := HHH.out.act ht3 (by omega)
      have hcp := disk_copy hd3 (by have := HTT.out; omega) (by rw [HLL.out]; show 0 ≤ 1000000; omega) 7 (by omega)
      have HD3 := Lib.hid hd3
      have HH3 := Lib.hid hh3
      clear hsy ht3 hd3 hh3 HHH
      go_wp2_with fail
      refine hcp.mono ?_
      rintro e W4 ⟨B1, rfl, ⟨col4, he4, hda4⟩, _, hb4⟩
      have hd4 := (HD3.out.recol he4).later hb4
      have hh4 := (HH3.out.ext he4).later hb4
      have hbl4 := SlG.later HY1.out hh4.below
      have hput := disk_put hd4 (by rw [HLL.out]; show 0 < 1000000; omega) ya.n ya.q ya.m ya.cq ya.b hbl4 (hh4.free HY1.out (by omega))
      obtain ⟨x0, x1, x2, x3, x4⟩ := HC.out W4 (HB1.out.trans (hh4.below.mono HB1.out.size))
      have HD4 := Lib.hid hd4
      have HA4 := Lib.hid hda4
      have HH4 := Lib.hid hh4
      clear hcp he4 hda4 hb4 hd4 hh4 hbl4 HD3 HH3
      generalize hE0 : d1.putE ya.n ya.b = e0 at *
      have HE0 := Lib.hid hE0
      clear hE0
      go_wp2_with fail
      refine hput.mono ?_
      rintro e W5 ⟨rfl, ht5⟩
      obtain ⟨col5, he5, hd5, hh5, hc5⟩ := HH4.out.act ht5 (by omega)
      have hda5 := HA4.out.other he5 hc5 (by omega) (by omega)
      have HD5 := Lib.hid hd5
      have HA5 := Lib.hid hda5
      have HH5 := Lib.hid hh5
      clear hput ht5 he5 hd5 hh5 hc5 hda5 x0 x1 x2 x3 x4 HD4 HA4 HH4
      by_cases he : e0 = 0
      · subst he
        obtain ⟨k, hk, hk4, hkb, hko, hf2, hf3, hf4, hf5⟩ := HWF.out rfl ya.tear
        have hpe : d1.put ya.n ya.b = d1.add (.put ya.n ya.b) := if_pos HE0.out
        have hcp := disk_copy HD5.out (by rw [hpe, add_tot]; have := HTT.out; simp only [Dw.wt]; omega) (by rw [hpe]; show (d1.L ++ [_]).length ≤ 1000000; rw [HLL.out]; simp) 13 (by omega)
        rw [hpe] at hcp
        have HD5' := HD5
        rw [hpe] at HD5'
        have HK := Lib.hid hk
        have HK4 := Lib.hid hk4
        have HKB := Lib.hid hkb
        have HKO := Lib.hid hko
        have HF2 := Lib.hid hf2
        have HF3 := Lib.hid hf3
        have HF4 := Lib.hid hf4
        have HF5 := Lib.hid hf5
        have HT2 : Hid ((d1.add (.put ya.n ya.b)).tot ≤ 12000) := Lib.hid (by rw [add_tot]; have := HTT.out; simp only [Dw.wt]; omega)
        have HL2 : Hid ((d1.add (.put ya.n ya.b)).L.length = 1) := Lib.hid (by show (d1.L ++ [_]).length = 1; rw [HLL.out]; rfl)
        have HS2 : Hid ((d1.add (.put ya.n ya.b)).s = 32) := Lib.hid HSS.out
        have HV2 : Hid ((d1.add (.put ya.n ya.b)).V.length = 4) := Lib.hid HSV.out
        clear hk hk4 hkb hko hf2 hf3 hf4 hf5 hpe HD5 HWF
        generalize d1.add (.put ya.n ya.b) = d2 at *
        go_wp2_with fail
        refine hcp.mono ?_
        rintro e W6 ⟨B2, rfl, ⟨col6, he6, hdc6⟩, _, hb6⟩
        have h6 : Three W1' W6 col6 B0 B1 B2 d2 d1 d2 := ⟨(HH5.out.ext he6).later hb6, (HD5'.out.recol he6).later hb6, (HA5.out.recol he6).later hb6, hdc6⟩
        have hcr := disk_crash h6.h0 (by have := HT2.out; omega) (by rw [HL2.out]; omega) 0 ya.tear
        obtain ⟨x0, x1, x2, x3, x4⟩ := HC.out W6 (HB1.out.trans (h6.hd.below.mono HB1.out.size))
        have H6 := Lib.hid h6
        clear hcp he6 hdc6 hb6 h6 HD5' HA5 HH5
        have HT3 : Hid ((d2.crash 0 ya.tear).tot ≤ 12000) := Lib.hid (Nat.le_trans (crash_tot d2 0 ya.tear (by have := H6.out.h0.z_in; omega)) HT2.out)
        have HS3 : Hid ((d2.crash 0 ya.tear).s = 32) := Lib.hid HS2.out
        have HV3 : Hid ((d2.crash 0 ya.tear).V.length = 4) := Lib.hid ((crV_len _ _ _ _ _).trans HV2.out)
        have HL3 : Hid ((d2.crash 0 ya.tear).L = []) := Lib.hid rfl
        generalize d2.crash 0 ya.tear = d3 at *
        go_wp2_with fail
        refine hcr.mono ?_
        rintro e W7 ⟨rfl, ht7⟩
        obtain ⟨col7, h7⟩ := H6.out.act0 ht7
        obtain ⟨x0', x1', x2', x3', x4'⟩ := HC.out W7 (HB1.out.trans (h7.hd.below.mono HB1.out.size))
        have H7 := Lib.hid h7
        clear hcr ht7 h7 x0 x1 x2 x3 x4 H6
        obtain ⟨n, hn⟩ : ∃ n, kp ya.tear 32 = n := ⟨_, rfl⟩
        have hn32 : n ≤ 32 := by have := kp_le ya.tear 32 (by omega); omega
        obtain ⟨m0, hm0⟩ : ∃ m0 : Int, max ya.tear 0 = m0 := ⟨_, rfl⟩
        have hk1 : (if ya.tear < 0 then 0 else ya.tear) = m0 := by rw [← hm0]; split <;> omega
        have hk2 : (if 32 < m0 then 32 else m0) = (n : Int) := by rw [← hn, ← hm0]; unfold kp; split <;> omega
        have hk3 : min m0 32 = (n : Int) := by rw [← hn, ← hm0]; unfold kp; omega
        have HN' := Lib.hid hn
        have hbk2 := disk_block H7.out.h2 k (by rw [HV2.out]; exact HK4.out)
        rw [HS2.out] at hbk2
        have HBK1 : Hid (∀ w', Below W7.heap.size W7 w' → Calls Try.prog 22 #[.pointer (some ⟨B1, 0, none⟩), .int .i64 (k : Nat)] w' fun e w'' => ∃ p c, e = .returned (.slice p 32 c) ∧ Below w'.heap.size w' w'') := Lib.hid fun w' hb => by
          have h1 := disk_block (H7.out.h1.later hb) k (by rw [HSV.out]; exact HK4.out)
          rw [HSS.out] at h1
          exact h1.mono fun e w'' hh => by
            obtain ⟨p, c, h2, _, h3⟩ := hh
            exact ⟨p, c, h2, h3⟩
        rw [HK.out] at x1'
        clear hn
        go_wp2_with fail
        clear hk1 hk2 hk3 hm0
        refine hbk2.mono ?_
        rintro e W8 ⟨p8, c8, rfl, _, hb8⟩
        have hbk1 := HBK1.out W8 hb8
        have H8 := Lib.hid (H7.out.later hb8)
        obtain ⟨y0, y1, y2, y3, y4⟩ := HC.out W8 (HB1.out.trans (H8.out.hd.below.mono HB1.out.size))
        rw [HK.out] at y1
        clear hbk2 hb8 x0' x1' x2' x3' x4' HBK1 H7
        go_wp2_with fail
        refine hbk1.mono ?_
        rintro e W9 ⟨p9, c9, rfl, hb9⟩
        have H9 := Lib.hid (H8.out.later hb9)
        clear hbk1 hb9 y0 y1 y2 y3 y4 H8
        have HN : Hid (∀ w', Below W9.heap.size W9 w' → w'.cell? ⟨X, 1, none⟩ = some (.int .i64 (k : Nat))) := Lib.hid fun w' hb => by
          have h1 := HC.out w' (HB1.out.trans ((H9.out.later hb).hd.below.mono HB1.out.size))
          rw [HK.out] at h1
          exact h1.2.1
        obtain ⟨s1, hs1⟩ : ∃ s1, strOfNums (V0.getD k []) = s1 := ⟨_, rfl⟩
        obtain ⟨s2, hs2⟩ : ∃ s2, strOfNums (tearL (V0.getD k []) ya.b 32) = s2 := ⟨_, rfl⟩
        obtain ⟨s3, hs3⟩ : ∃ s3, strOfNums (tearL (V0.getD k []) ya.b n) = s3 := ⟨_, rfl⟩
        have C0 : Hid (∀ w', Below W9.heap.size W9 w' → Calls Try.prog 22 #[.pointer (some ⟨B0, 0, none⟩), .int .i64 (k : Nat)] w' fun e w'' => ∃ p n c, e = .returned (.slice p n c) ∧ (∀ w3, Below w''.heap.size w'' w3 → (convert 31 9 (.slice p n c)).run Try.prog w3 = .ok (.string s3) w3) ∧ Below W9.heap.size W9 w'' ∧ Below w'.heap.size w' w'') := Lib.hid fun w' hb => (disk_block (H9.out.h0.later hb) k (by rw [HV3.out]; exact HK4.out)).mono fun e w'' hh => by
          obtain ⟨p', c', he, hbl, hbw⟩ := hh
          exact ⟨p', _, c', he, fun w3 h3 => by rw [← hs3, ← HN'.out, ← HF3.out]; exact conv_bl (SlG.later hbl h3), hb.trans (hbw.mono hb.size), hbw⟩
        have C2 : Hid (∀ w', Below W9.heap.size W9 w' → Calls Try.prog 22 #[.pointer (some ⟨B2, 0, none⟩), .int .i64 (k : Nat)] w' fun e w'' => ∃ p n c, e = .returned (.slice p n c) ∧ (∀ w3, Below w''.heap.size w'' w3 → (convert 31 9 (.slice p n c)).run Try.prog w3 = .ok (.string s2) w3) ∧ Below W9.heap.size W9 w'' ∧ Below w'.heap.size w' w'') := Lib.hid fun w' hb => (disk_block (H9.out.h2.later hb) k (by rw [HV2.out]; exact HK4.out)).mono fun e w'' hh => by
          obtain ⟨p', c', he, hbl, hbw⟩ := hh
          exact ⟨p', _, c', he, fun w3 h3 => by rw [← hs2, ← HF2.out]; exact conv_bl (SlG.later hbl h3), hb.trans (hbw.mono hb.size), hbw⟩
        have C1 : Hid (∀ w', Below W9.heap.size W9 w' → Calls Try.prog 22 #[.pointer (some ⟨B1, 0, none⟩), .int .i64 (k : Nat)] w' fun e w'' => ∃ p n c, e = .returned (.slice p n c) ∧ (∀ w3, Below w''.heap.size w'' w3 → (convert 31 9 (.slice p n c)).run Try.prog w3 = .ok (.string s1) w3) ∧ Below W9.heap.size W9 w'' ∧ Below w'.heap.size w' w'') := Lib.hid fun w' hb => (disk_block (H9.out.h1.later hb) k (by rw [HSV.out]; exact HK4.out)).mono fun e w'' hh => by
          obtain ⟨p', c', he, hbl, hbw⟩ := hh
          rw [HVV.out] at hbl
          exact ⟨p', _, c', he, fun w3 h3 => by rw [← hs1]; exact conv_bl (SlG.later hbl h3), hb.trans (hbw.mono hb.size), hbw⟩
        have CP : Hid (∀ w', Below W9.heap.size W9 w' → Calls Try.prog 22 #[.pointer (some ⟨B1, 0, none⟩), .int .i64 (k : Nat)] w' fun e w'' => ∃ p c, e = .returned (.slice p 32 c) ∧ Below W9.heap.size W9 w'' ∧ Below w'.heap.size w' w'' ∧
            Calls Try.prog 21 #[.pointer (some ⟨B0, 0, none⟩), .int .i64 (k : Nat), .slice p 32 c] w'' fun e w4 => e = .returned (.int .i64 0) ∧ ∃ col', Three W1' w4 col' B0 B1 B2 (d3.add (.put k (V0.getD k []))) d1 d2) := Lib.hid fun w' hb => by
          have h1 := disk_block_new (H9.out.h1.later hb) k (by rw [HSV.out]; exact HK4.out)
          rw [HSS.out, HVV.out] at h1
          refine h1.mono fun e w'' hh => ?_
          obtain ⟨p, c, h2, h3, h4, h5⟩ := hh
          have hbb := hb.trans (h4.mono hb.size)
          have g := ((H9.out.later hb).recol (Ext.paint w' col7 0)).later h4
          refine ⟨p, c, h2, hbb, h4, (disk_put g.h0 (by rw [HL3.out]; show 0 < 1000000; omega) k p 32 c _ h3 (fun _ a ha ho => ?_)).mono ?_⟩
          · have h6 : paint col7 w'.heap.size 0 a.block = 0 := paint_new (h5 a ha)
            simp only [Go.Proofs.Ytnciihekbbmiaaa.own, h6] at ho
            omega
          · rintro e w4 ⟨h6, h7⟩
            have h8 : d3.put k (V0.getD k []) = d3.add (.put k (V0.getD k [])) := if_pos HF4.out
            rw [h8] at h7
            rw [HF4.out] at h6
            exact ⟨h6, g.act0 h7⟩
        have hz1 : (n : Int) ≤ 32 := by omega
        have hsz1 : s1.size = 32 := by rw [← hs1, str_size]; exact HKO.out
        have hsz2 : s2.size = 32 := by rw [← hs2, str_size, tear_len _ _ _ (by have := HKO.out; omega)]; exact HKO.out
        have hsz3 : min n 32 + (32 - n) ≤ 9223372036854775807 := by omega
        have heq : s2.extract 0 n ++ s1.extract n 32 = s3 := by
          rw [← hs1, ← hs2, ← hs3, str_extract, str_extract, str_append]
          congr 1
          have h1 := tear_two (V0.getD k []) ya.b n (by have := HKO.out; omega) (by have := HKO.out; have := HKB.out; omega)
          rw [HKO.out] at h1
          rw [← h1, List.drop_zero, Nat.sub_zero, List.take_of_length_le (l := (V0.getD k []).drop n) (by rw [List.length_drop, HKO.out]; exact Nat.le_refl _)]
        clear hs1 hs2 hs3
        have hbd : Below W9.heap.size W9 W9.drew := (Below.refl _ _).drew
        go_wp2_with fail
        refine wp_region_held_drew (S := fun w' => Hid (Below W9.heap.size W9 w')) (by kernel_rfl) (Lib.hid hbd) (fun hHeld => ?_)
        clear hbd
        refine wpAnyH_take (i := 0) (oi := ⟨some 62, _, _, _, _, _⟩) (v := .pointer (some ⟨B0, 0, none⟩)) rfl (by kernel_rfl) (by kernel_rfl) (by kernel_rfl) (fun _ _ _ h => h) (Or.inl ⟨by rfl, fun w' hw' => ?_⟩) (by assumption) ?_
        · clear hHeld
          go_simp
        simp only [Act.put, List.setIfInBounds_toArray, List.set_cons_zero, List.set_cons_succ]
        refine wpAnyH_take (i := 1) (oi := ⟨some 63, _, _, _, _, _⟩) (v := .pointer (some ⟨X, 1, none⟩)) rfl (by kernel_rfl) (by kernel_rfl) (by kernel_rfl) (fun _ _ _ h => h) (Or.inl ⟨by rfl, fun w' hw' => ?_⟩) (by assumption) ?_
        · clear hHeld
          go_simp
        simp only [Act.put, List.setIfInBounds_toArray, List.set_cons_zero, List.set_cons_succ]
        refine wpAnyH_take (i := 2) (oi := ⟨some 64, _, _, _, _, _⟩) (v := .int .i64 (k : Nat)) rfl (by kernel_rfl) (by kernel_rfl) (by kernel_rfl) (fun _ _ _ h => h) (Or.inl ⟨by rfl, fun w' hw' => ?_⟩) (by assumption) ?_
        · have g1 := HN.out w' hw'.out
          clear hHeld
          go_simp
        simp only [Act.put, List.setIfInBounds_toArray, List.set_cons_zero, List.set_cons_succ]
        refine wpAnyH_take (i := 5) (oi := ⟨some 67, _, _, _, _, _⟩) (v := .pointer (some ⟨B2, 0, none⟩)) rfl (by kernel_rfl) (by kernel_rfl) (by kernel_rfl) (fun _ _ _ h => h) (Or.inl ⟨by rfl, fun w' hw' => ?_⟩) (by assumption) ?_
        · clear hHeld
          go_simp
        simp only [Act.put, List.setIfInBounds_toArray, List.set_cons_zero, List.set_cons_succ]
        refine wpAnyH_take (i := 6) (oi := ⟨some 68, _, _, _, _, _⟩) (v := .pointer (some ⟨X, 1, none⟩)) rfl (by kernel_rfl) (by kernel_rfl) (by kernel_rfl) (fun _ _ _ h => h) (Or.inl ⟨by rfl, fun w' hw' => ?_⟩) (by assumption) ?_
        · clear hHeld
          go_simp
        simp only [Act.put, List.setIfInBounds_toArray, List.set_cons_zero, List.set_cons_succ]
        refine wpAnyH_take (i := 7) (oi := ⟨some 69, _, _, _, _, _⟩) (v := .int .i64 (k : Nat)) rfl (by kernel_rfl) (by kernel_rfl) (by kernel_rfl) (fun _ _ _ h => h) (Or.inl ⟨by rfl, fun w' hw' => ?_⟩) (by assumption) ?_
        · have g1 := HN.out w' hw'.out
          clear hHeld
          go_simp
        simp only [Act.put, List.setIfInBounds_toArray, List.set_cons_zero, List.set_cons_succ]
        refine wpAnyH_take (i := 10) (oi := ⟨some 72, _, _, _, _, _⟩) (v := .int .i64 (n : Nat)) rfl (by kernel_rfl) (by kernel_rfl) (by kernel_rfl) (fun _ _ _ h => h) (Or.inl ⟨by rfl, fun w' hw' => ?_⟩) (by assumption) ?_
        · clear hHeld
          go_simp
        simp only [Act.put, List.setIfInBounds_toArray, List.set_cons_zero, List.set_cons_succ]
        refine wpAnyH_take (i := 12) (oi := ⟨some 74, _, _, _, _, _⟩) (v := .pointer (some ⟨B1, 0, none⟩)) rfl (by kernel_rfl) (by kernel_rfl) (by kernel_rfl) (fun _ _ _ h => h) (Or.inl ⟨by rfl, fun w' hw' => ?_⟩) (by assumption) ?_
        · clear hHeld
          go_simp
        simp only [Act.put, List.setIfInBounds_toArray, List.set_cons_zero, List.set_cons_succ]
        refine wpAnyH_take (i := 13) (oi := ⟨some 75, _, _, _, _, _⟩) (v := .pointer (some ⟨X, 1, none⟩)) rfl (by kernel_rfl) (by kernel_rfl) (by kernel_rfl) (fun _ _ _ h => h) (Or.inl ⟨by rfl, fun w' hw' => ?_⟩) (by assumption) ?_
        · clear hHeld
          go_simp
        simp only [Act.put, List.setIfInBounds_toArray, List.set_cons_zero, List.set_cons_succ]
        refine wpAnyH_take (i := 14) (oi := ⟨some 76, _, _, _, _, _⟩) (v := .int .i64 (k : Nat)) rfl (by kernel_rfl) (by kernel_rfl) (by kernel_rfl) (fun _ _ _ h => h) (Or.inl ⟨by rfl, fun w' hw' => ?_⟩) (by assumption) ?_
        · have g1 := HN.out w' hw'.out
          clear hHeld
          go_simp
        simp only [Act.put, List.setIfInBounds_toArray, List.set_cons_zero, List.set_cons_succ]
        refine wpAnyH_take (i := 17) (oi := ⟨some 79, _, _, _, _, _⟩) (v := .int .i64 (n : Nat)) rfl (by kernel_rfl) (by kernel_rfl) (by kernel_rfl) (fun _ _ _ h => h) (Or.inl ⟨by rfl, fun w' hw' => ?_⟩) (by assumption) ?_
        · clear hHeld
          go_simp
        simp only [Act.put, List.setIfInBounds_toArray, List.set_cons_zero, List.set_cons_succ]
        refine wpAnyH_ready (rs := [3]) (by kernel_rfl) (by simp) (AllReadyH.cons rfl (fun K hK => ?_) AllReadyH.nil)
        go_simp
        go_wp2_with fail
        refine (C0.out _ hHeld.out).mono ?_
        rintro e w20 ⟨p20, n20, c20, rfl, hcv20, hb20, hbb20⟩
        have hH20 : Hid (Below W9.heap.size W9 w20) := Lib.hid hb20
        have HCV20 := Lib.hid hcv20
        go_wp2_with fail
        refine hK.out _ _ hH20 (fun hHeld2 => ?_)
        clear hH20
        clear hcv20
        clear hK K hHeld
        have hHeld := hHeld2
        clear hHeld2
        refine wpAnyH_less (S2 := fun w' => Hid (Below W9.heap.size W9 w') ∧ Hid (Below w20.heap.size w20 w')) (fun _ h => h.1) _ _ _ _ ?_
        have hHeld2 : (fun w' => Hid (Below W9.heap.size W9 w') ∧ Hid (Below w20.heap.size w20 w')) w20 := ⟨hHeld, Lib.hid (Below.refl _ _)⟩
        clear hHeld
        have hHeld := hHeld2
        clear hHeld2
        refine wpAnyH_take (i := 4) (oi := ⟨some 66, _, _, _, _, _⟩) (v := .string s3) rfl (by kernel_rfl) (by kernel_rfl) (by kernel_rfl) (fun _ _ _ h => h) (Or.inl ⟨by rfl, fun w' hw' => ?_⟩) (by assumption) ?_
        · have g := HCV20.out w' hw'.2.out
          clear hHeld
          go_simp
        simp only [Act.put, List.setIfInBounds_toArray, List.set_cons_zero, List.set_cons_succ]
        refine wpAnyH_ready (rs := [8]) (by kernel_rfl) (by simp) (AllReadyH.cons rfl (fun K hK => ?_) AllReadyH.nil)
        go_simp
        go_wp2_with fail
        refine (C2.out _ hHeld.1.out).mono ?_
        rintro e w21 ⟨p21, n21, c21, rfl, hcv21, hb21, hbb21⟩
        have hH21 : Hid (Below W9.heap.size W9 w21) ∧ Hid (Below w20.heap.size w20 w21) := ⟨Lib.hid hb21, Lib.hid (hHeld.2.out.trans (hbb21.mono hHeld.2.out.size))⟩
        have HCV21 := Lib.hid hcv21
        go_wp2_with fail
        refine hK.out _ _ hH21 (fun hHeld2 => ?_)
        clear hH21
        clear hcv21
        clear hK K hHeld
        have hHeld := hHeld2
        clear hHeld2
        refine wpAnyH_less (S2 := fun w' => Hid (Below W9.heap.size W9 w') ∧ Hid (Below w20.heap.size w20 w') ∧ Hid (Below w21.heap.size w21 w')) (fun _ h => ⟨h.1, h.2.1⟩) _ _ _ _ ?_
        have hHeld2 : (fun w' => Hid (Below W9.heap.size W9 w') ∧ Hid (Below w20.heap.size w20 w') ∧ Hid (Below w21.heap.size w21 w')) w21 := ⟨hHeld.1, hHeld.2, Lib.hid (Below.refl _ _)⟩
        clear hHeld
        have hHeld := hHeld2
        clear hHeld2
        refine wpAnyH_take (i := 9) (oi := ⟨some 71, _, _, _, _, _⟩) (v := .string s2) rfl (by kernel_rfl) (by kernel_rfl) (by kernel_rfl) (fun _ _ _ h => h) (Or.inl ⟨by rfl, fun w' hw' => ?_⟩) (by assumption) ?_
        · have g := HCV21.out w' hw'.2.2.out
          clear hHeld
          go_simp
        simp only [Act.put, List.setIfInBounds_toArray, List.set_cons_zero, List.set_cons_succ]
        refine wpAnyH_take (i := 11) (oi := ⟨some 73, _, _, _, _, _⟩) (v := .string (s2.extract 0 n)) rfl (by kernel_rfl) (by kernel_rfl) (by kernel_rfl) (fun _ _ _ h => h) (Or.inl ⟨by rfl, fun w' hw' => ?_⟩) (by assumption) ?_
        · clear hHeld
          go_simp
        simp only [Act.put, List.setIfInBounds_toArray, List.set_cons_zero, List.set_cons_succ]
        refine wpAnyH_ready (rs := [15]) (by kernel_rfl) (by simp) (AllReadyH.cons rfl (fun K hK => ?_) AllReadyH.nil)
        go_simp
        go_wp2_with fail
        refine (C1.out _ hHeld.1.out).mono ?_
        rintro e w22 ⟨p22, n22, c22, rfl, hcv22, hb22, hbb22⟩
        have hH22 : Hid (Below W9.heap.size W9 w22) ∧ Hid (Below w20.heap.size w20 w22) ∧ Hid (Below w21.heap.size w21 w22) := ⟨Lib.hid hb22, Lib.hid (hHeld.2.1.out.trans (hbb22.mono hHeld.2.1.out.size)), Lib.hid (hHeld.2.2.out.trans (hbb22.mono hHeld.2.2.out.size))⟩
        have HCV22 := Lib.hid hcv22
        go_wp2_with fail
        refine hK.out _ _ hH22 (fun hHeld2 => ?_)
        clear hH22
        clear hcv22
        clear hK K hHeld
        have hHeld := hHeld2
        clear hHeld2
        refine wpAnyH_less (S2 := fun w' => Hid (Below W9.heap.size W9 w') ∧ Hid (Below w20.heap.size w20 w') ∧ Hid (Below w21.heap.size w21 w') ∧ Hid (Below w22.heap.size w22 w')) (fun _ h => ⟨h.1, h.2.1, h.2.2.1⟩) _ _ _ _ ?_
        have hHeld2 : (fun w' => Hid (Below W9.heap.size W9 w') ∧ Hid (Below w20.heap.size w20 w') ∧ Hid (Below w21.heap.size w21 w') ∧ Hid (Below w22.heap.size w22 w')) w22 := ⟨hHeld.1, hHeld.2.1, hHeld.2.2, Lib.hid (Below.refl _ _)⟩
        clear hHeld
        have hHeld := hHeld2
        clear hHeld2
        refine wpAnyH_take (i := 16) (oi := ⟨some 78, _, _, _, _, _⟩) (v := .string s1) rfl (by kernel_rfl) (by kernel_rfl) (by kernel_rfl) (fun _ _ _ h => h) (Or.inl ⟨by rfl, fun w' hw' => ?_⟩) (by assumption) ?_
        · have g := HCV22.out w' hw'.2.2.2.out
          clear hHeld
          go_simp
        simp only [Act.put, List.setIfInBounds_toArray, List.set_cons_zero, List.set_cons_succ]
        refine wpAnyH_take (i := 18) (oi := ⟨some 80, _, _, _, _, _⟩) (v := .string (s1.extract n 32)) rfl (by kernel_rfl) (by kernel_rfl) (by kernel_rfl) (fun _ _ _ h => h) (Or.inl ⟨by rfl, fun w' hw' => ?_⟩) (by assumption) ?_
        · clear hHeld
          go_simp
        simp only [Act.put, List.setIfInBounds_toArray, List.set_cons_zero, List.set_cons_succ]
        refine wpAnyH_take (i := 19) (oi := ⟨some 81, _, _, _, _, _⟩) (v := .string s3) rfl (by kernel_rfl) (by kernel_rfl) (by kernel_rfl) (fun _ _ _ h => h) (Or.inl ⟨by rfl, fun w' hw' => ?_⟩) (by assumption) ?_
        · clear hHeld
          go_simp
        simp only [Act.put, List.setIfInBounds_toArray, List.set_cons_zero, List.set_cons_succ]
        refine wpAnyH_take (i := 20) (oi := ⟨some 82, _, _, _, _, _⟩) (v := .bool false) rfl (by kernel_rfl) (by kernel_rfl) (by kernel_rfl) (fun _ _ _ h => h) (Or.inl ⟨by rfl, fun w' hw' => ?_⟩) (by assumption) ?_
        · clear hHeld
          go_simp
        simp only [Act.put, List.setIfInBounds_toArray, List.set_cons_zero, List.set_cons_succ]
        refine wpAnyH_done (by kernel_rfl) ?_ _
        have hb9 := hHeld.1.out
        clear hHeld HCV20 HCV21 HCV22
        obtain ⟨z0, z1, z2, z3, z4⟩ := HC.out w22 (HB1.out.trans ((H9.out.later hb9).hd.below.mono HB1.out.size))
        rw [HK.out] at z1
        have HB22 := Lib.hid hb9
        clear hb9 z0 z2 z3 z4 heq hz1 hsz1 hsz2 hsz3
        go_wp2_with fail
        go_region_held3 (fun w' => w'.cell? ⟨X, 1, none⟩ = some (.int .i64 (k : Nat))) (first | exact z1 | exact f1 | exact f2)
         (first
          | (go_at_call 22; (with_reducible refine (CP.out _ ?_).mono ?_); (first | exact below_drewN HB22.out _ | exact HB22.out.drew | exact HB22.out); rintro e w30 ⟨p30, c30, rfl, hb30, hbb30, hput⟩; have f1 := HN.out _ hb30)
          | (go_at_call 21; refine hput.mono ?_; rintro e w31 ⟨rfl, col31, h31⟩; have f2 : w31.cell? ⟨X, 1, none⟩ = some (.int .i64 (k : Nat)) := by { have h1 := HC.out w31 (HB1.out.trans (h31.hd.below.mono HB1.out.size)); rw [HK.out] at h1; exact h1.2.1 }))
        all_goals
          have htw := twins_true h31.h0 h31.h1 HF5.out (by rw [HF5.out.t, HF5.out.z]; exact HSL.out) (by show d3.V.length ≤ 1000000; rw [HV3.out]; omega)
          have H31 := Lib.hid h31
          clear h31 f1 f2 hput hb30 hbb30
          go_wp2_with fail
          refine htw.mono ?_
          rintro e W32 ⟨rfl, hb32⟩
          have HB32 := Lib.hid (HB01.out.trans ((H31.out.later hb32).hd.below.mono HB01.out.size))
          clear htw hb32
          go_wp2_with fail
          refine (disk_works _).mono ?_
          rintro e W33 ⟨rfl, hb33⟩
          have HB33 := Lib.hid (HB32.out.trans (hb33.mono HB32.out.size))
          clear hb33
          go_wp2_with fail
          go_ret
          exact ⟨rfl, HB33.out⟩
      · have hne : (e0 == 0) = false := by simpa using he
        have hne2 : (e0 != 0) = true := by simpa using he
        have hpe : d1.put ya.n ya.b = d1 := if_neg (by rw [HE0.out]; exact he)
        have HD6 := HD5
        rw [hpe] at HD6
        have htw := twins_true HD6.out HA5.out (Twin.refl d1) HSL.out (by rw [HSV.out]; omega)
        clear hpe
        go_wp2_with fail
        refine htw.mono ?_
        rintro e W6 ⟨rfl, hb6⟩
        have HB6 := Lib.hid (HB01.out.trans ((HH5.out.later hb6).below.mono HB01.out.size))
        clear htw hb6
        go_wp2_with fail
        refine (disk_works _).mono ?_
        rintro e W7 ⟨rfl, hb7⟩
        have HB7 := Lib.hid (HB6.out.trans (hb7.mono HB6.out.size))
        clear hb7
        go_wp2_with fail
        go_ret
        exact ⟨rfl, HB7.out⟩

set_option maxRecDepth 100000 in
theorem lifted (os : Os) (started : os.Started) (H : Type) (enc : TypeId × Value → H) :
    ReturnsInHanded {} Try.checked os 5 .any (Rows.diskWholeSpec.pre6 enc Try.prog Try.f5 Rows.diskWholeRow.domain false) (Rows.diskWholeSpec.post enc Try.prog Try.f5 false true false false) := by
  refine returnsInHanded_of_change (C := Try.checked) own started (by kernel_rfl) Try.func5
    (ChangeSpec.witness6 (enc := enc) (C := Try.checked) false ⟨#[], #[.slice none 0 0, .agg #[.int .u8 0, .int .i64 0, .int .i64 0, .int .i64 0, .slice none 0 0]], []⟩ 8 (by kernel_rfl) (by kernel_rfl) (by kernel_rfl) (by kernel_rfl)) ?_
  intro W base args ds gs before hval0 hW hcnd _
  have hval : ∀ (j : Nat) t v, Try.f5.params[j]? = some t → args[j]? = some v → Value.okWide Try.prog W .any base t v := hval0
  have hW' := hW
  obtain ⟨p, q, hA0, hV, rfl, hfz, hnd⟩ := hW
  have hA : DataW.TrodAll enc Try.prog W 0 (fun _ => true) true Try.f5.params.toList args.toList ds p := hA0
  rw [Try.params5] at hA hval
  obtain ⟨v0, vs0, d0, ds0, p0, q0, hargs, rfl, rfl, h0, r0⟩ := trodAll_cons hA
  obtain ⟨v1, vs1, d1, ds1, p1, q1, rfl, rfl, rfl, h1, r1⟩ := trodAll_cons r0
  obtain ⟨rfl, rfl, rfl⟩ := trodAll_nil r1
  obtain rfl : args = #[v0, v1] := by cases args; simp_all
  obtain ⟨rfl, rfl⟩ := trodVars_none hV
  obtain ⟨a0, len0, cap0, rfl⟩ := okWide_slice Try.underlying23 (hval 0 23 v0 rfl rfl)
  have k0 := h0
  have lt0 : ∀ x ∈ p0, x.block < W.heap.size := by obtain ⟨m, hm⟩ := k0; exact DataW.trod_lt m _ _ _ hm
  obtain ⟨L0, w0⟩ : ∃ L, AL W a0 len0 cap0 L ∧ ∀ y ∈ L, AnyA y := by
    obtain ⟨fuel, hf⟩ := h0
    exact open_acts hf
  have k1 := h1
  have lt1 : ∀ x ∈ p1, x.block < W.heap.size := by obtain ⟨m, hm⟩ := k1; exact DataW.trod_lt m _ _ _ hm
  obtain ⟨a1, rfl, w1⟩ := open_act (hval 1 41 v1 rfl rfl) h1
  clear hA0 hval0
  refine (walk a0 len0 cap0 L0 a1 W w0 w1).mono fun e W' ⟨he, bel⟩ => ?_
  subst he
  exact ⟨_, rfl, _, _, _, [], _, [], hW', trodAll_mk1 (shut_bool Try.underlying4 _), (trodAll_cons_mk (Below.trod laidOut (by kernel_rfl) (of_decide_eq_true (by kernel_rfl)) k0 bel lt0) (trodAll_cons_mk (Below.trod laidOut (by kernel_rfl) (of_decide_eq_true (by kernel_rfl)) k1 bel lt1) trodAll_mk0)), rfl, bel.frame _, fun h => by cases h⟩

theorem over : Rows.diskWholeRow.holds Try.pinned (OpenSpec.ofChange Rows.diskWholeSpec) :=
  OpenClaim.holds_of_wide 5 Try.f5 rfl rfl rfl rfl rfl rfl rfl ⟨rfl, rfl, rfl, rfl, rfl⟩ rfl rfl rfl rfl rfl (by kernel_rfl) Try.func5 (by kernel_rfl)
    (of_decide_eq_true (by kernel_rfl)) (by unfold Func.isWrapper; first | (rw [if_pos (by decide +kernel)]; kernel_rfl) | (rw [if_neg (by decide +kernel)]; exact ⟨rfl, rfl⟩))
    (fun os started H enc _ => lifted os started H enc)

theorem proved : Rows.DiskWholeSaid := over
#print axioms proved
end Go.Proofs.Ytnciihekbbmiaaa.diskWhole
