/- Put, Append, Drop, Cut. -/
import Derived.Test.YtnciihekbbmiaaaDiskActs
import Derived.StillTailTactics
import Derived.WalkSpells
import Derived.IntWalk
namespace Go.Proofs.Ytnciihekbbmiaaa
open Go.RowKit Go.ChangeShapes Go.WideShapes
set_option linter.unusedVariables false
set_option maxRecDepth 10000
set_option linter.unusedSimpArgs false

section
variable {w : World} {col : Nat → Nat} {c B : Nat} {d : DS}
/-- Bytes that were cloned wait. -/
theorem cloned_ok {w2 w3 : World} {A : Ad} {V : List (List Int)} {t : TS} {p' : Option Addr} {cp' : Nat} {b : List Int} {x : Dw} (hx : x.bytes = b) (h : Dkh w2 col c B A d V t) (hb : BL w3 p' b.length cp' b) (hn : 0 < b.length → ∀ a, p' = some a → w2.heap.size ≤ a.block) (hw : Below w2.heap.size w2 w3) :
    Ext w2 col (paint col w2.heap.size 0) ∧ Dkh w3 (paint col w2.heap.size 0) c B A d V t ∧ Pw.ok w3 (paint col w2.heap.size 0) ⟨x, p', cp'⟩ := by
  subst hx
  exact ⟨Ext.paint _ _ _, (h.recol (Ext.paint _ _ _)).later hw, hb, fun h0 a ha => paint_new (hn h0 a ha)⟩
set_option maxHeartbeats 2000000 in
theorem disk_put (h : Dk w col c B d) (hL : d.L.length < 1000000) (i : Int) (p : Option Addr) (m cp : Nat) (b : List Int) (hb : BL w p m cp b) (h0 : 0 < m → ∀ a, p = some a → ¬ own col c a.block) :
    Calls Try.prog 21 #[.pointer (some ⟨B, 0, none⟩), .int .i64 i, .slice p m cp] w fun e w' => e = .returned (.int .i64 (d.putE i b)) ∧ Turned w col c B (d.put i b) w' := by
  obtain rfl := hb.len
  obtain ⟨A, h⟩ := h
  have hl := look_any h
  have hpv := parts_vol
  have H := Lib.hid h
  have HB := Lib.hid hb
  have HN := Lib.hid h0
  have hE : tearE d.s d.sV i b = d.putE i b := putE_seen d i b
  have hsm : d.putE i b = 0 → b.length ≤ 4096 := by
    obtain ⟨G, hv, _⟩ := h.seen.vo
    have := hv.s
    unfold DS.putE tearE
    split
    · intro e; omega
    · split <;> intro e <;> omega
  have HP : Hid (d.putE i b = 0 → d.put i b = d.add (.put i b)) := Lib.hid fun h => if_pos h
  have HQ : Hid (d.putE i b ≠ 0 → d.put i b = d) := Lib.hid fun h => if_neg h
  generalize d.put i b = D at *
  generalize d.putE i b = e0 at *
  have HE := Lib.hid hE
  have HSM := Lib.hid hsm
  clear hE h hb h0 hsm
  go_enter Try.func21, Try.ntmps21
  go_wp2_with fail
  refine hl.mono ?_
  rintro e w1 ⟨rfl, hb1⟩
  have HB1 := Lib.hid hb1
  have h1 := H.out.later hb1
  obtain ⟨G, hv, hG⟩ := h1.seen.vo
  have hG6 : own col c G := by unfold own; omega
  have hbl1 := SlG.later HB.out hb1
  have hput := put_any A.Bv G d.s d.sV i p b.length cp b w1 hv hbl1 (fun hm a ha e => HN.out hm a ha (e ▸ hG6))
  rw [HE.out] at hput
  have H1 := Lib.hid h1
  have HG := Lib.hid hG
  clear hl hb1 h1 hv hG hG6 hbl1
  go_wp2_with fail
  refine hput.mono ?_
  rintro e w2 ⟨rfl, hv2, hc2⟩
  have HS := Lib.hid (H.out.half.set_seen (H.out.seen.vol HB1.out HG.out hv2 hc2))
  have HB2 : Hid (BL w2 p b.length cp b) := Lib.hid (BL.keep (SlG.later HB.out HB1.out) hc2 fun hm a ha e => HN.out hm a ha (by rw [e]; unfold own; have := HG.out; omega))
  clear hv2 hc2 hput
  by_cases he : e0 = 0
  · subst he
    have hcl := clone_b p b.length cp b w2 HB2.out (by have := HSM.out rfl; omega)
    go_wp2_with fail
    refine hcl.mono ?_
    rintro e w3 ⟨p', c', rfl, hbl3, hn3, hb3⟩
    obtain ⟨⟨col2, he2, hd2⟩, hc2⟩ := HS.out
    obtain ⟨he3, hd3, hok3⟩ := cloned_ok (x := .put i b) rfl hd2 hbl3 hn3 hb3
    have hwt := wait_any hd3 ⟨.put i b, p', c'⟩ hok3 _ _ rfl hL
    have HC2 := Lib.hid hc2
    have HE2 := Lib.hid he2
    have HE3 := Lib.hid he3
    have HB3 := Lib.hid hb3
    clear hbl3 hn3 hb3 he2 hd2 hc2 he3 hd3 hok3 hcl HS H1 HB2
    go_wp2_with fail
    refine hwt.mono ?_
    rintro e w4 ⟨rfl, ⟨A', col4, he4, hd4⟩, hc4⟩
    have HX : Hid (Turned w col c B D w4) := Lib.hid (by
      have hs2 := HC2.out.size
      have hs3 := HB3.out.size
      have e23 := HE2.out.trans HE3.out hs2
      refine ⟨col4, e23.trans he4 (Nat.le_trans hs2 hs3), ?_, ?_⟩
      · rw [HP.out (by trivial)]
        have e1 : dwV d.s d.sV (.put i b) = (d.add (.put i b)).sV := (add_sV d _).symm
        have e2 : d.sT = (d.add (.put i b)).sT := (add_sT d (.put i b)).symm
        refine ⟨A', Dkh.whole ?_⟩
        rw [← e1, ← e2]
        exact hd4
      · refine (HC2.out.trans (T := fun _ => False) (Chg.of_below HB3.out) fun k _ h => h.elim).trans hc4 fun k hk h => ?_
        unfold own at *
        rwa [e23 k hk] at h)
    clear he4 hd4 hc4 hwt
    go_wp2_with fail
    go_ret
    exact ⟨rfl, HX.out⟩
  · have hne : (e0 == 0) = false := by simpa using he
    have hne2 : (e0 != 0) = true := by simpa using he
    have HX : Hid (Turned w col c B D w2) := Lib.hid (by
      obtain ⟨⟨col2, he2, hd2⟩, hc2⟩ := HS.out
      refine ⟨col2, he2, ?_, hc2⟩
      rw [HQ.out he]
      have : tearV d.s d.sV i b d.s = d.sV := tearV_err (by rw [HE.out]; exact he)
      rw [this] at hd2
      exact ⟨A, hd2.whole⟩)
    go_wp2_with fail
    go_ret
    exact ⟨rfl, HX.out⟩
set_option maxHeartbeats 2000000 in
theorem disk_append (h : Dk w col c B d) (hbig : d.tot + 65536 ≤ 1000000) (hL : d.L.length < 1000000) (p : Option Addr) (m cp : Nat) (b : List Int) (hb : BL w p m cp b) (h0 : 0 < m → ∀ a, p = some a → ¬ own col c a.block) :
    Calls Try.prog 24 #[.pointer (some ⟨B, 0, none⟩), .slice p m cp] w fun e w' => e = .returned (.int .i64 (d.addE b)) ∧ Turned w col c B (d.app b) w' := by
  obtain rfl := hb.len
  by_cases hm : 65536 < b.length
  · have e1 : d.addE b = 7 := if_pos hm
    have e2 : d.app b = d := if_neg (by rw [e1]; omega)
    rw [e1, e2]
    have hm' : (65536 : Int) < (b.length : Int) := by omega
    have HX : Hid (Turned w col c B d w) := Lib.hid ⟨col, Ext.refl _ _, h, Chg.refl _ _⟩
    clear h hb h0
    generalize b.length = n at *
    go_enter Try.func24, Try.ntmps24
    go_wp2_with fail
    go_ret
    exact ⟨rfl, HX.out⟩
  · have hz := h.z_in
    have hsT := d.sT_len (by omega)
    have hf := fun w' (hb' : Below w.heap.size w w') => disk_first (h.later hb')
    have he := fun w' (hb' : Below w.heap.size w w') => disk_end (h.later hb')
    obtain ⟨A, h⟩ := h
    have H := Lib.hid h
    have HB := Lib.hid hb
    have HN := Lib.hid h0
    have HM : Hid (∀ p : After w, p.w.cell? ⟨B, 0, none⟩ = some (.int .i64 (d.M : Nat))) := Lib.hid fun p => cell_after p (block_cell h.blk rfl)
    have hMM := h.most
    have HE1 : Hid ((d.M : Int) < (d.sT.B.length : Int) + b.length → d.addE b = 4 ∧ d.app b = d) := Lib.hid fun h => by
      have e1 : d.addE b = 4 := by unfold DS.addE; rw [if_neg hm, if_pos h]
      exact ⟨e1, if_neg (by rw [e1]; omega)⟩
    have HE2 : Hid (¬ (d.M : Int) < (d.sT.B.length : Int) + b.length → d.addE b = 0 ∧ d.app b = d.add (.grow b)) := Lib.hid fun h => by
      have e1 : d.addE b = 0 := by unfold DS.addE; rw [if_neg hm, if_neg h]
      exact ⟨e1, if_pos e1⟩
    have HF : Hid (∀ p : After w, Calls Try.prog 29 #[.pointer (some ⟨B, 0, none⟩)] p.w fun e w' => e = .returned (.int .i64 (d.sT.f * d.z : Nat)) ∧ Below p.w.heap.size p.w w') := Lib.hid fun p => hf p.w p.h
    have HE : Hid (∀ p : After w, Calls Try.prog 30 #[.pointer (some ⟨B, 0, none⟩)] p.w fun e w' => e = .returned (.int .i64 (d.sT.f * d.z + d.sT.B.length : Nat)) ∧ Below p.w.heap.size p.w w') := Lib.hid fun p => he p.w p.h
    have hlen : d.sT.f * d.z + d.sT.B.length ≤ 1000000 := by have : d.sT.len d.z = d.sT.f * d.z + d.sT.B.length := rfl; omega
    have hbig2 : d.sT.len d.z + b.length ≤ 1000000 := by omega
    have HBIG := Lib.hid hbig2
    have hm' : ¬ (65536 : Int) < (b.length : Int) := by omega
    clear h hb h0 hf he hz hbig hbig2
    generalize hD : d.app b = D at *
    generalize hE0 : d.addE b = e0 at *
    obtain ⟨E, hEE⟩ : ∃ E, d.sT.f * d.z + d.sT.B.length = E := ⟨_, rfl⟩
    rw [hEE] at HE hlen
    generalize hF : d.sT.f * d.z = F at *
    generalize hT : d.sT.B.length = n0 at *
    generalize hn : b.length = n at *
    have x1 : (E : Int) - (F : Int) = (n0 : Int) := by omega
    have x2 : IntKind.i64.wrap (n0 : Int) = (n0 : Int) := IntWalk.i64_in _ (by omega)
    have x5 : IntKind.i64.wrap ((n0 : Int) + (n : Int)) = (n0 : Int) + (n : Int) := IntWalk.i64_in _ (by omega)
    have HM2 : ∀ p : After w, p.w.cell? ⟨B, 0, none⟩ = some (.int .i64 (d.M : Nat)) := HM.out
    have HMM : Hid (d.M = d.M) := Lib.hid rfl
    have HEE := Lib.hid hEE
    have HFF := Lib.hid hF
    have HTT := Lib.hid hT
    have HNN := Lib.hid hn
    have HDD := Lib.hid hD
    have HEZ := Lib.hid hE0
    clear hEE hF hT hn hD hE0
    by_cases hc : (d.M : Int) < (n0 : Int) + (n : Int)
    · obtain ⟨q1, q2⟩ := HE1.out hc
      subst q1
      have HX : Hid (∀ w', Below w.heap.size w w' → Turned w col c B D w') := Lib.hid fun w' hb' => by
        rw [q2]
        exact ⟨col, Ext.refl _ _, ⟨A, H.out.later hb'⟩, Chg.of_below hb'⟩
      clear HE1 HE2 q2
      generalize d.M = M at *
      go_enter Try.func24, Try.ntmps24
      go_wp2_with fail
      refine wp_region_after (by kernel_rfl) (by kernel_rfl) ?_
      repeat (go_big_quiet_step (first | (go_at_call 29; exact calls_after _ (HF.out _)) | (go_at_call 30; exact calls_after _ (HE.out _))))
      refine wpQuiet_nil ?_
      intro w3 hw
      obtain ⟨⟨wq, h6⟩, hw2⟩ := hw
      subst hw2
      have HX3 := Lib.hid (HX.out _ h6)
      clear h6
      go_wp2_with fail
      go_ret
      exact ⟨rfl, HX3.out⟩
    · obtain ⟨q1, q2⟩ := HE2.out hc
      subst q1
      have HD := Lib.hid q2
      clear HE1 HE2 q2
      have HMG : Hid (∃ M, M = d.M) := Lib.hid ⟨_, rfl⟩
      generalize hM : d.M = M at *
      have HMQ := Lib.hid hM
      clear hM
      go_enter Try.func24, Try.ntmps24
      go_wp2_with fail
      refine wp_region_after (by kernel_rfl) (by kernel_rfl) ?_
      repeat (go_big_quiet_step (first | (go_at_call 29; exact calls_after _ (HF.out _)) | (go_at_call 30; exact calls_after _ (HE.out _))))
      refine wpQuiet_nil ?_
      intro w3 hw
      obtain ⟨⟨wq, h6⟩, hw2⟩ := hw
      subst hw2
      have HB6 := Lib.hid h6
      have h1 := H.out.later h6
      have a2 : w3.cell? ⟨B, 2, none⟩ = some (.pointer (some ⟨A.T, 0, none⟩)) := block_cell h1.blk rfl
      obtain ⟨mb, ht⟩ := h1.seen.tp
      have hadd := tape_add ht p n cp b (SlG.later HB.out h6) (fun hm a ha e => HN.out hm a ha (by unfold own; rw [show col a.block = c + 2 + 1 from e]; omega)) (by have : d.sT.f * d.z + d.sT.B.length = d.sT.len d.z := rfl; have := HBIG.out; omega)
      have H1 := Lib.hid h1
      clear h6 h1 ht
      go_wp2_with fail
      refine hadd.mono ?_
      rintro e w2 ⟨rfl, ⟨mb', ht2⟩, hc2⟩
      have HS := Lib.hid (H1.out.half.set_seen (H1.out.seen.tape (Below.refl _ _) ht2 hc2))
      have HB2 : Hid (BL w2 p n cp b) := Lib.hid (BL.keep (SlG.later HB.out HB6.out) hc2 fun hm a ha e => HN.out hm a ha (by unfold own; rw [show col a.block = c + 2 + 1 from e]; omega))
      clear ht2 hc2 hadd
      have hcl := clone_b p n cp b w2 HB2.out (by omega)
      go_wp2_with fail
      refine hcl.mono ?_
      rintro e w4 ⟨p', c', rfl, hbl3, hn3, hb3⟩
      obtain ⟨⟨col2, he2, hd2⟩, hc2⟩ := HS.out
      have hnn := HNN.out
      subst hnn
      obtain ⟨he3, hd3, hok3⟩ := cloned_ok (x := .grow b) rfl hd2 hbl3 hn3 hb3
      have hwt := wait_any hd3 ⟨.grow b, p', c'⟩ hok3 _ _ rfl hL
      have HC2 := Lib.hid hc2
      have HE2 := Lib.hid he2
      have HE3 := Lib.hid he3
      have HB3 := Lib.hid hb3
      clear hbl3 hn3 hb3 he2 hd2 hc2 he3 hd3 hok3 hcl HS H1 HB2
      go_wp2_with fail
      refine hwt.mono ?_
      rintro e w5 ⟨rfl, ⟨A', col4, he4, hd4⟩, hc4⟩
      have HX : Hid (Turned w col c B D w5) := Lib.hid (by
        have hs6 := HB6.out.size
        have hs2 := HC2.out.size
        have hs3 := HB3.out.size
        have e02 : Ext w col col2 := (Ext.refl w col).trans HE2.out hs6
        have e23 := e02.trans HE3.out (Nat.le_trans hs6 hs2)
        refine ⟨col4, e23.trans he4 (Nat.le_trans hs6 (Nat.le_trans hs2 hs3)), ?_, ?_⟩
        · rw [HD.out]
          have e1 : d.sV = (d.add (.grow b)).sV := (add_sV d (.grow b)).symm
          have e2 : appT d.sT b = (d.add (.grow b)).sT := (add_sT d (.grow b)).symm
          refine ⟨A', Dkh.whole ?_⟩
          rw [← e1, ← e2]
          exact hd4
        · refine (((Chg.of_below HB6.out).trans HC2.out fun k _ h => h).trans (T := fun _ => False) (Chg.of_below HB3.out) fun k _ h => h.elim).trans hc4 fun k hk h => ?_
          unfold own at *
          rwa [e23 k hk] at h)
      clear he4 hd4 hc4 hwt
      go_wp2_with fail
      go_ret
      exact ⟨rfl, HX.out⟩
set_option maxHeartbeats 1000000 in
theorem disk_drop (h : Dk w col c B d) (hbig : d.tot ≤ 1000000) (hL : d.L.length < 1000000) (x : Int) :
    Calls Try.prog 25 #[.pointer (some ⟨B, 0, none⟩), .int .i64 x] w fun e w' => e = .returned (.tuple #[]) ∧ Turned w col c B (d.add (.drop x)) w' := by
  have hz := h.z_in
  have hsT := d.sT_len (by omega)
  obtain ⟨A, h⟩ := h
  have a2 : w.cell? ⟨B, 2, none⟩ = some (.pointer (some ⟨A.T, 0, none⟩)) := block_cell h.blk rfl
  obtain ⟨mb, ht⟩ := h.seen.tp
  have hdo := tape_drop ht x (by have : d.sT.f * d.z + d.sT.B.length = d.sT.len d.z := rfl; omega)
  have H := Lib.hid h
  clear h ht
  go_enter Try.func25, Try.ntmps25
  go_wp2_with fail
  refine hdo.mono ?_
  rintro e w2 ⟨rfl, ht2, hc2⟩
  have HS := Lib.hid (H.out.half.set_seen (H.out.seen.tape (Below.refl _ _) (ht2.mono fun k hk _ => .inl hk) hc2))
  obtain ⟨⟨col2, he2, hd2⟩, hc2'⟩ := HS.out
  have hwt := wait_any hd2 ⟨.drop x, none, 0⟩ ⟨SlG.empty _, fun h => absurd h (by simp [Dw.bytes])⟩ _ _ rfl hL
  have HC2 := Lib.hid hc2'
  have HE2 := Lib.hid he2
  clear ht2 hc2 hdo he2 hd2 hc2' HS
  go_wp2_with fail
  refine hwt.mono ?_
  rintro e w5 ⟨rfl, ⟨A', col4, he4, hd4⟩, hc4⟩
  have HX : Hid (Turned w col c B (d.add (.drop x)) w5) := Lib.hid (by
    have hs2 := HC2.out.size
    refine ⟨col4, HE2.out.trans he4 hs2, ?_, ?_⟩
    · have e1 : d.sV = (d.add (.drop x)).sV := (add_sV d (.drop x)).symm
      have e2 : dropT d.z d.sT x = (d.add (.drop x)).sT := (add_sT d (.drop x)).symm
      refine ⟨A', Dkh.whole ?_⟩
      rw [← e1, ← e2]
      exact hd4
    · refine HC2.out.trans hc4 fun k hk h => ?_
      unfold own at *
      rwa [HE2.out k hk] at h)
  clear he4 hd4 hc4 hwt
  go_wp2_with fail
  go_end0
  exact ⟨rfl, HX.out⟩
set_option maxHeartbeats 1000000 in
theorem disk_cut (h : Dk w col c B d) (hbig : d.tot ≤ 1000000) (hL : d.L.length < 1000000) (x : Int) :
    Calls Try.prog 26 #[.pointer (some ⟨B, 0, none⟩), .int .i64 x] w fun e w' => e = .returned (.tuple #[]) ∧ Turned w col c B (d.add (.cut x)) w' := by
  have hz := h.z_in
  have hsT := d.sT_len (by omega)
  obtain ⟨A, h⟩ := h
  have a2 : w.cell? ⟨B, 2, none⟩ = some (.pointer (some ⟨A.T, 0, none⟩)) := block_cell h.blk rfl
  obtain ⟨mb, ht⟩ := h.seen.tp
  have hdo := tape_cut ht x (by have : d.sT.f * d.z + d.sT.B.length = d.sT.len d.z := rfl; omega)
  have H := Lib.hid h
  clear h ht
  go_enter Try.func26, Try.ntmps26
  go_wp2_with fail
  refine hdo.mono ?_
  rintro e w2 ⟨rfl, ht2, hc2⟩
  have HS := Lib.hid (H.out.half.set_seen (H.out.seen.tape (Below.refl _ _) (ht2.mono fun k hk _ => .inl hk) hc2))
  obtain ⟨⟨col2, he2, hd2⟩, hc2'⟩ := HS.out
  have hwt := wait_any hd2 ⟨.cut x, none, 0⟩ ⟨SlG.empty _, fun h => absurd h (by simp [Dw.bytes])⟩ _ _ rfl hL
  have HC2 := Lib.hid hc2'
  have HE2 := Lib.hid he2
  clear ht2 hc2 hdo he2 hd2 hc2' HS
  go_wp2_with fail
  refine hwt.mono ?_
  rintro e w5 ⟨rfl, ⟨A', col4, he4, hd4⟩, hc4⟩
  have HX : Hid (Turned w col c B (d.add (.cut x)) w5) := Lib.hid (by
    have hs2 := HC2.out.size
    refine ⟨col4, HE2.out.trans he4 hs2, ?_, ?_⟩
    · have e1 : d.sV = (d.add (.cut x)).sV := (add_sV d (.cut x)).symm
      have e2 : cutT d.z d.sT x = (d.add (.cut x)).sT := (add_sT d (.cut x)).symm
      refine ⟨A', Dkh.whole ?_⟩
      rw [← e1, ← e2]
      exact hd4
    · refine HC2.out.trans hc4 fun k hk h => ?_
      unfold own at *
      rwa [HE2.out k hk] at h)
  clear he4 hd4 hc4 hwt
  go_wp2_with fail
  go_end0
  exact ⟨rfl, HX.out⟩
end
theorem disk_put0 (i : Int) (p : Option Addr) (m cp : Nat) (w : World) : Calls Try.prog 21 #[.pointer none, .int .i64 i, .slice p m cp] w fun e w' => e = .returned (.int .i64 1) ∧ Below w.heap.size w w' := by
  have hl := look_nil w
  have hpv := parts_vol
  go_enter Try.func21, Try.ntmps21
  go_wp2_with fail
  refine hl.mono ?_
  rintro e w1 ⟨rfl, hb⟩
  have HB := Lib.hid hb
  have hp := put_nil i p m cp w1
  clear hl hb
  go_wp2_with fail
  refine hp.mono ?_
  rintro e w2 ⟨rfl, rfl⟩
  go_wp2_with fail
  go_ret
  exact ⟨rfl, HB.out⟩
theorem disk_append0 (p : Option Addr) (m cp : Nat) (w : World) : Calls Try.prog 24 #[.pointer none, .slice p m cp] w fun e w' => e = .returned (.int .i64 1) ∧ w' = w := by
  go_enter Try.func24, Try.ntmps24
  go_wp2_with fail
  go_ret
  exact ⟨rfl, rfl⟩
theorem disk_drop0 (x : Int) (w : World) : Calls Try.prog 25 #[.pointer none, .int .i64 x] w fun e w' => e = .returned (.tuple #[]) ∧ w' = w := by
  go_enter Try.func25, Try.ntmps25
  go_wp2_with fail
  refine bodyPost_ret (results_none rfl _ _ _) rfl ?_
  exact ⟨rfl, rfl⟩
theorem disk_cut0 (x : Int) (w : World) : Calls Try.prog 26 #[.pointer none, .int .i64 x] w fun e w' => e = .returned (.tuple #[]) ∧ w' = w := by
  go_enter Try.func26, Try.ntmps26
  go_wp2_with fail
  refine bodyPost_ret (results_none rfl _ _ _) rfl ?_
  exact ⟨rfl, rfl⟩
end Go.Proofs.Ytnciihekbbmiaaa
