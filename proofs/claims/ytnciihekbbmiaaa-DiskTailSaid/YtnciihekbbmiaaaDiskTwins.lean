/- Two disks that show the same. -/
import Derived.Test.YtnciihekbbmiaaaDiskWorks
import Derived.Deep.RegionLaw
namespace Go.Proofs.Ytnciihekbbmiaaa
open Go.RowKit Go.ChangeShapes Go.WideShapes
set_option linter.unusedVariables false
set_option maxRecDepth 10000
set_option linter.unusedSimpArgs false

/-- What shows the same. -/
structure Twin (d e : DS) : Prop where
  v : d.sV = e.sV
  t : d.sT = e.sT
  z : d.z = e.z
  s : d.s = e.s
theorem Twin.n {d e : DS} (h : Twin d e) : d.V.length = e.V.length := by
  have h1 : d.sV.length = d.V.length := foldV_len ..
  have h2 : e.sV.length = e.V.length := foldV_len ..
  rw [← h1, ← h2, h.v]
theorem Twin.refl (d : DS) : Twin d d := ⟨rfl, rfl, rfl, rfl⟩
theorem Twin.symm {d e : DS} (h : Twin d e) : Twin e d := ⟨h.v.symm, h.t.symm, h.z.symm, h.s.symm⟩
theorem Twin.trans {d e f : DS} (h : Twin d e) (g : Twin e f) : Twin d f := ⟨h.v.trans g.v, h.t.trans g.t, h.z.trans g.z, h.s.trans g.s⟩
set_option maxHeartbeats 4000000 in
theorem twins_true {w : World} {col : Nat → Nat} {c B c2 B2 : Nat} {d e : DS} (h : Dk w col c B d) (h2 : Dk w col c2 B2 e) (ht : Twin d e) (hbig : d.sT.len d.z ≤ 1000000) (hV : d.V.length ≤ 1000000) :
    Calls Try.prog 20 #[.pointer (some ⟨B, 0, none⟩), .pointer (some ⟨B2, 0, none⟩)] w fun e w' => e = .returned (.bool true) ∧ Below w.heap.size w w' := by
  have hn := ht.n
  have CB : Hid (∀ w', Below w.heap.size w w' → Calls Try.prog 27 #[.pointer (some ⟨B, 0, none⟩)] w' fun e w'' => e = .returned (.int .i64 (d.V.length : Nat)) ∧ Below w.heap.size w w'') := Lib.hid fun w' hb => (disk_blocks (h.later hb)).mono fun e w'' hh => ⟨hh.1, hb.trans (hh.2.mono hb.size)⟩
  have CB2 : Hid (∀ w', Below w.heap.size w w' → Calls Try.prog 27 #[.pointer (some ⟨B2, 0, none⟩)] w' fun e w'' => e = .returned (.int .i64 (d.V.length : Nat)) ∧ Below w.heap.size w w'') := Lib.hid fun w' hb => by rw [hn]; exact (disk_blocks (h2.later hb)).mono fun e w'' hh => ⟨hh.1, hb.trans (hh.2.mono hb.size)⟩
  have CF : Hid (∀ w', Below w.heap.size w w' → Calls Try.prog 29 #[.pointer (some ⟨B, 0, none⟩)] w' fun e w'' => e = .returned (.int .i64 (d.sT.f * d.z : Nat)) ∧ Below w.heap.size w w'') := Lib.hid fun w' hb => (disk_first (h.later hb)).mono fun e w'' hh => ⟨hh.1, hb.trans (hh.2.mono hb.size)⟩
  have CF2 : Hid (∀ w', Below w.heap.size w w' → Calls Try.prog 29 #[.pointer (some ⟨B2, 0, none⟩)] w' fun e w'' => e = .returned (.int .i64 (d.sT.f * d.z : Nat)) ∧ Below w.heap.size w w'') := Lib.hid fun w' hb => by rw [ht.t, ht.z]; exact (disk_first (h2.later hb)).mono fun e w'' hh => ⟨hh.1, hb.trans (hh.2.mono hb.size)⟩
  obtain ⟨st, hst⟩ : ∃ st, strOfNums (bytesT d.z d.sT 0) = st := ⟨_, rfl⟩
  have CS : Hid (∀ w', Below w.heap.size w w' → Calls Try.prog 23 #[.pointer (some ⟨B, 0, none⟩), .int .i64 0] w' fun e w'' => ∃ p n c, e = .returned (.slice p n c) ∧ (∀ w3, Below w''.heap.size w'' w3 → (convert 31 9 (.slice p n c)).run Try.prog w3 = .ok (.string st) w3) ∧ Below w.heap.size w w'' ∧ Below w'.heap.size w' w'') := Lib.hid fun w' hb => (disk_bytes (h.later hb) hbig 0).mono fun e w'' hh => by
    obtain ⟨p', c', he, hbl, hbw, _⟩ := hh
    exact ⟨p', _, c', he, fun w3 h3 => by rw [← hst]; exact conv_bl (SlG.later hbl h3), hb.trans (hbw.mono hb.size), hbw⟩
  have CS2 : Hid (∀ w', Below w.heap.size w w' → Calls Try.prog 23 #[.pointer (some ⟨B2, 0, none⟩), .int .i64 0] w' fun e w'' => ∃ p n c, e = .returned (.slice p n c) ∧ (∀ w3, Below w''.heap.size w'' w3 → (convert 31 9 (.slice p n c)).run Try.prog w3 = .ok (.string st) w3) ∧ Below w.heap.size w w'' ∧ Below w'.heap.size w' w'') := Lib.hid fun w' hb => (disk_bytes (h2.later hb) (by rw [← ht.t, ← ht.z]; exact hbig) 0).mono fun e w'' hh => by
    obtain ⟨p', c', he, hbl, hbw, _⟩ := hh
    exact ⟨p', _, c', he, fun w3 h3 => by rw [← hst, ht.t, ht.z]; exact conv_bl (SlG.later hbl h3), hb.trans (hbw.mono hb.size), hbw⟩
  have CK : Hid (∀ i, i < d.V.length → ∃ sk, (∀ w', Below w.heap.size w w' → Calls Try.prog 22 #[.pointer (some ⟨B, 0, none⟩), .int .i64 (i : Nat)] w' fun e w'' => ∃ p n c, e = .returned (.slice p n c) ∧ (∀ w3, Below w''.heap.size w'' w3 → (convert 31 9 (.slice p n c)).run Try.prog w3 = .ok (.string sk) w3) ∧ Below w.heap.size w w'' ∧ Below w'.heap.size w' w'') ∧
      (∀ w', Below w.heap.size w w' → Calls Try.prog 22 #[.pointer (some ⟨B2, 0, none⟩), .int .i64 (i : Nat)] w' fun e w'' => ∃ p n c, e = .returned (.slice p n c) ∧ (∀ w3, Below w''.heap.size w'' w3 → (convert 31 9 (.slice p n c)).run Try.prog w3 = .ok (.string sk) w3) ∧ Below w.heap.size w w'' ∧ Below w'.heap.size w' w'')) := Lib.hid fun i hi => ⟨strOfNums (d.sV.getD i []),
    fun w' hb => (disk_block (h.later hb) i hi).mono fun e w'' hh => by
      obtain ⟨p', c', he, hbl, hbw⟩ := hh
      exact ⟨p', _, c', he, fun w3 h3 => conv_bl (SlG.later hbl h3), hb.trans (hbw.mono hb.size), hbw⟩,
    fun w' hb => (disk_block (h2.later hb) i (by rw [← hn]; exact hi)).mono fun e w'' hh => by
      obtain ⟨p', c', he, hbl, hbw⟩ := hh
      exact ⟨p', _, c', he, fun w3 h3 => by rw [ht.v]; exact conv_bl (SlG.later hbl h3), hb.trans (hbw.mono hb.size), hbw⟩⟩
  clear h h2 ht hn hst hbig
  generalize d.V.length = n at *
  generalize d.sT.f * d.z = F at *
  have q1 : ((n : Int) != (n : Int)) = false := by simp
  have q2 : ((F : Int) != (F : Int)) = false := by simp
  go_enter Try.func20, Try.ntmps20
  go_wp2_with fail
  have hb0 : Below w.heap.size w w.drew := (Below.refl _ _).drew
  go_region_law (first
    | (go_simp; go_at_call 27; (with_reducible refine (CB.out _ hb0).mono ?_); rintro e w1 ⟨rfl, hb1⟩)
    | (go_simp; go_at_call 27; (with_reducible refine (CB2.out _ hb1).mono ?_); rintro e w2 ⟨rfl, hb2⟩)
    | (go_simp; go_at_call 29; (with_reducible refine (CF.out _ hb2).mono ?_); rintro e w3 ⟨rfl, hb3⟩)
    | (go_simp; go_at_call 29; (with_reducible refine (CF2.out _ hb3).mono ?_); rintro e w4 ⟨rfl, hb4⟩)
    | (go_simp; go_at_call 23; (with_reducible refine (CS.out _ hb4).mono ?_); rintro e w5 ⟨p5, n5, c5, rfl, hv5, hb5, hbb5⟩; have g5 := hv5 _ (Below.refl _ _))
    | (go_simp; go_at_call 23; (with_reducible refine (CS2.out _ hb5).mono ?_); rintro e w6 ⟨p6, n6, c6, rfl, hv6, hb6, hbb6⟩; have g6 := hv6 _ (Below.refl _ _); have g56 := hv5 _ hbb6))
  all_goals
    have HB6 := Lib.hid hb6
    clear hb0 hb1 hb2 hb3 hb4 hb5 hb6 hbb5 hbb6 hv5 hv6
    go_wp2_with fail
    go_loopw [5] (fun i wr => ∃ j : Nat, j ≤ n ∧ i = .int .i64 (j : Nat) ∧ Hid (Below w.heap.size w wr)) (fun i _ => n - (intOf i).toNat)
    case atStart => exact ⟨0, Nat.zero_le _, rfl, HB6⟩
    case round =>
      obtain ⟨j, hj, rfl, HBr⟩ := hrel
      have hbl := CB.out wr HBr.out
      by_cases hlt : j < n
      · have hlt' : (j : Int) < n := by omega
        obtain ⟨sk, ck1, ck2⟩ := CK.out j hlt
        have CK1 := Lib.hid ck1
        have CK2 := Lib.hid ck2
        clear ck1 ck2
        go_wp2_with fail
        refine hbl.mono ?_
        rintro e w7 ⟨rfl, hb7⟩
        have HB7 := Lib.hid hb7
        clear hb7 hbl
        go_wp2_with fail
        have hb7 : Below w.heap.size w w7.drew := HB7.out.drew
        go_region_law (first
          | (go_simp; go_at_call 22; (with_reducible refine (CK1.out _ hb7).mono ?_); rintro e w8 ⟨p8, n8, c8, rfl, hv8, hb8, hbb8⟩; have g8 := hv8 _ (Below.refl _ _))
          | (go_simp; go_at_call 22; (with_reducible refine (CK2.out _ hb8).mono ?_); rintro e w9 ⟨p9, n9, c9, rfl, hv9, hb9, hbb9⟩; have g9 := hv9 _ (Below.refl _ _); have g89 := hv8 _ hbb9))
        all_goals
          have HB9 := Lib.hid hb9
          clear hb7 hb8 hb9 hbb8 hbb9 hv8 hv9 g8 g9 g89
          go_wp2_with fail
          go_roundw
          case rel => exact ⟨j + 1, by omega, by go_num, HB9⟩
          case measure => simp [intOf]; omega
      · obtain rfl : n = j := by omega
        go_wp2_with fail
        refine hbl.mono ?_
        rintro e w7 ⟨rfl, hb7⟩
        have HB7 := Lib.hid hb7
        clear hb7 hbl
        go_wp2_with fail
        go_ret
        exact ⟨rfl, HB7.out⟩
end Go.Proofs.Ytnciihekbbmiaaa
