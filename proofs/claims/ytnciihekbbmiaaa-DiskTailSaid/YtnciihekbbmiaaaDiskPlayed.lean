/- A disk behind acts. -/
import Derived.Test.YtnciihekbbmiaaaDiskWorks
import Derived.Test.YtnciihekbbmiaaaDiskTwins
namespace Go.Proofs.Ytnciihekbbmiaaa
open Go.RowKit Go.ChangeShapes Go.WideShapes
set_option linter.unusedVariables false
set_option maxRecDepth 10000
set_option linter.unusedSimpArgs false

def pd0 : DS := DS.new 4 32 64 4000
theorem pd_facts : pd0.tot = 0 ∧ pd0.L.length = 0 ∧ pd0.V.length = 4 ∧ pd0.s = 32 ∧ pd0.M = 4000 := by decide +kernel
/-- What played says. -/
def Played (w : World) (e : Ending) (w' : World) : Prop := ∃ B d col, e = .returned (.pointer (some ⟨B, 0, none⟩)) ∧ Dk w' col 1 B d ∧ Hd w w' col ∧ d.tot ≤ 12000 ∧ d.L.length ≤ 40 ∧ pd0.like d
theorem like_trans {d e f : DS} (h : d.like e) (g : e.like f) : d.like f := ⟨g.1.trans h.1, g.2.1.trans h.2.1, g.2.2.1.trans h.2.2.1, g.2.2.2.1.trans h.2.2.2.1, g.2.2.2.2.trans h.2.2.2.2⟩
set_option maxHeartbeats 2000000 in
theorem played_any (p : Option Addr) (n c : Nat) (L : List Ac) (w : World) (h : AL w p n c L) (hn : n ≤ 40) (hm : ∀ j, j < n → (L.getD j ac0).m ≤ 300) : Calls Try.prog 15 #[.slice p n c] w (Played w) := by
  have H := Lib.hid h
  have HM := Lib.hid hm
  have hnew := disk_new 4 32 64 4000 w
  obtain ⟨f1, f2, _⟩ := pd_facts
  have F1 := Lib.hid f1
  have F2 := Lib.hid f2
  clear h hm f1 f2
  go_enter Try.func15, Try.ntmps15
  go_wp2_with fail
  refine hnew.mono ?_
  rintro e w1 ⟨B, rfl, hbo, _, hb1⟩
  obtain ⟨col1, he1, hd1⟩ := hbo (fun _ => 0) 1 (by omega)
  have HD1 : Hid (Dk w1 col1 1 B pd0 ∧ Hd w w1 col1) := Lib.hid ⟨hd1, ((Hd.start w).ext he1).later hb1⟩
  clear hnew hbo he1 hd1 hb1
  go_wp2_with fail
  go_loopw [4] (fun i wr => ∃ (j : Nat) (d : DS) (col : Nat → Nat), j ≤ n ∧ i = .int .i64 (j : Nat) ∧ Hid (Dk wr col 1 B d) ∧ Hid (Hd w wr col) ∧ Hid (d.tot ≤ j * 300) ∧ Hid (d.L.length ≤ j) ∧ Hid (pd0.like d)) (fun i _ => n - (intOf i).toNat)
  case atStart => exact ⟨0, pd0, col1, Nat.zero_le _, rfl, Lib.hid HD1.out.1, Lib.hid HD1.out.2, Lib.hid (by rw [F1.out]; omega), Lib.hid (by rw [F2.out]; omega), Lib.hid (DS.like_refl _)⟩
  case round =>
    obtain ⟨j, d, col, hj, rfl, HD, HH, HT, HL, HK⟩ := hrel
    by_cases hlt : j < n
    · have hlt' : (j : Int) < n := by omega
      obtain ⟨ab, ao, rfl, hab, ⟨d0', d1', d2', d3', d4'⟩, hbl, hk⟩ := (H.out.later HH.out.below).at hlt
      have hbl0 : BL w (L.getD j ac0).q (L.getD j ac0).m (L.getD j ac0).cq (L.getD j ac0).b := by
        obtain ⟨_, _, _, _, _, h, _⟩ := H.out.at hlt
        exact h
      have hm := HM.out j hlt
      have hz := HD.out.z_in
      have hdo := do_any HD.out (by have := HT.out; have : j * 300 ≤ 40 * 300 := Nat.mul_le_mul_right _ (by omega); omega) (by have := HL.out; omega) _ hk (L.getD j ac0).n (L.getD j ac0).tear (L.getD j ac0).x _ _ _ _ hbl (fun h0 a ha ho => by
        obtain ⟨b, off, he, hlt2, _⟩ := BL.at hbl0 h0
        rw [he] at ha
        cases ha
        have := HH.out.zero b hlt2
        unfold own at ho
        simp only at ho
        omega)
      have HTN : Hid ((actD d (L.getD j ac0).k (L.getD j ac0).n (L.getD j ac0).tear (L.getD j ac0).x (L.getD j ac0).b).tot ≤ (j + 1) * 300) := Lib.hid (by
        have h1 := act_tot d (L.getD j ac0).k (L.getD j ac0).n (L.getD j ac0).tear (L.getD j ac0).x (L.getD j ac0).b (by omega)
        have h2 := HT.out
        have h3 := hbl0.len
        rw [Nat.add_mul]
        omega)
      have HLN : Hid ((actD d (L.getD j ac0).k (L.getD j ac0).n (L.getD j ac0).tear (L.getD j ac0).x (L.getD j ac0).b).L.length ≤ j + 1) := Lib.hid (Nat.le_trans (act_L ..) (by have := HL.out; omega))
      have HKN : Hid (pd0.like (actD d (L.getD j ac0).k (L.getD j ac0).n (L.getD j ac0).tear (L.getD j ac0).x (L.getD j ac0).b)) := Lib.hid (like_trans HK.out (act_like ..))
      unfold DidD at hdo
      clear hbl hbl0 hm hk
      generalize actD d (L.getD j ac0).k (L.getD j ac0).n (L.getD j ac0).tear (L.getD j ac0).x (L.getD j ac0).b = D at *
      generalize actE d (L.getD j ac0).k (L.getD j ac0).n (L.getD j ac0).b = e0 at *
      generalize (L.getD j ac0).k = yk at *
      generalize (L.getD j ac0).n = yn at *
      generalize (L.getD j ac0).tear = yt at *
      generalize (L.getD j ac0).x = yx at *
      generalize (L.getD j ac0).q = yq at *
      generalize (L.getD j ac0).m = ym at *
      generalize (L.getD j ac0).cq = yc at *
      go_wp2_with fail
      refine hdo.mono ?_
      rintro e w5 ⟨rfl, ht⟩
      obtain ⟨col5, _, hd5, hh5, _⟩ := HH.out.act ht (by omega)
      have HD5 := Lib.hid hd5
      have HH5 := Lib.hid hh5
      clear ht hd5 hh5 hdo
      go_wp2_with fail
      go_roundw
      case rel => exact ⟨j + 1, D, col5, by omega, by go_num, HD5, HH5, HTN, HLN, HKN⟩
      case measure => simp [intOf]; omega
    · obtain rfl : n = j := by omega
      go_wp2_with fail
      go_ret
      exact ⟨B, d, col, rfl, HD.out, HH.out, by have := HT.out; omega, by have := HL.out; omega, HK.out⟩
end Go.Proofs.Ytnciihekbbmiaaa
