/- The chapter's example; what nil answers. -/
import Derived.Test.YthckdcejijfgmaaWireOk
namespace Go.Proofs.Ythckdcejijfgmaa
open Go.RowKit Go.ChangeShapes Go.WideShapes
set_option linter.unusedVariables false

theorem sl_ab (w : World) : Sl (w.alloc (.cells #[.int .u8 97, .int .u8 98] 5 (2, 3))) (some ⟨w.heap.size, 0, none⟩) 2 2 [97, 98] :=
  ⟨rfl, by omega, (fun h => by cases h), (fun z hz => by simp at hz; omega), fun _ => ⟨_, 0, rfl, fun j hj => by
    rw [World.cell?_alloc_mark]
    match j, hj with
    | 0, _ => rfl
    | 1, _ => rfl⟩⟩
theorem strOf_list (L : List Nat) : (strOf L).toList = L.map UInt8.ofNat := by simp [strOf]
theorem str_ab : ((strOf [97, 98]).toList == [97, 98]) = true := by rw [strOf_list]; rfl
theorem str_all : ((strOf [2, 1, 2, 0, 97, 98, 1]).toList == [2, 1, 2, 0, 97, 98, 1]) = true := by rw [strOf_list]; rfl
theorem works_any (w : World) : Calls Try.prog 9 #[] w fun e w' => e = .returned (.bool true) ∧ Below w.heap.size w w' := by
  have kc := fun (w : World) (C : Array Value) (n c : Nat) => Lib.run_convert_bytes_const (P := Try.prog) w 27 5 C n c Try.underlying27 Try.underlying5
  have hNew := Lib.hid (new_ok w w 20 (Below.refl _ _))
  generalize hw0 : w.heap.size = H0 at *
  have HW0 := Lib.hid hw0
  clear hw0
  go_enter Try.func9, Try.ntmps9
  go_wp2_with fail
  refine hNew.out.mono ?_
  rintro e w1 ⟨B, rfl, hk⟩
  have HK : Hid (WrOk w w1 B 20 (0, [])) := Lib.hid hk
  clear hk hNew
  go_wp2_with fail
  refine (HK.out.step (T := (0, [2, 1])) fun v hv => num_wr B v 20 (0, []) 258 2 _ hv (by omega) (by omega) (by simp)).mono ?_
  rintro e w2 ⟨rfl, hk⟩
  have HK2 := Lib.hid hk
  clear hk HK
  go_wp2_with fail
  have hc : Chg (fun _ => False) w2 (w2.alloc (.cells #[.int .u8 97, .int .u8 98] 5 (2, 3))) := (Chg.refl _ _).alloc _
  have HK3 := Lib.hid (HK2.out.later hc)
  have HS := Lib.hid (sl_ab w2)
  clear HK2 hc
  refine (HK3.out.step (T := (0, [2, 1, 2, 0, 97, 98])) fun v hv => bytes_wr B v 20 (0, [2, 1]) _ 2 2 [97, 98] _ hv HS.out (by omega) (by omega) (by simp) (by omega)).mono ?_
  rintro e w3 ⟨rfl, hk⟩
  have HK4 := Lib.hid hk
  clear hk HK3 HS
  go_wp2_with fail
  refine (HK4.out.step (T := (0, [2, 1, 2, 0, 97, 98, 1])) fun v hv => bool_wr B v 20 (0, [2, 1, 2, 0, 97, 98]) true _ hv (by omega) (by omega) (by simp)).mono ?_
  rintro e w4 ⟨rfl, hk⟩
  have HK5 := Lib.hid hk
  clear hk HK4
  go_wp2_with fail
  refine (done_good w w4 B 20 _ HK5.out (by simp)).mono ?_
  rintro e w5 ⟨p, c, rfl, hb, hs, _⟩
  have HS : Hid (Sl w5 p 7 c [2, 1, 2, 0, 97, 98, 1]) := Lib.hid hs
  have HB := Lib.hid hb
  clear hb hs HK5
  go_wp2_with fail
  refine (read_ok w w5 p 7 c _ HS.out (by omega) HB.out).mono ?_
  rintro e w6 ⟨R, rfl, hr, hb6, _⟩
  have HR := Lib.hid hr
  have hcv := conv_sl (HS.out.later hb6)
  clear hr hb6 HS
  have hall := str_all
  go_wp2_with fail
  refine (num_ok w w6 R _ 2 HR.out (by simp)).mono ?_
  rintro e w7 ⟨rfl, hr⟩
  have HR7 : Hid (RdOk w w7 R (0, [2, 0, 97, 98, 1])) := Lib.hid hr
  have hn : (((numR ((0, [2, 1, 2, 0, 97, 98, 1]) : St) 2).2 : Nat) : Int) = 258 := rfl
  rw [hn]
  clear hr hn HR hcv hall
  go_wp2_with fail
  refine (bytes_ok w w7 R _ 2 HR7.out (by simp)).mono ?_
  rintro e w8 ⟨q, n, d, rfl, hs, _, hr⟩
  have HR8 : Hid (RdOk w w8 R (0, [1])) := Lib.hid hr
  have hcv : (convert 27 9 (.slice q n d)).run Try.prog w8 = .ok (.string (strOf [97, 98])) w8 := conv_sl hs
  clear hr HR7 hs
  have hab := str_ab
  go_wp2_with fail
  refine (bool_ok w w8 R _ HR8.out (by simp)).mono ?_
  rintro e w9 ⟨rfl, hr⟩
  have HR9 : Hid (RdOk w w9 R (0, [])) := Lib.hid hr
  rw [show (boolR ((0, [1]) : St)).2 = true from rfl]
  clear hr HR8 hcv hab
  go_wp2_with fail
  refine (endr_ok w w9 R _ HR9.out (by simp)).mono ?_
  rintro e w10 ⟨rfl, rfl⟩
  rw [show endR ((0, []) : St) = 0 from rfl]
  go_wp2_with fail
  go_ret
  have := HR9.out.below
  rw [HW0.out] at this
  exact ⟨rfl, this⟩
end Go.Proofs.Ythckdcejijfgmaa
