import Derived.Test.YtccgjdmbongbaaaGreatDoorPA42
namespace Go.Proofs.YtccgjdmbongbaaaGreatDoor
open Go.RowKit Go.ChangeShapes Go.WideShapes
set_option linter.unusedVariables false
set_option linter.unusedSimpArgs false
set_option maxRecDepth 10000
theorem withT_end {α : Type} {ix : α → Int} : ∀ {S : List α} {x : α}, (∀ y ∈ S, ix y < ix x) → withT ix S x = S ++ [x] := by
 intro S x h
 have h1 : witho ix S (ix x) = S := by
  unfold witho
  rw [List.filter_eq_self]
  intro y hy
  have := h y hy
  exact decide_eq_true (by omega)
 unfold withT
 rw [h1]
 clear h1
 induction S with
 | nil => rfl
 | cons y S ih =>
  have := h y (List.mem_cons_self ..)
  rw [insT, if_neg (by omega), ih fun z hz => h z (List.mem_cons_of_mem _ hz)]
  rfl
theorem foldT_up {α : Type} {ix : α → Int} : ∀ {L S : List α}, UpT ix (S ++ L) → L.foldl (withT ix) S = S ++ L
 | [], S, _ => by simp
 | x :: L, S, h => by
  have h1 : ∀ y ∈ S, ix y < ix x := fun y hy => by
   unfold UpT at h
   rw [List.map_append, List.pairwise_append] at h
   exact h.2.2 _ (List.mem_map_of_mem hy) _ (List.mem_map_of_mem (List.mem_cons_self ..))
  rw [List.foldl_cons, withT_end h1, foldT_up (by rw [List.append_assoc]; exact h), List.append_assoc]
  rfl
theorem newT_up {M : List Tc} (h : UpT Tc.id M) : newT Tc.id M = M := by
 have := foldT_up (ix := Tc.id) (L := M) (S := []) (by simpa using h)
 simpa [newT] using this
theorem jids {w : World} {B : Nat} {mb : Option Nat} {H : List Tv} {Q : Nat → Prop} {M : List Tc} (h : JgX w B mb H Q) (hm : H.map (·.c) = M) (hM : JOk M) : (∀ t ∈ H, Uok t.c.id) ∧ (∀ t ∈ H, t.n ≤ 20) ∧ H.length = M.length := by
 refine ⟨fun t ht => (hM.ok t.c (by rw [← hm]; exact List.mem_map_of_mem ht)).id, fun t ht => ?_, by rw [← hm, List.length_map]⟩
 have h1 := hM.few t.c (by rw [← hm]; exact List.mem_map_of_mem ht)
 have h2 := (h.own t ht).len
 omega
theorem jget_sv {H : List Tv} {M : List Tc} (h : H.map (·.c) = M) (i : Int) : (getT Tc.sg M i).getD tc0 = ((getT Tv.sg H i).getD tv0).c := by
 have h1 := map_getT (ix := Tv.sg) (jx := Tc.sg) (f := (·.c)) (fun _ => rfl) i H
 rw [h] at h1
 rw [← h1]
 cases getT Tv.sg H i <;> rfl
theorem jn_inst {NB : Nat} (hso : SortsU NB) : JnI NB Words Jg where
 wd h hb := h.later hb
 keep h hc hs := h.keep hc hs
 lt h := h.lt
 new p n c L w hl hn hf hid := jnew_any p n c L w hl hn hf hid
 get w B M Q i h hM hi := by
  obtain ⟨mb, H, hx, hm⟩ := h
  obtain ⟨h1, h2, h3⟩ := jids hx hm hM
  refine (jget_any w B mb H Q i hx hi (fun t ht => by have := h2 t ht; omega)).mono ?_
  rintro e w' ⟨p, m, rfl, hrow, hb⟩
  obtain ⟨g1, g2⟩ := jget_c hm i
  refine ⟨⟨((getT Tv.id H i).getD tv0).c, p, ((getT Tv.id H i).getD tv0).n, m⟩, by rw [g2], g1.symm, ?_, hb⟩
  exact OwnO.m (t := ⟨((getT Tv.id H i).getD tv0).c, p, ((getT Tv.id H i).getD tv0).n, m⟩) (own_base (fun _ _ => Nat.zero_le _) hrow)
 all w B M Q h hM hn := by
  obtain ⟨mb, H, hx, hm⟩ := h
  obtain ⟨h1, h2, h3⟩ := jids hx hm hM
  refine (jall_any hso w B mb H Q hx h1 (fun t ht => by have := h2 t ht; omega) (by have := hM.len; omega) (by omega)).mono ?_
  rintro e w' ⟨r, m, d, L, rfl, g1, g2, g3, g4⟩
  exact ⟨r, m, d, L, rfl, g1, g2.trans hm, g3, g4⟩
 apply w B M Q at_ r La Ta Ma hw h hM ha hP hok hs := japply_any w B M Q at_ r La Ta Ma hw h hM ha hP hok hs
 last w t hM hx hn := jlast_any t w hM hx (by omega)
theorem jn_inst2 (NB : Nat) : JnI2 NB Jg where
 of_ w B M Q i h hM hi := by
  obtain ⟨mb, H, hx, hm⟩ := h
  obtain ⟨h1, h2, h3⟩ := jids hx hm hM
  refine (jof_any w B mb H Q i hx h1 (fun t ht => by have := h2 t ht; omega)).mono ?_
  rintro e w' ⟨t, rfl, g1, g2, g3⟩
  exact ⟨t, by rw [jget_s hm i], by rw [jget_sv hm i]; exact g1, g2, g3⟩
theorem jn_inst3 {NB : Nat} (hso : SortsU NB) (hnb : NB ≤ 100) : JnI3 NB Jg where
 copy w B M Q h hM hn := by
  obtain ⟨mb, H, hx, hm⟩ := h
  obtain ⟨h1, h2, h3⟩ := jids hx hm hM
  have h4 := jcopy_any hso w B mb H Q hx h1 (fun t ht => by have := h2 t ht; omega) (by omega) (by omega)
  rw [hm, newT_up hM.up] at h4
  exact h4
theorem jn_inst5 (NB : Nat) : JnI5 NB Jg where
 first w B M Q h hM := by
  obtain ⟨mb, H, hx, hm⟩ := h
  have h1 := jfirst_any w B mb H Q hx
  rw [hm] at h1
  exact h1
set_option maxHeartbeats 4000000 in
theorem japply_nil (W : World) (at_ : Int) (r : Rv) : Calls Tryz.prog 12 #[.pointer none, .int .i64 at_, .agg (rcs r)] W fun e w' => e = .returned (.int .i64 1) ∧ Below W.heap.size W w' := by
 have hb0 : Below W.heap.size W (W.alloc (.cells (rcs r) 40)) := (Below.refl _ _).alloc (Nat.le_refl _) _
 have HB0 := Lib.hid hb0
 clear hb0
 go_enter Tryz.func12, Tryz.ntmps12
 go_upto_region 1 with (fail)
 generalize W.alloc (.cells (rcs r) 40) = V0 at *
 go_wp2_with fail
 go_ret
 exact ⟨rfl, HB0.out⟩
set_option maxHeartbeats 2000000 in
theorem jall_nil {NB : Nat} (hso : SortsU NB) (W : World) : Calls Tryz.prog 14 #[.pointer none] W fun e w' => e = .returned (.slice none 0 0) ∧ Below W.heap.size W w' := by
 have hb1 : Below W.heap.size W (W.alloc (.cells #[.map none] 60)) := (Below.refl _ _).alloc (Nat.le_refl _) _
 have eg : ∀ args w, (callFunc 56 args).run Tryz.prog w = .ok (.enter 56 args) w := enters_of Tryz.func56 (by kernel_rfl) rfl
 have HSRT : Hid (Calls Tryz.prog 38 #[.func (.func 56) #[] #[.pointer (some ⟨W.heap.size, 0, none⟩)]] (W.alloc (.cells #[.map none] 60)) fun e w' => ∃ p c, e = .returned (.slice p 0 c) ∧ Below (W.alloc (.cells #[.map none] 60)).heap.size (W.alloc (.cells #[.map none] 60)) w') := Lib.hid (by
  refine (usorted_any hso _ _ eg (fun ss => ss = []) 0 (by omega) [] (Nat.zero_le _) ?_ _ (ukeys_stops_nil 2 _ _ (block_cell (j := 0) (alloc_block W _) rfl))).mono ?_
  · rintro ss rfl
    simp [sortI]
  · rintro e w' ⟨p, c, rfl, _, hb⟩
    exact ⟨p, c, rfl, hb⟩)
 have HMK := Lib.hid (umkeys_any none W)
 have HB1 := Lib.hid hb1
 clear hb1 eg hso
 go_enter Tryz.func14, Tryz.ntmps14
 go_wp2_with fail
 refine (look_null W).mono ?_
 rintro e w1 ⟨rfl, hw⟩
 subst hw
 go_wp2_with fail
 refine HMK.out.mono ?_
 rintro e w2 ⟨rfl, hw⟩
 rw [← hw] at HSRT HB1
 clear HMK hw
 go_wp2_with fail
 refine HSRT.out.mono ?_
 rintro e w3 ⟨p, c, rfl, hb3⟩
 have HB3 := Lib.hid (HB1.out.trans (hb3.mono HB1.out.size))
 clear hb3 HSRT
 go_wp2_with fail
 refine wp_loop_rounds 1 ?_
 rw [rounds_succ]
 go_wp2_with fail
 go_ret
 exact ⟨rfl, HB3.out⟩
theorem jcopy_nil {NB : Nat} (hso : SortsU NB) (W : World) : Calls Tryz.prog 15 #[.pointer none] W fun e w' => ∃ B Q, e = .returned (.pointer (some ⟨B, 0, none⟩)) ∧ Jg w' B [] Q ∧ Below W.heap.size W w' := by
 have HA := Lib.hid (jall_nil hso W)
 have HNEW := Lib.hid fun w => jnew_any none 0 0 [] w (TL.empty w) (by omega) (fun t ht => by cases ht) (fun t ht => by cases ht)
 clear hso
 go_enter Tryz.func15, Tryz.ntmps15
 go_wp2_with fail
 refine HA.out.mono ?_
 rintro e w2 ⟨rfl, hb2⟩
 have HB2 := Lib.hid hb2
 clear hb2 HA
 go_wp2_with fail
 refine (HNEW.out w2).mono ?_
 rintro e w3 ⟨B, Q, rfl, hj, _, hb3⟩
 have H3 := Lib.hid (And.intro hj hb3)
 clear hj hb3 HNEW
 go_wp2_with fail
 go_ret
 exact ⟨B, Q, rfl, H3.out.1, HB2.out.trans (H3.out.2.mono HB2.out.size)⟩
end Go.Proofs.YtccgjdmbongbaaaGreatDoor
