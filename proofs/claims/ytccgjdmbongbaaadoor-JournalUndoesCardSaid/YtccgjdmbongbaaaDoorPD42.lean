import Derived.Test.YtccgjdmbongbaaaDoorPD41
namespace Go.Proofs.YtccgjdmbongbaaaDoor
open Go.RowKit Go.ChangeShapes Go.WideShapes
set_option linter.unusedVariables false
set_option linter.unusedSimpArgs false
set_option maxRecDepth 10000
theorem jget_s {H : List Tv} {M : List Tc} (h : H.map (·.c) = M) (i : Int) : (getT Tc.sg M i).isSome = (getT Tv.sg H i).isSome := by
 have h1 := map_getT (ix := Tv.sg) (jx := Tc.sg) (f := (·.c)) (fun _ => rfl) i H
 rw [h] at h1
 rw [← h1]
 cases getT Tv.sg H i <;> rfl
theorem app_out (M : List Tc) (at_ : Int) (X : Rx) (h : goodX X = false ∨ X.k < 2 ∨ 7 < X.k) : appC M at_ X = (M, 1) := if_pos h
set_option maxRecDepth 100000 in
set_option maxHeartbeats 8000000 in
theorem japply_any (W : World) (B : Nat) (M : List Tc) (Q : Nat → Prop) (at_ : Int) (r : Rv) (La : List Ln) (Ta : List Tk) (Ma : List Ln) (hw : Words W) (hj : Jg W B M Q) (hM : JOk M) (ha : In64 at_) (hP : RvM W r La Ta Ma) (hok : Rxok (r.x La Ta Ma)) (hs : SmV r) :
 Calls Tryd.prog 17 #[.pointer (some ⟨B, 0, none⟩), .int .i64 at_, .agg (rcs r)] W fun e w' => e = .returned (.int .i64 (appC M at_ (r.x La Ta Ma)).2) ∧ JActed Jg W w' B (appC M at_ (r.x La Ta Ma)).1 Q := by
 obtain ⟨mb, H, hx, hm⟩ := hj
 have hb0 : Below W.heap.size W (W.alloc (.cells (rcs r) 50)) := (Below.refl _ _).alloc (Nat.le_refl _) _
 have HB0 := Lib.hid hb0
 have HY : Hid (RB _ W.heap.size r) := Lib.hid (RB.new W r)
 have HJ := Lib.hid hx
 have HM := Lib.hid hm
 have HOK := Lib.hid hM
 have HW := Lib.hid fun w' (hb : Below W.heap.size W w') => hw.later hb
 have HGD := Lib.hid fun w' (hb : Below W.heap.size W w') => rec_good r La Ta Ma w' (hw.later hb) (hP.later hb) hok ⟨by have := hs.1; omega, by have := hs.2.1; omega, by have := hs.2.2; omega⟩
 have HP := Lib.hid hP
 have HR := Lib.hid hok
 have HA := Lib.hid ha
 obtain ⟨gd, hgd⟩ : ∃ g, goodX (r.x La Ta Ma) = g := ⟨_, rfl⟩
 have HG := Lib.hid hgd
 rw [hgd] at HGD
 obtain ⟨Y, hYE⟩ : ∃ Y, W.heap.size = Y := ⟨_, rfl⟩
 rw [hYE] at HY
 have HYW := Lib.hid hYE
 clear hb0 hx hm hM hw hP hok ha hs hgd
 go_enter Tryd.func17, Tryd.ntmps17
 go_upto_region 1 with (fail)
 clear hYE
 generalize W.alloc (.cells (rcs r) 50) = V0 at *
 go_wp2_with ((with_reducible refine wpList_load_rcg HY.out ?_ ?_ ?_); rfl; rfl)
 refine (HGD.out _ HB0.out).mono ?_
 rintro e1 w1 ⟨rfl, hb1⟩
 have HB1 := Lib.hid (HB0.out.trans (hb1.mono HB0.out.size))
 have HY2 := Lib.hid (HY.out.later hb1)
 clear hb1 HGD HY
 cases gd with
 | false =>
  have HAP := Lib.hid (app_out M at_ _ (.inl HG.out))
  go_wp2_with fail
  go_ret
  exact ⟨by rw [HAP.out]; rfl, by rw [HAP.out]; exact (ActX.stay HJ.out HM.out HB1.out).act⟩
 | true =>
  have hkk : r.k = 1 ∨ r.k = 2 ∨ r.k = 3 ∨ r.k = 4 ∨ r.k = 5 ∨ r.k = 6 ∨ r.k = 7 ∨ r.k = 8 ∨ r.k = 9 := kOk_cases (goodX_kOk HG.out)
  have hy0 := block_cell (j := 0) HY2.out (v := .int .u8 r.k) rfl
  rcases hkk with hk | hk | hk | hk | hk | hk | hk | hk | hk
  · have HAP := Lib.hid (app_out M at_ (r.x La Ta Ma) (.inr (by rw [show (r.x La Ta Ma).k = r.k from rfl, hk]; omega)))
    rw [hk] at hy0
    clear hk
    go_wp2_with fail
    go_ret
    exact ⟨by rw [HAP.out]; rfl, by rw [HAP.out]; exact (ActX.stay HJ.out HM.out HB1.out).act⟩
  · obtain ⟨rfl, rfl, rfl⟩ := good_no HG.out (by omega)
    have HIDS : Hid (∀ t ∈ H, Uok t.c.id) := Lib.hid fun t ht => (HOK.out.ok t.c (by rw [← HM.out]; exact List.mem_map_of_mem ht)).id
    have HFEW : Hid (∀ t ∈ H, t.n ≤ 100) := Lib.hid fun t ht => by
     have h1 := HOK.out.few t.c (by rw [← HM.out]; exact List.mem_map_of_mem ht)
     have h2 := (HJ.out.own t ht).len
     omega
    have hb := begin_any w1 B mb H Q M at_ r (HJ.out.later HB1.out) HM.out HIDS.out HFEW.out (by have h1 := HOK.out.len; rw [← HM.out, List.length_map] at h1; omega) (HW.out _ HB1.out) (HP.out.later HB1.out) HR.out
    have hap := appC_2 (at_ := at_) M (r.x [] [] []) HG.out hk
    rw [(jget_c HM.out (r.x [] [] []).tx).2, jget_s HM.out (r.x [] [] []).sg] at hap
    by_cases hc : (getT Tv.id H r.tx).isSome = true ∨ (getT Tv.sg H r.sg).isSome = true
    · have hap2 := hap.trans (if_pos hc)
      simp only [if_pos hc] at hb
      have HAP := Lib.hid hap2
      have HBG := Lib.hid hb
      clear hb hap hap2 hc
      rw [hk] at hy0
      clear hk
      go_wp2_with ((with_reducible refine wpList_load_rc HY2.out ?_ ?_); rfl)
      refine HBG.out.mono ?_
      rintro e3 w3 ⟨rfl, hact⟩
      have HACT := Lib.hid (JActed.ahead HB1.out hact.act)
      clear hact HBG
      go_wp2_with fail
      go_ret
      exact ⟨by rw [HAP.out]; rfl, by rw [HAP.out]; exact HACT.out⟩
    · have hap2 := hap.trans (if_neg hc)
      simp only [if_neg hc] at hb
      have HAP := Lib.hid hap2
      have HBG := Lib.hid hb
      clear hb hap hap2 hc
      rw [hk] at hy0
      clear hk
      go_wp2_with ((with_reducible refine wpList_load_rc HY2.out ?_ ?_); rfl)
      refine HBG.out.mono ?_
      rintro e3 w3 ⟨rfl, hact⟩
      have HACT := Lib.hid (JActed.ahead HB1.out hact.act)
      clear hact HBG
      go_wp2_with fail
      go_ret
      exact ⟨by rw [HAP.out]; rfl, by rw [HAP.out]; exact HACT.out⟩
  · obtain ⟨rfl, rfl, rfl⟩ := good_no HG.out (by omega)
    have HCG := Lib.hid (change_any w1 B mb H Q M at_ r (HJ.out.later HB1.out) HM.out HOK.out (HW.out _ HB1.out) (HP.out.later HB1.out) HR.out HG.out (by omega))
    rw [hk] at hy0
    clear hk
    go_wp2_with ((with_reducible refine wpList_load_rc HY2.out ?_ ?_); rfl)
    refine HCG.out.mono ?_
    rintro e3 w3 ⟨rfl, hact⟩
    have HACT := Lib.hid (JActed.ahead HB1.out hact.act)
    clear hact HCG
    go_wp2_with fail
    go_ret
    exact ⟨rfl, HACT.out⟩
  · obtain ⟨rfl, rfl, rfl⟩ := good_no HG.out (by omega)
    have HCG := Lib.hid (change_any w1 B mb H Q M at_ r (HJ.out.later HB1.out) HM.out HOK.out (HW.out _ HB1.out) (HP.out.later HB1.out) HR.out HG.out (by omega))
    rw [hk] at hy0
    clear hk
    go_wp2_with ((with_reducible refine wpList_load_rc HY2.out ?_ ?_); rfl)
    refine HCG.out.mono ?_
    rintro e3 w3 ⟨rfl, hact⟩
    have HACT := Lib.hid (JActed.ahead HB1.out hact.act)
    clear hact HCG
    go_wp2_with fail
    go_ret
    exact ⟨rfl, HACT.out⟩
  · obtain ⟨rfl, rfl, rfl⟩ := good_no HG.out (by omega)
    have HCG := Lib.hid (change_any w1 B mb H Q M at_ r (HJ.out.later HB1.out) HM.out HOK.out (HW.out _ HB1.out) (HP.out.later HB1.out) HR.out HG.out (by omega))
    rw [hk] at hy0
    clear hk
    go_wp2_with ((with_reducible refine wpList_load_rc HY2.out ?_ ?_); rfl)
    refine HCG.out.mono ?_
    rintro e3 w3 ⟨rfl, hact⟩
    have HACT := Lib.hid (JActed.ahead HB1.out hact.act)
    clear hact HCG
    go_wp2_with fail
    go_ret
    exact ⟨rfl, HACT.out⟩
  · obtain ⟨rfl, rfl, rfl⟩ := good_no HG.out (by omega)
    have HCG := Lib.hid (change_any w1 B mb H Q M at_ r (HJ.out.later HB1.out) HM.out HOK.out (HW.out _ HB1.out) (HP.out.later HB1.out) HR.out HG.out (by omega))
    rw [hk] at hy0
    clear hk
    go_wp2_with ((with_reducible refine wpList_load_rc HY2.out ?_ ?_); rfl)
    refine HCG.out.mono ?_
    rintro e3 w3 ⟨rfl, hact⟩
    have HACT := Lib.hid (JActed.ahead HB1.out hact.act)
    clear hact HCG
    go_wp2_with fail
    go_ret
    exact ⟨rfl, HACT.out⟩
  · obtain ⟨rfl, rfl, rfl⟩ := good_no HG.out (by omega)
    have HCG := Lib.hid (change_any w1 B mb H Q M at_ r (HJ.out.later HB1.out) HM.out HOK.out (HW.out _ HB1.out) (HP.out.later HB1.out) HR.out HG.out (by omega))
    rw [hk] at hy0
    clear hk
    go_wp2_with ((with_reducible refine wpList_load_rc HY2.out ?_ ?_); rfl)
    refine HCG.out.mono ?_
    rintro e3 w3 ⟨rfl, hact⟩
    have HACT := Lib.hid (JActed.ahead HB1.out hact.act)
    clear hact HCG
    go_wp2_with fail
    go_ret
    exact ⟨rfl, HACT.out⟩
  · have HAP := Lib.hid (app_out M at_ (r.x La Ta Ma) (.inr (by rw [show (r.x La Ta Ma).k = r.k from rfl, hk]; omega)))
    rw [hk] at hy0
    clear hk
    go_wp2_with fail
    go_ret
    exact ⟨by rw [HAP.out]; rfl, by rw [HAP.out]; exact (ActX.stay HJ.out HM.out HB1.out).act⟩
  · have HAP := Lib.hid (app_out M at_ (r.x La Ta Ma) (.inr (by rw [show (r.x La Ta Ma).k = r.k from rfl, hk]; omega)))
    rw [hk] at hy0
    clear hk
    go_wp2_with fail
    go_ret
    exact ⟨by rw [HAP.out]; rfl, by rw [HAP.out]; exact (ActX.stay HJ.out HM.out HB1.out).act⟩
theorem jids {w : World} {B : Nat} {mb : Option Nat} {H : List Tv} {Q : Nat → Prop} {M : List Tc} (h : JgX w B mb H Q) (hm : H.map (·.c) = M) (hM : JOk M) : (∀ t ∈ H, Uok t.c.id) ∧ (∀ t ∈ H, t.n ≤ 20) ∧ H.length = M.length := by
 refine ⟨fun t ht => (hM.ok t.c (by rw [← hm]; exact List.mem_map_of_mem ht)).id, fun t ht => ?_, by rw [← hm, List.length_map]⟩
 have h1 := hM.few t.c (by rw [← hm]; exact List.mem_map_of_mem ht)
 have h2 := (h.own t ht).len
 omega
theorem jget_sv {H : List Tv} {M : List Tc} (h : H.map (·.c) = M) (i : Int) : (getT Tc.sg M i).getD tc0 = ((getT Tv.sg H i).getD tv0).c := by
 have h1 := map_getT (ix := Tv.sg) (jx := Tc.sg) (f := (·.c)) (fun _ => rfl) i H
 rw [h] at h1
 rw [← h1]
 cases getT Tv.sg H i <;> rfl
theorem jn_inst {NB : Nat} (hso : SortsU NB) : JnI NB Words Jg where
 wd h hb := h.later hb
 keep h hc hs := h.keep hc hs
 lt h := h.lt
 new p n c L w hl hn hf hid := jnew_any p n c L w hl hn hf hid
 get w B M Q i h hM hi := by
  obtain ⟨mb, H, hx, hm⟩ := h
  obtain ⟨h1, h2, h3⟩ := jids hx hm hM
  refine (jget_any w B mb H Q i hx hi (fun t ht => by have := h2 t ht; omega)).mono ?_
  rintro e w' ⟨p, m, rfl, hrow, hb⟩
  obtain ⟨g1, g2⟩ := jget_c hm i
  refine ⟨⟨((getT Tv.id H i).getD tv0).c, p, ((getT Tv.id H i).getD tv0).n, m⟩, by rw [g2], g1.symm, ?_, hb⟩
  exact OwnO.m (t := ⟨((getT Tv.id H i).getD tv0).c, p, ((getT Tv.id H i).getD tv0).n, m⟩) (own_base (fun _ _ => Nat.zero_le _) hrow)
 all w B M Q h hM hn := by
  obtain ⟨mb, H, hx, hm⟩ := h
  obtain ⟨h1, h2, h3⟩ := jids hx hm hM
  refine (jall_any hso w B mb H Q hx h1 (fun t ht => by have := h2 t ht; omega) (by have := hM.len; omega) (by omega)).mono ?_
  rintro e w' ⟨r, m, d, L, rfl, g1, g2, g3, g4⟩
  exact ⟨r, m, d, L, rfl, g1, g2.trans hm, g3, g4⟩
 apply w B M Q at_ r La Ta Ma hw h hM ha hP hok hs := japply_any w B M Q at_ r La Ta Ma hw h hM ha hP hok hs
 last w t hM hx hn := jlast_any t w hM hx (by omega)
theorem jn_inst2 (NB : Nat) : JnI2 NB Jg where
 of_ w B M Q i h hM hi := by
  obtain ⟨mb, H, hx, hm⟩ := h
  obtain ⟨h1, h2, h3⟩ := jids hx hm hM
  refine (jof_any w B mb H Q i hx h1 (fun t ht => by have := h2 t ht; omega)).mono ?_
  rintro e w' ⟨t, rfl, g1, g2, g3⟩
  exact ⟨t, by rw [jget_s hm i], by rw [jget_sv hm i]; exact g1, g2, g3⟩
theorem jn_inst4 (NB : Nat) : JnI4 NB Jg where
 same w a b ha hb hn hm := jgsame_any a b w ha hb (by omega) (by omega)
end Go.Proofs.YtccgjdmbongbaaaDoor
