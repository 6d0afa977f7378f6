/- The document's Plain. -/
import Derived.Test.YthkeefdapnkgeaaConfRefAll
import Derived.Test.YthkeefdapnkgeaaConfWorks
namespace Go.Proofs.Ythkeefdapnkgeaa
open Go.RowKit Go.ChangeShapes Go.WideShapes
set_option linter.unusedVariables false
set_option linter.unusedSimpArgs false

theorem all_pos_check : ((List.range 4).all fun (s : Nat) => (List.range 4).all fun (w : Nat) => decide (0 < (allQ ((s : Int) + 1) ((w : Int) + 1) 5).length)) = true := by kernel_rfl
theorem all_pos (s w : Nat) (hs : 1 ≤ s ∧ s ≤ 4) (hw : 1 ≤ w ∧ w ≤ 4) : 0 < (allQ s w 5).length := by
  have h := List.all_eq_true.1 (List.all_eq_true.1 all_pos_check (s - 1) (List.mem_range.2 (by omega))) (w - 1) (List.mem_range.2 (by omega))
  rw [show ((s - 1 : Nat) : Int) + 1 = s by omega, show ((w - 1 : Nat) : Int) + 1 = w by omega] at h
  simpa using h
theorem RInv.mid {W W2 wr w3 : World} {R B s w : Nat} {pk : Option Addr} {n ck : Nat} {L : List K} {v : Value} {M : List D} (h : RInv W W2 wr R B s w pk n ck L v M) (o1 o2 : Obj) (h2 : ((wr.alloc o1).alloc o2).grownBy w3 v.ownBlock) : w3.heap[B]? = some (.cells (ccv s w v) 30 (0, 0)) := by
  have hb : Below W2.heap.size wr w3 := (((Below.refl W2.heap.size wr).alloc h.size o1).alloc (by have := h.size; simp; omega) o2).grown h2 (by have := h.size; simp; omega) (fun k hk => (h.own.lt k hk).1)
  exact (hb.block B h.ltB).trans h.cfg
set_option maxHeartbeats 4000000 in
theorem refplain_a (x y i h : Int) (s w : Nat) (hx : keptI x 1 4 = s) (hy : keptI y 1 4 = w) (hs : 1 ≤ s ∧ s ≤ 4) (hw : 1 ≤ w ∧ w ≤ 4) (c1 : i < 0) (c2 : h < 0) (W : World) : Calls Try.prog 12 #[.int .i64 x, .int .i64 y, .int .i64 i, .int .i64 h] W (Made W s w 0 0) := by
  have HK1 := Lib.hid fun W => between_any x 1 4 (by omega) W
  have HK2 := Lib.hid fun W => between_any y 1 4 (by omega) W
  rw [hx] at HK1
  rw [hy] at HK2
  have HA := Lib.hid fun W => refall_new s w W
  rw [refQ_on s w hs hw] at HA
  have hl := all_len s w hs hw
  have hpos := all_pos s w hs hw
  have HD : Hid (plainL s w 0 0 = (allQ s w 5).map (plainD 0 0)) := Lib.hid rfl
  have HML : Hid ((plainL s w 0 0).length = (allQ s w 5).length) := Lib.hid (plain_len _ _ _ _)
  have HKY : Hid (∀ p n c f bs, n = (allQ s w 5).length → Keys (pcf s w p n c f bs) s w) := Lib.hid fun p n c f bs e => ⟨hs.1, hs.2, hw.1, hw.2, rfl, rfl, e⟩
  obtain ⟨hs1, hs4⟩ := hs
  obtain ⟨hw1, hw4⟩ := hw
  clear hx hy
  unfold Made
  generalize plainL s w 0 0 = MM at *
  generalize allQ s w 5 = L at *
  generalize hn : L.length = n at *
  have HN := Lib.hid hn
  clear hn
  have HB0 := Lib.hid ((Below.refl W.heap.size W).alloc (Nat.le_refl _) (.cells #[.int .i64 0, .int .i64 0, .slice none 0 0, .int .u8 0, .int .u8 0, .int .u8 0, .int .u8 0, .int .u8 0, .int .u8 0, .int .u8 0, .int .u8 0, .int .u8 0, .int .u8 0, .int .u8 0, .int .u8 0, .int .u8 0, .int .u8 0, .int .u8 0, .int .u8 0, .int .i64 0, .int .i64 0, .int .i64 0, .int .i64 0, .int .i64 0, .int .i64 0, .int .i64 0] 30))
  have HR0 := Lib.hid (alloc_block W (.cells #[.int .i64 0, .int .i64 0, .slice none 0 0, .int .u8 0, .int .u8 0, .int .u8 0, .int .u8 0, .int .u8 0, .int .u8 0, .int .u8 0, .int .u8 0, .int .u8 0, .int .u8 0, .int .u8 0, .int .u8 0, .int .u8 0, .int .u8 0, .int .u8 0, .int .u8 0, .int .i64 0, .int .i64 0, .int .i64 0, .int .i64 0, .int .i64 0, .int .i64 0, .int .i64 0] 30))
  go_enter Try.func12, Try.ntmps12
  go_upto_region 1 with (fail)
  generalize W.alloc (.cells #[.int .i64 0, .int .i64 0, .slice none 0 0, .int .u8 0, .int .u8 0, .int .u8 0, .int .u8 0, .int .u8 0, .int .u8 0, .int .u8 0, .int .u8 0, .int .u8 0, .int .u8 0, .int .u8 0, .int .u8 0, .int .u8 0, .int .u8 0, .int .u8 0, .int .u8 0, .int .i64 0, .int .i64 0, .int .i64 0, .int .i64 0, .int .i64 0, .int .i64 0, .int .i64 0] 30) = W0 at *
  have HRB := Lib.hid (block_lt HR0.out)
  go_wp2_with fail
  refine (HK1.out _).mono ?_
  rintro e w' ⟨rfl, rfl⟩
  go_wp2_with fail
  refine (HK2.out _).mono ?_
  rintro e w' ⟨rfl, rfl⟩
  clear HK1 HK2
  go_upto_region 6 with ((with_reducible refine wpList_store_new (C := pcf s w none 0 0 (fun _ => 0) 0) ?_ ?_ ?_ ?_); rfl; rfl; rfl)
  have HC1 := Lib.hid (CB.new w' (pcf s w none 0 0 (fun _ => 0) 0))
  have HB1 := Lib.hid (HB0.out.alloc HB0.out.size (.cells (cc (pcf s w none 0 0 (fun _ => 0) 0)) 30))
  have HR1 := Lib.hid (block_later HR0.out ((Below.refl _ _).alloc (Nat.le_refl _) (.cells (cc (pcf s w none 0 0 (fun _ => 0) 0)) 30)))
  generalize w'.alloc (.cells (cc (pcf s w none 0 0 (fun _ => 0) 0)) 30) = W1 at *
  have HGB := Lib.hid HB0.out.size
  generalize w'.heap.size = B at *
  clear HB0 HR0
  have z0 := block_cell (j := 0) HC1.out (v := .int .i64 s) rfl
  have z1 := block_cell (j := 1) HC1.out (v := .int .i64 w) rfl
  go_wp2_with fail
  refine (HA.out _).mono ?_
  rintro e W2 ⟨pk, ck, rfl, hk, hb, hpk⟩
  rw [HN.out] at hk ⊢
  have HRI : Hid (RInv W W2 W2 W.heap.size B s w pk n ck L (.slice none 0 0) []) := by
    have hBlt := HC1.out.lt
    have hRlt := block_lt HR1.out
    have hs2 := hb.size
    obtain ⟨bk, ok, hpk1, hck⟩ := hk.cell (by omega)
    have hbk := World.block_lt_of_cell? _ _ (hck 0 (by omega)).1
    exact Lib.hid ⟨World.ownsRow_nil _ _ _ _, block_later HC1.out hb, ⟨_, block_later HR1.out hb, rfl⟩, hk, HB1.out.trans (hb.mono HB1.out.size), Nat.le_refl _, by have := HB1.out.size; omega, by have := HRB.out; omega, HGB.out, Nat.le_refl _, by omega, by omega, fun a ha => ⟨by rw [hpk1] at ha; cases ha; exact hbk, by have := hpk a ha; omega⟩⟩
  clear z0 z1 hk hb hpk HC1 HB1 HR1 HA HRB HGB
  go_wp2_with fail
  go_loopg [11] n (fun g iv wr => ∃ j : Nat, j ≤ n ∧ g = n - j ∧ iv = .int .i64 j ∧ ∃ v, Hid (RInv W W2 wr W.heap.size B s w pk n ck L v ((L.take j).map (plainD 0 0))))
  case atStart => exact ⟨0, Nat.zero_le _, rfl, rfl, _, HRI⟩
  case round =>
    clear HRI
    obtain ⟨j, hj, rfl, rfl, v, HI1⟩ := hrel
    by_cases hlt : j < n
    · have hlt' : (j : Int) < n := by omega
      obtain ⟨b, off, rfl, hc⟩ := HI1.out.keys.cell (by omega)
      obtain ⟨c0, c1, c2⟩ := hc j hlt
      have hbl := World.block_lt_of_cell? _ _ c0
      have hnm : (n : Int) ≤ 80 := by omega
      have HT : Hid ((L.take (j + 1)).map (plainD 0 0) = (L.take j).map (plainD 0 0) ++ [plainD 0 0 (L.getD j (0, 0, 0))]) := Lib.hid (by
        rw [List.take_add_one, List.map_append, List.getD, List.getElem?_eq_getElem (by rw [HN.out]; exact hlt)]
        rfl)
      clear hc
      generalize L.getD j (0, 0, 0) = k at *
      obtain ⟨k1, k2, k3⟩ := k
      simp only at c0 c1 c2
      by_cases hk : k1 = 1
      · subst hk
        have hpd : plainD 0 0 (1, k2, k3) = ((1, k2, k3), 0, 0, 0) := by simp [plainD]
        rw [hpd] at HT
        clear hpd
        have hx2 := alloc_block wr (.cells #[.int .u8 1, .int .u8 k2, .int .u8 k3, .int .i64 0, .int .i64 0, .int .i64 0] 39)
        have HX2 := Lib.hid hx2
        have HOWN := Lib.hid (HI1.out.own.alloc (.cells #[.int .u8 1, .int .u8 k2, .int .u8 k3, .int .i64 0, .int .i64 0, .int .i64 0] 39))
        have HSTEP : Hid (∀ w3 v' o2, w3.ownsRow W2.heap.size 39 6 v' (((L.take j).map (plainD 0 0)).length + 1) (flatG dc ((L.take j).map (plainD 0 0) ++ [((1, k2, k3), 0, 0, 0)])) → ((wr.alloc (.cells #[.int .u8 1, .int .u8 k2, .int .u8 k3, .int .i64 0, .int .i64 0, .int .i64 0] 39)).alloc o2).grownBy w3 v.ownBlock → RInv W W2 (w3.setCell ⟨B, 2, none⟩ v') W.heap.size B s w (some ⟨b, off, none⟩) n ck L v' ((L.take j).map (plainD 0 0) ++ [((1, k2, k3), 0, 0, 0)])) := Lib.hid fun w3 v' o2 h1 h2 => HI1.out.step _ o2 ((1, k2, k3), 0, 0, 0) h1 h2
        have HMID : Hid (∀ w3 o2, ((wr.alloc (.cells #[.int .u8 1, .int .u8 k2, .int .u8 k3, .int .i64 0, .int .i64 0, .int .i64 0] 39)).alloc o2).grownBy w3 v.ownBlock → w3.heap[B]? = some (.cells (ccv s w v) 30 (0, 0))) := Lib.hid fun w3 o2 h2 => HI1.out.mid _ o2 h2
        have hz2 := block_cell (j := 2) HI1.out.cfg (v := v) rfl
        have HZ2 := Lib.hid (block_cell (j := 2) (block_later HI1.out.cfg ((Below.refl _ _).alloc (Nat.le_refl _) (.cells #[.int .u8 1, .int .u8 k2, .int .u8 k3, .int .i64 0, .int .i64 0, .int .i64 0] 39))) (v := v) rfl)
        have hmost : ((L.take j).map (plainD 0 0)).length ≤ 1000000 := by rw [List.length_map, List.length_take]; omega
        have hsz : W2.heap.size ≤ (wr.alloc (.cells #[.int .u8 1, .int .u8 k2, .int .u8 k3, .int .i64 0, .int .i64 0, .int .i64 0] 39)).heap.size := by have := HI1.out.size; simp; omega
        have hnew := Lib.hid (decl_news (wr.alloc (.cells #[.int .u8 1, .int .u8 k2, .int .u8 k3, .int .i64 0, .int .i64 0, .int .i64 0] 39)) ((1, k2, k3), 0, 0, 0))
        clear hz2 hx2 HI1
        go_upto_region 13 with (fail)
        generalize (L.take j).map (plainD 0 0) = M at *
        generalize wr.alloc (.cells #[.int .u8 1, .int .u8 k2, .int .u8 k3, .int .i64 0, .int .i64 0, .int .i64 0] 39) = w2 at *
        generalize wr.heap.size = Y at *
        have x0 := block_cell (j := 0) HX2.out rfl
        have x1 := block_cell (j := 1) HX2.out rfl
        have x2 := block_cell (j := 2) HX2.out rfl
        have x3 := block_cell (j := 3) HX2.out rfl
        have x4 := block_cell (j := 4) HX2.out rfl
        have x5 := block_cell (j := 5) HX2.out rfl
        have z2 := HZ2.out
        clear c0 c1 c2
        go_wp2_with (at_builtin; refine wpList_append_decl rfl _ _ rfl W2.heap.size _ M.length M rfl (HOWN.out.alloc _) hmost ((1, k2, k3), 0, 0, 0) w2.heap.size rfl hnew.out (by simp; omega) ?_; intro v' w3 h1 h2; obtain ⟨p', c', rfl, _, _⟩ := SlG.of_own (d := d0) dc_len (by decide) h1; have HNX := Lib.hid (HSTEP.out w3 _ _ h1 h2); have hmid := HMID.out w3 _ h2; have y2 := block_cell (j := 2) hmid (v := v) rfl; have yf := block_free 2 hmid; clear hmid h1 h2 z2 x0 x1 x2 x3 x4 x5)
        go_roundg (n - (j + 1))
        case measure => omega
        case rel => exact ⟨j + 1, by omega, rfl, by go_num, _, Lib.hid (by rw [HT.out]; exact HNX.out)⟩
      · have hkb : (k1 == 1) = false := by rw [beq_eq_false_iff_ne]; exact hk
        have hpd : plainD 0 0 (k1, k2, k3) = ((k1, k2, k3), 0, 0, 0) := by simp [plainD, hk]
        rw [hpd] at HT
        clear hpd
        have hx2 := alloc_block wr (.cells #[.int .u8 k1, .int .u8 k2, .int .u8 k3, .int .i64 0, .int .i64 0, .int .i64 0] 39)
        have HX2 := Lib.hid hx2
        have HOWN := Lib.hid (HI1.out.own.alloc (.cells #[.int .u8 k1, .int .u8 k2, .int .u8 k3, .int .i64 0, .int .i64 0, .int .i64 0] 39))
        have HSTEP : Hid (∀ w3 v' o2, w3.ownsRow W2.heap.size 39 6 v' (((L.take j).map (plainD 0 0)).length + 1) (flatG dc ((L.take j).map (plainD 0 0) ++ [((k1, k2, k3), 0, 0, 0)])) → ((wr.alloc (.cells #[.int .u8 k1, .int .u8 k2, .int .u8 k3, .int .i64 0, .int .i64 0, .int .i64 0] 39)).alloc o2).grownBy w3 v.ownBlock → RInv W W2 (w3.setCell ⟨B, 2, none⟩ v') W.heap.size B s w (some ⟨b, off, none⟩) n ck L v' ((L.take j).map (plainD 0 0) ++ [((k1, k2, k3), 0, 0, 0)])) := Lib.hid fun w3 v' o2 h1 h2 => HI1.out.step _ o2 ((k1, k2, k3), 0, 0, 0) h1 h2
        have HMID : Hid (∀ w3 o2, ((wr.alloc (.cells #[.int .u8 k1, .int .u8 k2, .int .u8 k3, .int .i64 0, .int .i64 0, .int .i64 0] 39)).alloc o2).grownBy w3 v.ownBlock → w3.heap[B]? = some (.cells (ccv s w v) 30 (0, 0))) := Lib.hid fun w3 o2 h2 => HI1.out.mid _ o2 h2
        have hz2 := block_cell (j := 2) HI1.out.cfg (v := v) rfl
        have HZ2 := Lib.hid (block_cell (j := 2) (block_later HI1.out.cfg ((Below.refl _ _).alloc (Nat.le_refl _) (.cells #[.int .u8 k1, .int .u8 k2, .int .u8 k3, .int .i64 0, .int .i64 0, .int .i64 0] 39))) (v := v) rfl)
        have hmost : ((L.take j).map (plainD 0 0)).length ≤ 1000000 := by rw [List.length_map, List.length_take]; omega
        have hsz : W2.heap.size ≤ (wr.alloc (.cells #[.int .u8 k1, .int .u8 k2, .int .u8 k3, .int .i64 0, .int .i64 0, .int .i64 0] 39)).heap.size := by have := HI1.out.size; simp; omega
        have hnew := Lib.hid (decl_news (wr.alloc (.cells #[.int .u8 k1, .int .u8 k2, .int .u8 k3, .int .i64 0, .int .i64 0, .int .i64 0] 39)) ((k1, k2, k3), 0, 0, 0))
        clear hz2 hx2 HI1
        go_upto_region 13 with (fail)
        generalize (L.take j).map (plainD 0 0) = M at *
        generalize wr.alloc (.cells #[.int .u8 k1, .int .u8 k2, .int .u8 k3, .int .i64 0, .int .i64 0, .int .i64 0] 39) = w2 at *
        generalize wr.heap.size = Y at *
        have x0 := block_cell (j := 0) HX2.out rfl
        have x1 := block_cell (j := 1) HX2.out rfl
        have x2 := block_cell (j := 2) HX2.out rfl
        have x3 := block_cell (j := 3) HX2.out rfl
        have x4 := block_cell (j := 4) HX2.out rfl
        have x5 := block_cell (j := 5) HX2.out rfl
        have z2 := HZ2.out
        clear c0 c1 c2
        go_wp2_with (at_builtin; refine wpList_append_decl rfl _ _ rfl W2.heap.size _ M.length M rfl (HOWN.out.alloc _) hmost ((k1, k2, k3), 0, 0, 0) w2.heap.size rfl hnew.out (by simp; omega) ?_; intro v' w3 h1 h2; obtain ⟨p', c', rfl, _, _⟩ := SlG.of_own (d := d0) dc_len (by decide) h1; have HNX := Lib.hid (HSTEP.out w3 _ _ h1 h2); have hmid := HMID.out w3 _ h2; have y2 := block_cell (j := 2) hmid (v := v) rfl; have yf := block_free 2 hmid; clear hmid h1 h2 z2 x0 x1 x2 x3 x4 x5)
        go_roundg (n - (j + 1))
        case measure => omega
        case rel => exact ⟨j + 1, by omega, rfl, by go_num, _, Lib.hid (by rw [HT.out]; exact HNX.out)⟩
    · obtain rfl : n = j := by omega
      have hMM : (L.take n).map (plainD 0 0) = MM := by rw [HD.out, List.take_of_length_le (by rw [HN.out]; exact Nat.le_refl _)]
      rw [hMM] at HI1
      obtain ⟨p, c, hv, hpi⟩ := HI1.out.done
      rw [HML.out] at hpi
      have HPI := Lib.hid hpi
      clear HI1 hMM hv hpi
      have z0 := block_cell (j := 0) HPI.out.cb (v := .int .i64 s) rfl
      go_wp2_with fail
      clear z0
      go_loopw [13] (fun i wr => ∃ a : Nat, a ≤ s ∧ i = .int .i64 a ∧ Hid (PInv W wr W.heap.size B s w p n c MM a 0)) (fun i _ => s - (intOf i).toNat)
      case atStart => exact ⟨0, Nat.zero_le _, rfl, HPI⟩
      case round =>
        clear HPI
        obtain ⟨a, ha, rfl, HPI⟩ := hrel
        have z0 := block_cell (j := 0) HPI.out.cb (v := .int .i64 s) rfl
        by_cases hlt : a < s
        · have hlt' : (a : Int) < s := by omega
          have ha4 : a < 4 := by omega
          have ha4' : (a : Int) < 4 := by omega
          go_wp2_with fail
          clear z0
          go_loopw [14] (fun i wr => ∃ b : Nat, b ≤ w ∧ i = .int .i64 b ∧ Hid (PInv W wr W.heap.size B s w p n c MM a b)) (fun i _ => w - (intOf i).toNat)
          case atStart => exact ⟨0, Nat.zero_le _, rfl, HPI⟩
          case round =>
            clear HPI
            obtain ⟨b, hb, rfl, HPI⟩ := hrel
            have z1 := block_cell (j := 1) HPI.out.cb (v := .int .i64 w) rfl
            by_cases hlt2 : b < w
            · have hlt2' : (b : Int) < w := by omega
              have hb4 : b < 4 := by omega
              have hb4' : (b : Int) < 4 := by omega
              have hcell := HPI.out.cb.prio (a * 4 + b) (by omega)
              have hfz := block_free (3 + a * 4 + b) HPI.out.cb
              rw [← Nat.add_assoc] at hcell
              have HNX := Lib.hid (HPI.out.step ha4 hb4)
              go_wp2_with fail
              go_roundw
              case rel => exact ⟨b + 1, by omega, by go_num, HNX⟩
              case measure => simp [intOf]; omega
            · obtain rfl : w = b := by omega
              have HNX := Lib.hid HPI.out.turn
              go_wp2_with fail
              go_roundw
              case rel => exact ⟨a + 1, by omega, by go_num, HNX⟩
              case measure => simp [intOf]; omega
        · obtain rfl : s = a := by omega
          have HND := Lib.hid fun W => refneed_any (pcf s w p n c (prK w s 0) 0) s w 256 (HKY.out p n c _ _ rfl) rfl (by omega) (by omega) (by show n ≤ 1000000; omega) W
          rw [need_pcf] at HND
          go_wp2_with (first | ((with_reducible refine wpList_load_cf HPI.out.cb ?_ ?_); rfl))
          refine (HND.out _).mono ?_
          rintro e W5 ⟨rfl, hb⟩
          have HC5 := Lib.hid (HPI.out.cb.later hb)
          have HB5 := Lib.hid (HPI.out.below.trans (hb.mono HPI.out.below.size))
          obtain ⟨old, ho1, ho2⟩ := HPI.out.ret
          have HO5 := Lib.hid (block_later ho1 hb)
          have HO2 := Lib.hid ho2
          have HR5 := Lib.hid (HPI.out.row.later hb)
          have HC6 := Lib.hid (HC5.out.putS (needN n : Nat))
          have HB6 := Lib.hid (HB5.out.setCell (p := ⟨B, 25, none⟩) HPI.out.geB (.int .i64 (needN n : Nat)))
          have HO6 := Lib.hid ((Below.heap_setCell W5 ⟨B, 25, none⟩ (.int .i64 (needN n : Nat)) _ HPI.out.rB).trans HO5.out)
          have HR6 := Lib.hid (HR5.out.put B 25 (.int .i64 (needN n : Nat)) HPI.out.pB)
          have z25 := block_cell (j := 25) HC5.out (v := .int .i64 0) rfl
          have zf := block_free 25 HC5.out
          clear hb ho1 ho2 z0
          go_upto_region 22 with (fail)
          generalize W5.setCell ⟨B, 25, none⟩ (.int .i64 (needN n : Nat)) = W6 at *
          have HC7 : Hid (CB (W6.setRow W.heap.size (cc (pcf s w p n c (prK w s 0) (needN n : Nat)))) W.heap.size (pcf s w p n c (prK w s 0) (needN n : Nat))) := Lib.hid (CB.setRow _ HO6.out)
          have HB7 := Lib.hid (below_setRow HB6.out (Nat.le_refl _) (cc (pcf s w p n c (prK w s 0) (needN n : Nat))))
          have HR7 := Lib.hid (HR6.out.setRow W.heap.size (cc (pcf s w p n c (prK w s 0) (needN n : Nat))) HPI.out.pR)
          clear z25 zf HC5 HB5 HO5 HR5
          go_wp2_with (first | ((with_reducible refine wpList_load_cf HC6.out ?_ ?_); rfl) | ((with_reducible refine wpList_store_cf (C := pcf s w p n c (prK w s 0) (needN n : Nat)) HO6.out HO2.out ?_ ?_ ?_); rfl; rfl))
          (try simp only [Exit.inBlock, Exit.then]); refine bodyPost_ret (v := .agg (cc (pcf s w p n c (prK w s 0) (needN n : Nat)))) ?_ rfl ?_
          · exact results_cell_row rfl _ _ W.heap.size 30 _ (0, 0) _ rfl HC7.out Try.underlying30 rfl (by kernel_rfl)
          exact ⟨p, c, n, HML.out.symm, rfl, HR7.out, HB7.out, HPI.out.pW⟩
set_option maxHeartbeats 4000000 in
theorem refplain_b (x y i h : Int) (s w : Nat) (hx : keptI x 1 4 = s) (hy : keptI y 1 4 = w) (hs : 1 ≤ s ∧ s ≤ 4) (hw : 1 ≤ w ∧ w ≤ 4) (c1 : i < 0) (c2 : ¬ h < 0) (W : World) : Calls Try.prog 12 #[.int .i64 x, .int .i64 y, .int .i64 i, .int .i64 h] W (Made W s w 0 h) := by
  have HK1 := Lib.hid fun W => between_any x 1 4 (by omega) W
  have HK2 := Lib.hid fun W => between_any y 1 4 (by omega) W
  rw [hx] at HK1
  rw [hy] at HK2
  have HA := Lib.hid fun W => refall_new s w W
  rw [refQ_on s w hs hw] at HA
  have hl := all_len s w hs hw
  have hpos := all_pos s w hs hw
  have HD : Hid (plainL s w 0 h = (allQ s w 5).map (plainD 0 h)) := Lib.hid rfl
  have HML : Hid ((plainL s w 0 h).length = (allQ s w 5).length) := Lib.hid (plain_len _ _ _ _)
  have HKY : Hid (∀ p n c f bs, n = (allQ s w 5).length → Keys (pcf s w p n c f bs) s w) := Lib.hid fun p n c f bs e => ⟨hs.1, hs.2, hw.1, hw.2, rfl, rfl, e⟩
  obtain ⟨hs1, hs4⟩ := hs
  obtain ⟨hw1, hw4⟩ := hw
  clear hx hy
  unfold Made
  generalize plainL s w 0 h = MM at *
  generalize allQ s w 5 = L at *
  generalize hn : L.length = n at *
  have HN := Lib.hid hn
  clear hn
  have HB0 := Lib.hid ((Below.refl W.heap.size W).alloc (Nat.le_refl _) (.cells #[.int .i64 0, .int .i64 0, .slice none 0 0, .int .u8 0, .int .u8 0, .int .u8 0, .int .u8 0, .int .u8 0, .int .u8 0, .int .u8 0, .int .u8 0, .int .u8 0, .int .u8 0, .int .u8 0, .int .u8 0, .int .u8 0, .int .u8 0, .int .u8 0, .int .u8 0, .int .i64 0, .int .i64 0, .int .i64 0, .int .i64 0, .int .i64 0, .int .i64 0, .int .i64 0] 30))
  have HR0 := Lib.hid (alloc_block W (.cells #[.int .i64 0, .int .i64 0, .slice none 0 0, .int .u8 0, .int .u8 0, .int .u8 0, .int .u8 0, .int .u8 0, .int .u8 0, .int .u8 0, .int .u8 0, .int .u8 0, .int .u8 0, .int .u8 0, .int .u8 0, .int .u8 0, .int .u8 0, .int .u8 0, .int .u8 0, .int .i64 0, .int .i64 0, .int .i64 0, .int .i64 0, .int .i64 0, .int .i64 0, .int .i64 0] 30))
  go_enter Try.func12, Try.ntmps12
  go_upto_region 1 with (fail)
  generalize W.alloc (.cells #[.int .i64 0, .int .i64 0, .slice none 0 0, .int .u8 0, .int .u8 0, .int .u8 0, .int .u8 0, .int .u8 0, .int .u8 0, .int .u8 0, .int .u8 0, .int .u8 0, .int .u8 0, .int .u8 0, .int .u8 0, .int .u8 0, .int .u8 0, .int .u8 0, .int .u8 0, .int .i64 0, .int .i64 0, .int .i64 0, .int .i64 0, .int .i64 0, .int .i64 0, .int .i64 0] 30) = W0 at *
  have HRB := Lib.hid (block_lt HR0.out)
  go_wp2_with fail
  refine (HK1.out _).mono ?_
  rintro e w' ⟨rfl, rfl⟩
  go_wp2_with fail
  refine (HK2.out _).mono ?_
  rintro e w' ⟨rfl, rfl⟩
  clear HK1 HK2
  go_upto_region 6 with ((with_reducible refine wpList_store_new (C := pcf s w none 0 0 (fun _ => 0) 0) ?_ ?_ ?_ ?_); rfl; rfl; rfl)
  have HC1 := Lib.hid (CB.new w' (pcf s w none 0 0 (fun _ => 0) 0))
  have HB1 := Lib.hid (HB0.out.alloc HB0.out.size (.cells (cc (pcf s w none 0 0 (fun _ => 0) 0)) 30))
  have HR1 := Lib.hid (block_later HR0.out ((Below.refl _ _).alloc (Nat.le_refl _) (.cells (cc (pcf s w none 0 0 (fun _ => 0) 0)) 30)))
  generalize w'.alloc (.cells (cc (pcf s w none 0 0 (fun _ => 0) 0)) 30) = W1 at *
  have HGB := Lib.hid HB0.out.size
  generalize w'.heap.size = B at *
  clear HB0 HR0
  have z0 := block_cell (j := 0) HC1.out (v := .int .i64 s) rfl
  have z1 := block_cell (j := 1) HC1.out (v := .int .i64 w) rfl
  go_wp2_with fail
  refine (HA.out _).mono ?_
  rintro e W2 ⟨pk, ck, rfl, hk, hb, hpk⟩
  rw [HN.out] at hk ⊢
  have HRI : Hid (RInv W W2 W2 W.heap.size B s w pk n ck L (.slice none 0 0) []) := by
    have hBlt := HC1.out.lt
    have hRlt := block_lt HR1.out
    have hs2 := hb.size
    obtain ⟨bk, ok, hpk1, hck⟩ := hk.cell (by omega)
    have hbk := World.block_lt_of_cell? _ _ (hck 0 (by omega)).1
    exact Lib.hid ⟨World.ownsRow_nil _ _ _ _, block_later HC1.out hb, ⟨_, block_later HR1.out hb, rfl⟩, hk, HB1.out.trans (hb.mono HB1.out.size), Nat.le_refl _, by have := HB1.out.size; omega, by have := HRB.out; omega, HGB.out, Nat.le_refl _, by omega, by omega, fun a ha => ⟨by rw [hpk1] at ha; cases ha; exact hbk, by have := hpk a ha; omega⟩⟩
  clear z0 z1 hk hb hpk HC1 HB1 HR1 HA HRB HGB
  go_wp2_with fail
  go_loopg [11] n (fun g iv wr => ∃ j : Nat, j ≤ n ∧ g = n - j ∧ iv = .int .i64 j ∧ ∃ v, Hid (RInv W W2 wr W.heap.size B s w pk n ck L v ((L.take j).map (plainD 0 h))))
  case atStart => exact ⟨0, Nat.zero_le _, rfl, rfl, _, HRI⟩
  case round =>
    clear HRI
    obtain ⟨j, hj, rfl, rfl, v, HI1⟩ := hrel
    by_cases hlt : j < n
    · have hlt' : (j : Int) < n := by omega
      obtain ⟨b, off, rfl, hc⟩ := HI1.out.keys.cell (by omega)
      obtain ⟨c0, c1, c2⟩ := hc j hlt
      have hbl := World.block_lt_of_cell? _ _ c0
      have hnm : (n : Int) ≤ 80 := by omega
      have HT : Hid ((L.take (j + 1)).map (plainD 0 h) = (L.take j).map (plainD 0 h) ++ [plainD 0 h (L.getD j (0, 0, 0))]) := Lib.hid (by
        rw [List.take_add_one, List.map_append, List.getD, List.getElem?_eq_getElem (by rw [HN.out]; exact hlt)]
        rfl)
      clear hc
      generalize L.getD j (0, 0, 0) = k at *
      obtain ⟨k1, k2, k3⟩ := k
      simp only at c0 c1 c2
      by_cases hk : k1 = 1
      · subst hk
        have hpd : plainD 0 h (1, k2, k3) = ((1, k2, k3), 0, 0, h) := by simp [plainD]
        rw [hpd] at HT
        clear hpd
        have hx2 := alloc_block wr (.cells #[.int .u8 1, .int .u8 k2, .int .u8 k3, .int .i64 0, .int .i64 0, .int .i64 h] 39)
        have HX2 := Lib.hid hx2
        have HOWN := Lib.hid (HI1.out.own.alloc (.cells #[.int .u8 1, .int .u8 k2, .int .u8 k3, .int .i64 0, .int .i64 0, .int .i64 h] 39))
        have HSTEP : Hid (∀ w3 v' o2, w3.ownsRow W2.heap.size 39 6 v' (((L.take j).map (plainD 0 h)).length + 1) (flatG dc ((L.take j).map (plainD 0 h) ++ [((1, k2, k3), 0, 0, h)])) → ((wr.alloc (.cells #[.int .u8 1, .int .u8 k2, .int .u8 k3, .int .i64 0, .int .i64 0, .int .i64 h] 39)).alloc o2).grownBy w3 v.ownBlock → RInv W W2 (w3.setCell ⟨B, 2, none⟩ v') W.heap.size B s w (some ⟨b, off, none⟩) n ck L v' ((L.take j).map (plainD 0 h) ++ [((1, k2, k3), 0, 0, h)])) := Lib.hid fun w3 v' o2 h1 h2 => HI1.out.step _ o2 ((1, k2, k3), 0, 0, h) h1 h2
        have HMID : Hid (∀ w3 o2, ((wr.alloc (.cells #[.int .u8 1, .int .u8 k2, .int .u8 k3, .int .i64 0, .int .i64 0, .int .i64 h] 39)).alloc o2).grownBy w3 v.ownBlock → w3.heap[B]? = some (.cells (ccv s w v) 30 (0, 0))) := Lib.hid fun w3 o2 h2 => HI1.out.mid _ o2 h2
        have hz2 := block_cell (j := 2) HI1.out.cfg (v := v) rfl
        have HZ2 := Lib.hid (block_cell (j := 2) (block_later HI1.out.cfg ((Below.refl _ _).alloc (Nat.le_refl _) (.cells #[.int .u8 1, .int .u8 k2, .int .u8 k3, .int .i64 0, .int .i64 0, .int .i64 h] 39))) (v := v) rfl)
        have hmost : ((L.take j).map (plainD 0 h)).length ≤ 1000000 := by rw [List.length_map, List.length_take]; omega
        have hsz : W2.heap.size ≤ (wr.alloc (.cells #[.int .u8 1, .int .u8 k2, .int .u8 k3, .int .i64 0, .int .i64 0, .int .i64 h] 39)).heap.size := by have := HI1.out.size; simp; omega
        have hnew := Lib.hid (decl_news (wr.alloc (.cells #[.int .u8 1, .int .u8 k2, .int .u8 k3, .int .i64 0, .int .i64 0, .int .i64 h] 39)) ((1, k2, k3), 0, 0, h))
        clear hz2 hx2 HI1
        go_upto_region 13 with (fail)
        generalize (L.take j).map (plainD 0 h) = M at *
        generalize wr.alloc (.cells #[.int .u8 1, .int .u8 k2, .int .u8 k3, .int .i64 0, .int .i64 0, .int .i64 h] 39) = w2 at *
        generalize wr.heap.size = Y at *
        have x0 := block_cell (j := 0) HX2.out rfl
        have x1 := block_cell (j := 1) HX2.out rfl
        have x2 := block_cell (j := 2) HX2.out rfl
        have x3 := block_cell (j := 3) HX2.out rfl
        have x4 := block_cell (j := 4) HX2.out rfl
        have x5 := block_cell (j := 5) HX2.out rfl
        have z2 := HZ2.out
        clear c0 c1 c2
        go_wp2_with (at_builtin; refine wpList_append_decl rfl _ _ rfl W2.heap.size _ M.length M rfl (HOWN.out.alloc _) hmost ((1, k2, k3), 0, 0, h) w2.heap.size rfl hnew.out (by simp; omega) ?_; intro v' w3 h1 h2; obtain ⟨p', c', rfl, _, _⟩ := SlG.of_own (d := d0) dc_len (by decide) h1; have HNX := Lib.hid (HSTEP.out w3 _ _ h1 h2); have hmid := HMID.out w3 _ h2; have y2 := block_cell (j := 2) hmid (v := v) rfl; have yf := block_free 2 hmid; clear hmid h1 h2 z2 x0 x1 x2 x3 x4 x5)
        go_roundg (n - (j + 1))
        case measure => omega
        case rel => exact ⟨j + 1, by omega, rfl, by go_num, _, Lib.hid (by rw [HT.out]; exact HNX.out)⟩
      · have hkb : (k1 == 1) = false := by rw [beq_eq_false_iff_ne]; exact hk
        have hpd : plainD 0 h (k1, k2, k3) = ((k1, k2, k3), 0, 0, h) := by simp [plainD, hk]
        rw [hpd] at HT
        clear hpd
        have hx2 := alloc_block wr (.cells #[.int .u8 k1, .int .u8 k2, .int .u8 k3, .int .i64 0, .int .i64 0, .int .i64 h] 39)
        have HX2 := Lib.hid hx2
        have HOWN := Lib.hid (HI1.out.own.alloc (.cells #[.int .u8 k1, .int .u8 k2, .int .u8 k3, .int .i64 0, .int .i64 0, .int .i64 h] 39))
        have HSTEP : Hid (∀ w3 v' o2, w3.ownsRow W2.heap.size 39 6 v' (((L.take j).map (plainD 0 h)).length + 1) (flatG dc ((L.take j).map (plainD 0 h) ++ [((k1, k2, k3), 0, 0, h)])) → ((wr.alloc (.cells #[.int .u8 k1, .int .u8 k2, .int .u8 k3, .int .i64 0, .int .i64 0, .int .i64 h] 39)).alloc o2).grownBy w3 v.ownBlock → RInv W W2 (w3.setCell ⟨B, 2, none⟩ v') W.heap.size B s w (some ⟨b, off, none⟩) n ck L v' ((L.take j).map (plainD 0 h) ++ [((k1, k2, k3), 0, 0, h)])) := Lib.hid fun w3 v' o2 h1 h2 => HI1.out.step _ o2 ((k1, k2, k3), 0, 0, h) h1 h2
        have HMID : Hid (∀ w3 o2, ((wr.alloc (.cells #[.int .u8 k1, .int .u8 k2, .int .u8 k3, .int .i64 0, .int .i64 0, .int .i64 h] 39)).alloc o2).grownBy w3 v.ownBlock → w3.heap[B]? = some (.cells (ccv s w v) 30 (0, 0))) := Lib.hid fun w3 o2 h2 => HI1.out.mid _ o2 h2
        have hz2 := block_cell (j := 2) HI1.out.cfg (v := v) rfl
        have HZ2 := Lib.hid (block_cell (j := 2) (block_later HI1.out.cfg ((Below.refl _ _).alloc (Nat.le_refl _) (.cells #[.int .u8 k1, .int .u8 k2, .int .u8 k3, .int .i64 0, .int .i64 0, .int .i64 h] 39))) (v := v) rfl)
        have hmost : ((L.take j).map (plainD 0 h)).length ≤ 1000000 := by rw [List.length_map, List.length_take]; omega
        have hsz : W2.heap.size ≤ (wr.alloc (.cells #[.int .u8 k1, .int .u8 k2, .int .u8 k3, .int .i64 0, .int .i64 0, .int .i64 h] 39)).heap.size := by have := HI1.out.size; simp; omega
        have hnew := Lib.hid (decl_news (wr.alloc (.cells #[.int .u8 k1, .int .u8 k2, .int .u8 k3, .int .i64 0, .int .i64 0, .int .i64 h] 39)) ((k1, k2, k3), 0, 0, h))
        clear hz2 hx2 HI1
        go_upto_region 13 with (fail)
        generalize (L.take j).map (plainD 0 h) = M at *
        generalize wr.alloc (.cells #[.int .u8 k1, .int .u8 k2, .int .u8 k3, .int .i64 0, .int .i64 0, .int .i64 h] 39) = w2 at *
        generalize wr.heap.size = Y at *
        have x0 := block_cell (j := 0) HX2.out rfl
        have x1 := block_cell (j := 1) HX2.out rfl
        have x2 := block_cell (j := 2) HX2.out rfl
        have x3 := block_cell (j := 3) HX2.out rfl
        have x4 := block_cell (j := 4) HX2.out rfl
        have x5 := block_cell (j := 5) HX2.out rfl
        have z2 := HZ2.out
        clear c0 c1 c2
        go_wp2_with (at_builtin; refine wpList_append_decl rfl _ _ rfl W2.heap.size _ M.length M rfl (HOWN.out.alloc _) hmost ((k1, k2, k3), 0, 0, h) w2.heap.size rfl hnew.out (by simp; omega) ?_; intro v' w3 h1 h2; obtain ⟨p', c', rfl, _, _⟩ := SlG.of_own (d := d0) dc_len (by decide) h1; have HNX := Lib.hid (HSTEP.out w3 _ _ h1 h2); have hmid := HMID.out w3 _ h2; have y2 := block_cell (j := 2) hmid (v := v) rfl; have yf := block_free 2 hmid; clear hmid h1 h2 z2 x0 x1 x2 x3 x4 x5)
        go_roundg (n - (j + 1))
        case measure => omega
        case rel => exact ⟨j + 1, by omega, rfl, by go_num, _, Lib.hid (by rw [HT.out]; exact HNX.out)⟩
    · obtain rfl : n = j := by omega
      have hMM : (L.take n).map (plainD 0 h) = MM := by rw [HD.out, List.take_of_length_le (by rw [HN.out]; exact Nat.le_refl _)]
      rw [hMM] at HI1
      obtain ⟨p, c, hv, hpi⟩ := HI1.out.done
      rw [HML.out] at hpi
      have HPI := Lib.hid hpi
      clear HI1 hMM hv hpi
      have z0 := block_cell (j := 0) HPI.out.cb (v := .int .i64 s) rfl
      go_wp2_with fail
      clear z0
      go_loopw [13] (fun i wr => ∃ a : Nat, a ≤ s ∧ i = .int .i64 a ∧ Hid (PInv W wr W.heap.size B s w p n c MM a 0)) (fun i _ => s - (intOf i).toNat)
      case atStart => exact ⟨0, Nat.zero_le _, rfl, HPI⟩
      case round =>
        clear HPI
        obtain ⟨a, ha, rfl, HPI⟩ := hrel
        have z0 := block_cell (j := 0) HPI.out.cb (v := .int .i64 s) rfl
        by_cases hlt : a < s
        · have hlt' : (a : Int) < s := by omega
          have ha4 : a < 4 := by omega
          have ha4' : (a : Int) < 4 := by omega
          go_wp2_with fail
          clear z0
          go_loopw [14] (fun i wr => ∃ b : Nat, b ≤ w ∧ i = .int .i64 b ∧ Hid (PInv W wr W.heap.size B s w p n c MM a b)) (fun i _ => w - (intOf i).toNat)
          case atStart => exact ⟨0, Nat.zero_le _, rfl, HPI⟩
          case round =>
            clear HPI
            obtain ⟨b, hb, rfl, HPI⟩ := hrel
            have z1 := block_cell (j := 1) HPI.out.cb (v := .int .i64 w) rfl
            by_cases hlt2 : b < w
            · have hlt2' : (b : Int) < w := by omega
              have hb4 : b < 4 := by omega
              have hb4' : (b : Int) < 4 := by omega
              have hcell := HPI.out.cb.prio (a * 4 + b) (by omega)
              have hfz := block_free (3 + a * 4 + b) HPI.out.cb
              rw [← Nat.add_assoc] at hcell
              have HNX := Lib.hid (HPI.out.step ha4 hb4)
              go_wp2_with fail
              go_roundw
              case rel => exact ⟨b + 1, by omega, by go_num, HNX⟩
              case measure => simp [intOf]; omega
            · obtain rfl : w = b := by omega
              have HNX := Lib.hid HPI.out.turn
              go_wp2_with fail
              go_roundw
              case rel => exact ⟨a + 1, by omega, by go_num, HNX⟩
              case measure => simp [intOf]; omega
        · obtain rfl : s = a := by omega
          have HND := Lib.hid fun W => refneed_any (pcf s w p n c (prK w s 0) 0) s w 256 (HKY.out p n c _ _ rfl) rfl (by omega) (by omega) (by show n ≤ 1000000; omega) W
          rw [need_pcf] at HND
          go_wp2_with (first | ((with_reducible refine wpList_load_cf HPI.out.cb ?_ ?_); rfl))
          refine (HND.out _).mono ?_
          rintro e W5 ⟨rfl, hb⟩
          have HC5 := Lib.hid (HPI.out.cb.later hb)
          have HB5 := Lib.hid (HPI.out.below.trans (hb.mono HPI.out.below.size))
          obtain ⟨old, ho1, ho2⟩ := HPI.out.ret
          have HO5 := Lib.hid (block_later ho1 hb)
          have HO2 := Lib.hid ho2
          have HR5 := Lib.hid (HPI.out.row.later hb)
          have HC6 := Lib.hid (HC5.out.putS (needN n : Nat))
          have HB6 := Lib.hid (HB5.out.setCell (p := ⟨B, 25, none⟩) HPI.out.geB (.int .i64 (needN n : Nat)))
          have HO6 := Lib.hid ((Below.heap_setCell W5 ⟨B, 25, none⟩ (.int .i64 (needN n : Nat)) _ HPI.out.rB).trans HO5.out)
          have HR6 := Lib.hid (HR5.out.put B 25 (.int .i64 (needN n : Nat)) HPI.out.pB)
          have z25 := block_cell (j := 25) HC5.out (v := .int .i64 0) rfl
          have zf := block_free 25 HC5.out
          clear hb ho1 ho2 z0
          go_upto_region 22 with (fail)
          generalize W5.setCell ⟨B, 25, none⟩ (.int .i64 (needN n : Nat)) = W6 at *
          have HC7 : Hid (CB (W6.setRow W.heap.size (cc (pcf s w p n c (prK w s 0) (needN n : Nat)))) W.heap.size (pcf s w p n c (prK w s 0) (needN n : Nat))) := Lib.hid (CB.setRow _ HO6.out)
          have HB7 := Lib.hid (below_setRow HB6.out (Nat.le_refl _) (cc (pcf s w p n c (prK w s 0) (needN n : Nat))))
          have HR7 := Lib.hid (HR6.out.setRow W.heap.size (cc (pcf s w p n c (prK w s 0) (needN n : Nat))) HPI.out.pR)
          clear z25 zf HC5 HB5 HO5 HR5
          go_wp2_with (first | ((with_reducible refine wpList_load_cf HC6.out ?_ ?_); rfl) | ((with_reducible refine wpList_store_cf (C := pcf s w p n c (prK w s 0) (needN n : Nat)) HO6.out HO2.out ?_ ?_ ?_); rfl; rfl))
          (try simp only [Exit.inBlock, Exit.then]); refine bodyPost_ret (v := .agg (cc (pcf s w p n c (prK w s 0) (needN n : Nat)))) ?_ rfl ?_
          · exact results_cell_row rfl _ _ W.heap.size 30 _ (0, 0) _ rfl HC7.out Try.underlying30 rfl (by kernel_rfl)
          exact ⟨p, c, n, HML.out.symm, rfl, HR7.out, HB7.out, HPI.out.pW⟩
set_option maxHeartbeats 4000000 in
theorem refplain_c (x y i h : Int) (s w : Nat) (hx : keptI x 1 4 = s) (hy : keptI y 1 4 = w) (hs : 1 ≤ s ∧ s ≤ 4) (hw : 1 ≤ w ∧ w ≤ 4) (c1 : ¬ i < 0) (c2 : h < i) (W : World) : Calls Try.prog 12 #[.int .i64 x, .int .i64 y, .int .i64 i, .int .i64 h] W (Made W s w i i) := by
  have HK1 := Lib.hid fun W => between_any x 1 4 (by omega) W
  have HK2 := Lib.hid fun W => between_any y 1 4 (by omega) W
  rw [hx] at HK1
  rw [hy] at HK2
  have HA := Lib.hid fun W => refall_new s w W
  rw [refQ_on s w hs hw] at HA
  have hl := all_len s w hs hw
  have hpos := all_pos s w hs hw
  have HD : Hid (plainL s w i i = (allQ s w 5).map (plainD i i)) := Lib.hid rfl
  have HML : Hid ((plainL s w i i).length = (allQ s w 5).length) := Lib.hid (plain_len _ _ _ _)
  have HKY : Hid (∀ p n c f bs, n = (allQ s w 5).length → Keys (pcf s w p n c f bs) s w) := Lib.hid fun p n c f bs e => ⟨hs.1, hs.2, hw.1, hw.2, rfl, rfl, e⟩
  obtain ⟨hs1, hs4⟩ := hs
  obtain ⟨hw1, hw4⟩ := hw
  clear hx hy
  unfold Made
  generalize plainL s w i i = MM at *
  generalize allQ s w 5 = L at *
  generalize hn : L.length = n at *
  have HN := Lib.hid hn
  clear hn
  have HB0 := Lib.hid ((Below.refl W.heap.size W).alloc (Nat.le_refl _) (.cells #[.int .i64 0, .int .i64 0, .slice none 0 0, .int .u8 0, .int .u8 0, .int .u8 0, .int .u8 0, .int .u8 0, .int .u8 0, .int .u8 0, .int .u8 0, .int .u8 0, .int .u8 0, .int .u8 0, .int .u8 0, .int .u8 0, .int .u8 0, .int .u8 0, .int .u8 0, .int .i64 0, .int .i64 0, .int .i64 0, .int .i64 0, .int .i64 0, .int .i64 0, .int .i64 0] 30))
  have HR0 := Lib.hid (alloc_block W (.cells #[.int .i64 0, .int .i64 0, .slice none 0 0, .int .u8 0, .int .u8 0, .int .u8 0, .int .u8 0, .int .u8 0, .int .u8 0, .int .u8 0, .int .u8 0, .int .u8 0, .int .u8 0, .int .u8 0, .int .u8 0, .int .u8 0, .int .u8 0, .int .u8 0, .int .u8 0, .int .i64 0, .int .i64 0, .int .i64 0, .int .i64 0, .int .i64 0, .int .i64 0, .int .i64 0] 30))
  go_enter Try.func12, Try.ntmps12
  go_upto_region 1 with (fail)
  generalize W.alloc (.cells #[.int .i64 0, .int .i64 0, .slice none 0 0, .int .u8 0, .int .u8 0, .int .u8 0, .int .u8 0, .int .u8 0, .int .u8 0, .int .u8 0, .int .u8 0, .int .u8 0, .int .u8 0, .int .u8 0, .int .u8 0, .int .u8 0, .int .u8 0, .int .u8 0, .int .u8 0, .int .i64 0, .int .i64 0, .int .i64 0, .int .i64 0, .int .i64 0, .int .i64 0, .int .i64 0] 30) = W0 at *
  have HRB := Lib.hid (block_lt HR0.out)
  go_wp2_with fail
  refine (HK1.out _).mono ?_
  rintro e w' ⟨rfl, rfl⟩
  go_wp2_with fail
  refine (HK2.out _).mono ?_
  rintro e w' ⟨rfl, rfl⟩
  clear HK1 HK2
  go_upto_region 6 with ((with_reducible refine wpList_store_new (C := pcf s w none 0 0 (fun _ => 0) 0) ?_ ?_ ?_ ?_); rfl; rfl; rfl)
  have HC1 := Lib.hid (CB.new w' (pcf s w none 0 0 (fun _ => 0) 0))
  have HB1 := Lib.hid (HB0.out.alloc HB0.out.size (.cells (cc (pcf s w none 0 0 (fun _ => 0) 0)) 30))
  have HR1 := Lib.hid (block_later HR0.out ((Below.refl _ _).alloc (Nat.le_refl _) (.cells (cc (pcf s w none 0 0 (fun _ => 0) 0)) 30)))
  generalize w'.alloc (.cells (cc (pcf s w none 0 0 (fun _ => 0) 0)) 30) = W1 at *
  have HGB := Lib.hid HB0.out.size
  generalize w'.heap.size = B at *
  clear HB0 HR0
  have z0 := block_cell (j := 0) HC1.out (v := .int .i64 s) rfl
  have z1 := block_cell (j := 1) HC1.out (v := .int .i64 w) rfl
  go_wp2_with fail
  refine (HA.out _).mono ?_
  rintro e W2 ⟨pk, ck, rfl, hk, hb, hpk⟩
  rw [HN.out] at hk ⊢
  have HRI : Hid (RInv W W2 W2 W.heap.size B s w pk n ck L (.slice none 0 0) []) := by
    have hBlt := HC1.out.lt
    have hRlt := block_lt HR1.out
    have hs2 := hb.size
    obtain ⟨bk, ok, hpk1, hck⟩ := hk.cell (by omega)
    have hbk := World.block_lt_of_cell? _ _ (hck 0 (by omega)).1
    exact Lib.hid ⟨World.ownsRow_nil _ _ _ _, block_later HC1.out hb, ⟨_, block_later HR1.out hb, rfl⟩, hk, HB1.out.trans (hb.mono HB1.out.size), Nat.le_refl _, by have := HB1.out.size; omega, by have := HRB.out; omega, HGB.out, Nat.le_refl _, by omega, by omega, fun a ha => ⟨by rw [hpk1] at ha; cases ha; exact hbk, by have := hpk a ha; omega⟩⟩
  clear z0 z1 hk hb hpk HC1 HB1 HR1 HA HRB HGB
  go_wp2_with fail
  go_loopg [11] n (fun g iv wr => ∃ j : Nat, j ≤ n ∧ g = n - j ∧ iv = .int .i64 j ∧ ∃ v, Hid (RInv W W2 wr W.heap.size B s w pk n ck L v ((L.take j).map (plainD i i))))
  case atStart => exact ⟨0, Nat.zero_le _, rfl, rfl, _, HRI⟩
  case round =>
    clear HRI
    obtain ⟨j, hj, rfl, rfl, v, HI1⟩ := hrel
    by_cases hlt : j < n
    · have hlt' : (j : Int) < n := by omega
      obtain ⟨b, off, rfl, hc⟩ := HI1.out.keys.cell (by omega)
      obtain ⟨c0, c1, c2⟩ := hc j hlt
      have hbl := World.block_lt_of_cell? _ _ c0
      have hnm : (n : Int) ≤ 80 := by omega
      have HT : Hid ((L.take (j + 1)).map (plainD i i) = (L.take j).map (plainD i i) ++ [plainD i i (L.getD j (0, 0, 0))]) := Lib.hid (by
        rw [List.take_add_one, List.map_append, List.getD, List.getElem?_eq_getElem (by rw [HN.out]; exact hlt)]
        rfl)
      clear hc
      generalize L.getD j (0, 0, 0) = k at *
      obtain ⟨k1, k2, k3⟩ := k
      simp only at c0 c1 c2
      by_cases hk : k1 = 1
      · subst hk
        have hpd : plainD i i (1, k2, k3) = ((1, k2, k3), 0, i, i) := by simp [plainD]
        rw [hpd] at HT
        clear hpd
        have hx2 := alloc_block wr (.cells #[.int .u8 1, .int .u8 k2, .int .u8 k3, .int .i64 0, .int .i64 i, .int .i64 i] 39)
        have HX2 := Lib.hid hx2
        have HOWN := Lib.hid (HI1.out.own.alloc (.cells #[.int .u8 1, .int .u8 k2, .int .u8 k3, .int .i64 0, .int .i64 i, .int .i64 i] 39))
        have HSTEP : Hid (∀ w3 v' o2, w3.ownsRow W2.heap.size 39 6 v' (((L.take j).map (plainD i i)).length + 1) (flatG dc ((L.take j).map (plainD i i) ++ [((1, k2, k3), 0, i, i)])) → ((wr.alloc (.cells #[.int .u8 1, .int .u8 k2, .int .u8 k3, .int .i64 0, .int .i64 i, .int .i64 i] 39)).alloc o2).grownBy w3 v.ownBlock → RInv W W2 (w3.setCell ⟨B, 2, none⟩ v') W.heap.size B s w (some ⟨b, off, none⟩) n ck L v' ((L.take j).map (plainD i i) ++ [((1, k2, k3), 0, i, i)])) := Lib.hid fun w3 v' o2 h1 h2 => HI1.out.step _ o2 ((1, k2, k3), 0, i, i) h1 h2
        have HMID : Hid (∀ w3 o2, ((wr.alloc (.cells #[.int .u8 1, .int .u8 k2, .int .u8 k3, .int .i64 0, .int .i64 i, .int .i64 i] 39)).alloc o2).grownBy w3 v.ownBlock → w3.heap[B]? = some (.cells (ccv s w v) 30 (0, 0))) := Lib.hid fun w3 o2 h2 => HI1.out.mid _ o2 h2
        have hz2 := block_cell (j := 2) HI1.out.cfg (v := v) rfl
        have HZ2 := Lib.hid (block_cell (j := 2) (block_later HI1.out.cfg ((Below.refl _ _).alloc (Nat.le_refl _) (.cells #[.int .u8 1, .int .u8 k2, .int .u8 k3, .int .i64 0, .int .i64 i, .int .i64 i] 39))) (v := v) rfl)
        have hmost : ((L.take j).map (plainD i i)).length ≤ 1000000 := by rw [List.length_map, List.length_take]; omega
        have hsz : W2.heap.size ≤ (wr.alloc (.cells #[.int .u8 1, .int .u8 k2, .int .u8 k3, .int .i64 0, .int .i64 i, .int .i64 i] 39)).heap.size := by have := HI1.out.size; simp; omega
        have hnew := Lib.hid (decl_news (wr.alloc (.cells #[.int .u8 1, .int .u8 k2, .int .u8 k3, .int .i64 0, .int .i64 i, .int .i64 i] 39)) ((1, k2, k3), 0, i, i))
        clear hz2 hx2 HI1
        go_upto_region 13 with (fail)
        generalize (L.take j).map (plainD i i) = M at *
        generalize wr.alloc (.cells #[.int .u8 1, .int .u8 k2, .int .u8 k3, .int .i64 0, .int .i64 i, .int .i64 i] 39) = w2 at *
        generalize wr.heap.size = Y at *
        have x0 := block_cell (j := 0) HX2.out rfl
        have x1 := block_cell (j := 1) HX2.out rfl
        have x2 := block_cell (j := 2) HX2.out rfl
        have x3 := block_cell (j := 3) HX2.out rfl
        have x4 := block_cell (j := 4) HX2.out rfl
        have x5 := block_cell (j := 5) HX2.out rfl
        have z2 := HZ2.out
        clear c0 c1 c2
        go_wp2_with (at_builtin; refine wpList_append_decl rfl _ _ rfl W2.heap.size _ M.length M rfl (HOWN.out.alloc _) hmost ((1, k2, k3), 0, i, i) w2.heap.size rfl hnew.out (by simp; omega) ?_; intro v' w3 h1 h2; obtain ⟨p', c', rfl, _, _⟩ := SlG.of_own (d := d0) dc_len (by decide) h1; have HNX := Lib.hid (HSTEP.out w3 _ _ h1 h2); have hmid := HMID.out w3 _ h2; have y2 := block_cell (j := 2) hmid (v := v) rfl; have yf := block_free 2 hmid; clear hmid h1 h2 z2 x0 x1 x2 x3 x4 x5)
        go_roundg (n - (j + 1))
        case measure => omega
        case rel => exact ⟨j + 1, by omega, rfl, by go_num, _, Lib.hid (by rw [HT.out]; exact HNX.out)⟩
      · have hkb : (k1 == 1) = false := by rw [beq_eq_false_iff_ne]; exact hk
        have hpd : plainD i i (k1, k2, k3) = ((k1, k2, k3), 0, 0, i) := by simp [plainD, hk]
        rw [hpd] at HT
        clear hpd
        have hx2 := alloc_block wr (.cells #[.int .u8 k1, .int .u8 k2, .int .u8 k3, .int .i64 0, .int .i64 0, .int .i64 i] 39)
        have HX2 := Lib.hid hx2
        have HOWN := Lib.hid (HI1.out.own.alloc (.cells #[.int .u8 k1, .int .u8 k2, .int .u8 k3, .int .i64 0, .int .i64 0, .int .i64 i] 39))
        have HSTEP : Hid (∀ w3 v' o2, w3.ownsRow W2.heap.size 39 6 v' (((L.take j).map (plainD i i)).length + 1) (flatG dc ((L.take j).map (plainD i i) ++ [((k1, k2, k3), 0, 0, i)])) → ((wr.alloc (.cells #[.int .u8 k1, .int .u8 k2, .int .u8 k3, .int .i64 0, .int .i64 0, .int .i64 i] 39)).alloc o2).grownBy w3 v.ownBlock → RInv W W2 (w3.setCell ⟨B, 2, none⟩ v') W.heap.size B s w (some ⟨b, off, none⟩) n ck L v' ((L.take j).map (plainD i i) ++ [((k1, k2, k3), 0, 0, i)])) := Lib.hid fun w3 v' o2 h1 h2 => HI1.out.step _ o2 ((k1, k2, k3), 0, 0, i) h1 h2
        have HMID : Hid (∀ w3 o2, ((wr.alloc (.cells #[.int .u8 k1, .int .u8 k2, .int .u8 k3, .int .i64 0, .int .i64 0, .int .i64 i] 39)).alloc o2).grownBy w3 v.ownBlock → w3.heap[B]? = some (.cells (ccv s w v) 30 (0, 0))) := Lib.hid fun w3 o2 h2 => HI1.out.mid _ o2 h2
        have hz2 := block_cell (j := 2) HI1.out.cfg (v := v) rfl
        have HZ2 := Lib.hid (block_cell (j := 2) (block_later HI1.out.cfg ((Below.refl _ _).alloc (Nat.le_refl _) (.cells #[.int .u8 k1, .int .u8 k2, .int .u8 k3, .int .i64 0, .int .i64 0, .int .i64 i] 39))) (v := v) rfl)
        have hmost : ((L.take j).map (plainD i i)).length ≤ 1000000 := by rw [List.length_map, List.length_take]; omega
        have hsz : W2.heap.size ≤ (wr.alloc (.cells #[.int .u8 k1, .int .u8 k2, .int .u8 k3, .int .i64 0, .int .i64 0, .int .i64 i] 39)).heap.size := by have := HI1.out.size; simp; omega
        have hnew := Lib.hid (decl_news (wr.alloc (.cells #[.int .u8 k1, .int .u8 k2, .int .u8 k3, .int .i64 0, .int .i64 0, .int .i64 i] 39)) ((k1, k2, k3), 0, 0, i))
        clear hz2 hx2 HI1
        go_upto_region 13 with (fail)
        generalize (L.take j).map (plainD i i) = M at *
        generalize wr.alloc (.cells #[.int .u8 k1, .int .u8 k2, .int .u8 k3, .int .i64 0, .int .i64 0, .int .i64 i] 39) = w2 at *
        generalize wr.heap.size = Y at *
        have x0 := block_cell (j := 0) HX2.out rfl
        have x1 := block_cell (j := 1) HX2.out rfl
        have x2 := block_cell (j := 2) HX2.out rfl
        have x3 := block_cell (j := 3) HX2.out rfl
        have x4 := block_cell (j := 4) HX2.out rfl
        have x5 := block_cell (j := 5) HX2.out rfl
        have z2 := HZ2.out
        clear c0 c1 c2
        go_wp2_with (at_builtin; refine wpList_append_decl rfl _ _ rfl W2.heap.size _ M.length M rfl (HOWN.out.alloc _) hmost ((k1, k2, k3), 0, 0, i) w2.heap.size rfl hnew.out (by simp; omega) ?_; intro v' w3 h1 h2; obtain ⟨p', c', rfl, _, _⟩ := SlG.of_own (d := d0) dc_len (by decide) h1; have HNX := Lib.hid (HSTEP.out w3 _ _ h1 h2); have hmid := HMID.out w3 _ h2; have y2 := block_cell (j := 2) hmid (v := v) rfl; have yf := block_free 2 hmid; clear hmid h1 h2 z2 x0 x1 x2 x3 x4 x5)
        go_roundg (n - (j + 1))
        case measure => omega
        case rel => exact ⟨j + 1, by omega, rfl, by go_num, _, Lib.hid (by rw [HT.out]; exact HNX.out)⟩
    · obtain rfl : n = j := by omega
      have hMM : (L.take n).map (plainD i i) = MM := by rw [HD.out, List.take_of_length_le (by rw [HN.out]; exact Nat.le_refl _)]
      rw [hMM] at HI1
      obtain ⟨p, c, hv, hpi⟩ := HI1.out.done
      rw [HML.out] at hpi
      have HPI := Lib.hid hpi
      clear HI1 hMM hv hpi
      have z0 := block_cell (j := 0) HPI.out.cb (v := .int .i64 s) rfl
      go_wp2_with fail
      clear z0
      go_loopw [13] (fun i wr => ∃ a : Nat, a ≤ s ∧ i = .int .i64 a ∧ Hid (PInv W wr W.heap.size B s w p n c MM a 0)) (fun i _ => s - (intOf i).toNat)
      case atStart => exact ⟨0, Nat.zero_le _, rfl, HPI⟩
      case round =>
        clear HPI
        obtain ⟨a, ha, rfl, HPI⟩ := hrel
        have z0 := block_cell (j := 0) HPI.out.cb (v := .int .i64 s) rfl
        by_cases hlt : a < s
        · have hlt' : (a : Int) < s := by omega
          have ha4 : a < 4 := by omega
          have ha4' : (a : Int) < 4 := by omega
          go_wp2_with fail
          clear z0
          go_loopw [14] (fun i wr => ∃ b : Nat, b ≤ w ∧ i = .int .i64 b ∧ Hid (PInv W wr W.heap.size B s w p n c MM a b)) (fun i _ => w - (intOf i).toNat)
          case atStart => exact ⟨0, Nat.zero_le _, rfl, HPI⟩
          case round =>
            clear HPI
            obtain ⟨b, hb, rfl, HPI⟩ := hrel
            have z1 := block_cell (j := 1) HPI.out.cb (v := .int .i64 w) rfl
            by_cases hlt2 : b < w
            · have hlt2' : (b : Int) < w := by omega
              have hb4 : b < 4 := by omega
              have hb4' : (b : Int) < 4 := by omega
              have hcell := HPI.out.cb.prio (a * 4 + b) (by omega)
              have hfz := block_free (3 + a * 4 + b) HPI.out.cb
              rw [← Nat.add_assoc] at hcell
              have HNX := Lib.hid (HPI.out.step ha4 hb4)
              go_wp2_with fail
              go_roundw
              case rel => exact ⟨b + 1, by omega, by go_num, HNX⟩
              case measure => simp [intOf]; omega
            · obtain rfl : w = b := by omega
              have HNX := Lib.hid HPI.out.turn
              go_wp2_with fail
              go_roundw
              case rel => exact ⟨a + 1, by omega, by go_num, HNX⟩
              case measure => simp [intOf]; omega
        · obtain rfl : s = a := by omega
          have HND := Lib.hid fun W => refneed_any (pcf s w p n c (prK w s 0) 0) s w 256 (HKY.out p n c _ _ rfl) rfl (by omega) (by omega) (by show n ≤ 1000000; omega) W
          rw [need_pcf] at HND
          go_wp2_with (first | ((with_reducible refine wpList_load_cf HPI.out.cb ?_ ?_); rfl))
          refine (HND.out _).mono ?_
          rintro e W5 ⟨rfl, hb⟩
          have HC5 := Lib.hid (HPI.out.cb.later hb)
          have HB5 := Lib.hid (HPI.out.below.trans (hb.mono HPI.out.below.size))
          obtain ⟨old, ho1, ho2⟩ := HPI.out.ret
          have HO5 := Lib.hid (block_later ho1 hb)
          have HO2 := Lib.hid ho2
          have HR5 := Lib.hid (HPI.out.row.later hb)
          have HC6 := Lib.hid (HC5.out.putS (needN n : Nat))
          have HB6 := Lib.hid (HB5.out.setCell (p := ⟨B, 25, none⟩) HPI.out.geB (.int .i64 (needN n : Nat)))
          have HO6 := Lib.hid ((Below.heap_setCell W5 ⟨B, 25, none⟩ (.int .i64 (needN n : Nat)) _ HPI.out.rB).trans HO5.out)
          have HR6 := Lib.hid (HR5.out.put B 25 (.int .i64 (needN n : Nat)) HPI.out.pB)
          have z25 := block_cell (j := 25) HC5.out (v := .int .i64 0) rfl
          have zf := block_free 25 HC5.out
          clear hb ho1 ho2 z0
          go_upto_region 22 with (fail)
          generalize W5.setCell ⟨B, 25, none⟩ (.int .i64 (needN n : Nat)) = W6 at *
          have HC7 : Hid (CB (W6.setRow W.heap.size (cc (pcf s w p n c (prK w s 0) (needN n : Nat)))) W.heap.size (pcf s w p n c (prK w s 0) (needN n : Nat))) := Lib.hid (CB.setRow _ HO6.out)
          have HB7 := Lib.hid (below_setRow HB6.out (Nat.le_refl _) (cc (pcf s w p n c (prK w s 0) (needN n : Nat))))
          have HR7 := Lib.hid (HR6.out.setRow W.heap.size (cc (pcf s w p n c (prK w s 0) (needN n : Nat))) HPI.out.pR)
          clear z25 zf HC5 HB5 HO5 HR5
          go_wp2_with (first | ((with_reducible refine wpList_load_cf HC6.out ?_ ?_); rfl) | ((with_reducible refine wpList_store_cf (C := pcf s w p n c (prK w s 0) (needN n : Nat)) HO6.out HO2.out ?_ ?_ ?_); rfl; rfl))
          (try simp only [Exit.inBlock, Exit.then]); refine bodyPost_ret (v := .agg (cc (pcf s w p n c (prK w s 0) (needN n : Nat)))) ?_ rfl ?_
          · exact results_cell_row rfl _ _ W.heap.size 30 _ (0, 0) _ rfl HC7.out Try.underlying30 rfl (by kernel_rfl)
          exact ⟨p, c, n, HML.out.symm, rfl, HR7.out, HB7.out, HPI.out.pW⟩
set_option maxHeartbeats 4000000 in
theorem refplain_d (x y i h : Int) (s w : Nat) (hx : keptI x 1 4 = s) (hy : keptI y 1 4 = w) (hs : 1 ≤ s ∧ s ≤ 4) (hw : 1 ≤ w ∧ w ≤ 4) (c1 : ¬ i < 0) (c2 : ¬ h < i) (W : World) : Calls Try.prog 12 #[.int .i64 x, .int .i64 y, .int .i64 i, .int .i64 h] W (Made W s w i h) := by
  have HK1 := Lib.hid fun W => between_any x 1 4 (by omega) W
  have HK2 := Lib.hid fun W => between_any y 1 4 (by omega) W
  rw [hx] at HK1
  rw [hy] at HK2
  have HA := Lib.hid fun W => refall_new s w W
  rw [refQ_on s w hs hw] at HA
  have hl := all_len s w hs hw
  have hpos := all_pos s w hs hw
  have HD : Hid (plainL s w i h = (allQ s w 5).map (plainD i h)) := Lib.hid rfl
  have HML : Hid ((plainL s w i h).length = (allQ s w 5).length) := Lib.hid (plain_len _ _ _ _)
  have HKY : Hid (∀ p n c f bs, n = (allQ s w 5).length → Keys (pcf s w p n c f bs) s w) := Lib.hid fun p n c f bs e => ⟨hs.1, hs.2, hw.1, hw.2, rfl, rfl, e⟩
  obtain ⟨hs1, hs4⟩ := hs
  obtain ⟨hw1, hw4⟩ := hw
  clear hx hy
  unfold Made
  generalize plainL s w i h = MM at *
  generalize allQ s w 5 = L at *
  generalize hn : L.length = n at *
  have HN := Lib.hid hn
  clear hn
  have HB0 := Lib.hid ((Below.refl W.heap.size W).alloc (Nat.le_refl _) (.cells #[.int .i64 0, .int .i64 0, .slice none 0 0, .int .u8 0, .int .u8 0, .int .u8 0, .int .u8 0, .int .u8 0, .int .u8 0, .int .u8 0, .int .u8 0, .int .u8 0, .int .u8 0, .int .u8 0, .int .u8 0, .int .u8 0, .int .u8 0, .int .u8 0, .int .u8 0, .int .i64 0, .int .i64 0, .int .i64 0, .int .i64 0, .int .i64 0, .int .i64 0, .int .i64 0] 30))
  have HR0 := Lib.hid (alloc_block W (.cells #[.int .i64 0, .int .i64 0, .slice none 0 0, .int .u8 0, .int .u8 0, .int .u8 0, .int .u8 0, .int .u8 0, .int .u8 0, .int .u8 0, .int .u8 0, .int .u8 0, .int .u8 0, .int .u8 0, .int .u8 0, .int .u8 0, .int .u8 0, .int .u8 0, .int .u8 0, .int .i64 0, .int .i64 0, .int .i64 0, .int .i64 0, .int .i64 0, .int .i64 0, .int .i64 0] 30))
  go_enter Try.func12, Try.ntmps12
  go_upto_region 1 with (fail)
  generalize W.alloc (.cells #[.int .i64 0, .int .i64 0, .slice none 0 0, .int .u8 0, .int .u8 0, .int .u8 0, .int .u8 0, .int .u8 0, .int .u8 0, .int .u8 0, .int .u8 0, .int .u8 0, .int .u8 0, .int .u8 0, .int .u8 0, .int .u8 0, .int .u8 0, .int .u8 0, .int .u8 0, .int .i64 0, .int .i64 0, .int .i64 0, .int .i64 0, .int .i64 0, .int .i64 0, .int .i64 0] 30) = W0 at *
  have HRB := Lib.hid (block_lt HR0.out)
  go_wp2_with fail
  refine (HK1.out _).mono ?_
  rintro e w' ⟨rfl, rfl⟩
  go_wp2_with fail
  refine (HK2.out _).mono ?_
  rintro e w' ⟨rfl, rfl⟩
  clear HK1 HK2
  go_upto_region 6 with ((with_reducible refine wpList_store_new (C := pcf s w none 0 0 (fun _ => 0) 0) ?_ ?_ ?_ ?_); rfl; rfl; rfl)
  have HC1 := Lib.hid (CB.new w' (pcf s w none 0 0 (fun _ => 0) 0))
  have HB1 := Lib.hid (HB0.out.alloc HB0.out.size (.cells (cc (pcf s w none 0 0 (fun _ => 0) 0)) 30))
  have HR1 := Lib.hid (block_later HR0.out ((Below.refl _ _).alloc (Nat.le_refl _) (.cells (cc (pcf s w none 0 0 (fun _ => 0) 0)) 30)))
  generalize w'.alloc (.cells (cc (pcf s w none 0 0 (fun _ => 0) 0)) 30) = W1 at *
  have HGB := Lib.hid HB0.out.size
  generalize w'.heap.size = B at *
  clear HB0 HR0
  have z0 := block_cell (j := 0) HC1.out (v := .int .i64 s) rfl
  have z1 := block_cell (j := 1) HC1.out (v := .int .i64 w) rfl
  go_wp2_with fail
  refine (HA.out _).mono ?_
  rintro e W2 ⟨pk, ck, rfl, hk, hb, hpk⟩
  rw [HN.out] at hk ⊢
  have HRI : Hid (RInv W W2 W2 W.heap.size B s w pk n ck L (.slice none 0 0) []) := by
    have hBlt := HC1.out.lt
    have hRlt := block_lt HR1.out
    have hs2 := hb.size
    obtain ⟨bk, ok, hpk1, hck⟩ := hk.cell (by omega)
    have hbk := World.block_lt_of_cell? _ _ (hck 0 (by omega)).1
    exact Lib.hid ⟨World.ownsRow_nil _ _ _ _, block_later HC1.out hb, ⟨_, block_later HR1.out hb, rfl⟩, hk, HB1.out.trans (hb.mono HB1.out.size), Nat.le_refl _, by have := HB1.out.size; omega, by have := HRB.out; omega, HGB.out, Nat.le_refl _, by omega, by omega, fun a ha => ⟨by rw [hpk1] at ha; cases ha; exact hbk, by have := hpk a ha; omega⟩⟩
  clear z0 z1 hk hb hpk HC1 HB1 HR1 HA HRB HGB
  go_wp2_with fail
  go_loopg [11] n (fun g iv wr => ∃ j : Nat, j ≤ n ∧ g = n - j ∧ iv = .int .i64 j ∧ ∃ v, Hid (RInv W W2 wr W.heap.size B s w pk n ck L v ((L.take j).map (plainD i h))))
  case atStart => exact ⟨0, Nat.zero_le _, rfl, rfl, _, HRI⟩
  case round =>
    clear HRI
    obtain ⟨j, hj, rfl, rfl, v, HI1⟩ := hrel
    by_cases hlt : j < n
    · have hlt' : (j : Int) < n := by omega
      obtain ⟨b, off, rfl, hc⟩ := HI1.out.keys.cell (by omega)
      obtain ⟨c0, c1, c2⟩ := hc j hlt
      have hbl := World.block_lt_of_cell? _ _ c0
      have hnm : (n : Int) ≤ 80 := by omega
      have HT : Hid ((L.take (j + 1)).map (plainD i h) = (L.take j).map (plainD i h) ++ [plainD i h (L.getD j (0, 0, 0))]) := Lib.hid (by
        rw [List.take_add_one, List.map_append, List.getD, List.getElem?_eq_getElem (by rw [HN.out]; exact hlt)]
        rfl)
      clear hc
      generalize L.getD j (0, 0, 0) = k at *
      obtain ⟨k1, k2, k3⟩ := k
      simp only at c0 c1 c2
      by_cases hk : k1 = 1
      · subst hk
        have hpd : plainD i h (1, k2, k3) = ((1, k2, k3), 0, i, h) := by simp [plainD]
        rw [hpd] at HT
        clear hpd
        have hx2 := alloc_block wr (.cells #[.int .u8 1, .int .u8 k2, .int .u8 k3, .int .i64 0, .int .i64 i, .int .i64 h] 39)
        have HX2 := Lib.hid hx2
        have HOWN := Lib.hid (HI1.out.own.alloc (.cells #[.int .u8 1, .int .u8 k2, .int .u8 k3, .int .i64 0, .int .i64 i, .int .i64 h] 39))
        have HSTEP : Hid (∀ w3 v' o2, w3.ownsRow W2.heap.size 39 6 v' (((L.take j).map (plainD i h)).length + 1) (flatG dc ((L.take j).map (plainD i h) ++ [((1, k2, k3), 0, i, h)])) → ((wr.alloc (.cells #[.int .u8 1, .int .u8 k2, .int .u8 k3, .int .i64 0, .int .i64 i, .int .i64 h] 39)).alloc o2).grownBy w3 v.ownBlock → RInv W W2 (w3.setCell ⟨B, 2, none⟩ v') W.heap.size B s w (some ⟨b, off, none⟩) n ck L v' ((L.take j).map (plainD i h) ++ [((1, k2, k3), 0, i, h)])) := Lib.hid fun w3 v' o2 h1 h2 => HI1.out.step _ o2 ((1, k2, k3), 0, i, h) h1 h2
        have HMID : Hid (∀ w3 o2, ((wr.alloc (.cells #[.int .u8 1, .int .u8 k2, .int .u8 k3, .int .i64 0, .int .i64 i, .int .i64 h] 39)).alloc o2).grownBy w3 v.ownBlock → w3.heap[B]? = some (.cells (ccv s w v) 30 (0, 0))) := Lib.hid fun w3 o2 h2 => HI1.out.mid _ o2 h2
        have hz2 := block_cell (j := 2) HI1.out.cfg (v := v) rfl
        have HZ2 := Lib.hid (block_cell (j := 2) (block_later HI1.out.cfg ((Below.refl _ _).alloc (Nat.le_refl _) (.cells #[.int .u8 1, .int .u8 k2, .int .u8 k3, .int .i64 0, .int .i64 i, .int .i64 h] 39))) (v := v) rfl)
        have hmost : ((L.take j).map (plainD i h)).length ≤ 1000000 := by rw [List.length_map, List.length_take]; omega
        have hsz : W2.heap.size ≤ (wr.alloc (.cells #[.int .u8 1, .int .u8 k2, .int .u8 k3, .int .i64 0, .int .i64 i, .int .i64 h] 39)).heap.size := by have := HI1.out.size; simp; omega
        have hnew := Lib.hid (decl_news (wr.alloc (.cells #[.int .u8 1, .int .u8 k2, .int .u8 k3, .int .i64 0, .int .i64 i, .int .i64 h] 39)) ((1, k2, k3), 0, i, h))
        clear hz2 hx2 HI1
        go_upto_region 13 with (fail)
        generalize (L.take j).map (plainD i h) = M at *
        generalize wr.alloc (.cells #[.int .u8 1, .int .u8 k2, .int .u8 k3, .int .i64 0, .int .i64 i, .int .i64 h] 39) = w2 at *
        generalize wr.heap.size = Y at *
        have x0 := block_cell (j := 0) HX2.out rfl
        have x1 := block_cell (j := 1) HX2.out rfl
        have x2 := block_cell (j := 2) HX2.out rfl
        have x3 := block_cell (j := 3) HX2.out rfl
        have x4 := block_cell (j := 4) HX2.out rfl
        have x5 := block_cell (j := 5) HX2.out rfl
        have z2 := HZ2.out
        clear c0 c1 c2
        go_wp2_with (at_builtin; refine wpList_append_decl rfl _ _ rfl W2.heap.size _ M.length M rfl (HOWN.out.alloc _) hmost ((1, k2, k3), 0, i, h) w2.heap.size rfl hnew.out (by simp; omega) ?_; intro v' w3 h1 h2; obtain ⟨p', c', rfl, _, _⟩ := SlG.of_own (d := d0) dc_len (by decide) h1; have HNX := Lib.hid (HSTEP.out w3 _ _ h1 h2); have hmid := HMID.out w3 _ h2; have y2 := block_cell (j := 2) hmid (v := v) rfl; have yf := block_free 2 hmid; clear hmid h1 h2 z2 x0 x1 x2 x3 x4 x5)
        go_roundg (n - (j + 1))
        case measure => omega
        case rel => exact ⟨j + 1, by omega, rfl, by go_num, _, Lib.hid (by rw [HT.out]; exact HNX.out)⟩
      · have hkb : (k1 == 1) = false := by rw [beq_eq_false_iff_ne]; exact hk
        have hpd : plainD i h (k1, k2, k3) = ((k1, k2, k3), 0, 0, h) := by simp [plainD, hk]
        rw [hpd] at HT
        clear hpd
        have hx2 := alloc_block wr (.cells #[.int .u8 k1, .int .u8 k2, .int .u8 k3, .int .i64 0, .int .i64 0, .int .i64 h] 39)
        have HX2 := Lib.hid hx2
        have HOWN := Lib.hid (HI1.out.own.alloc (.cells #[.int .u8 k1, .int .u8 k2, .int .u8 k3, .int .i64 0, .int .i64 0, .int .i64 h] 39))
        have HSTEP : Hid (∀ w3 v' o2, w3.ownsRow W2.heap.size 39 6 v' (((L.take j).map (plainD i h)).length + 1) (flatG dc ((L.take j).map (plainD i h) ++ [((k1, k2, k3), 0, 0, h)])) → ((wr.alloc (.cells #[.int .u8 k1, .int .u8 k2, .int .u8 k3, .int .i64 0, .int .i64 0, .int .i64 h] 39)).alloc o2).grownBy w3 v.ownBlock → RInv W W2 (w3.setCell ⟨B, 2, none⟩ v') W.heap.size B s w (some ⟨b, off, none⟩) n ck L v' ((L.take j).map (plainD i h) ++ [((k1, k2, k3), 0, 0, h)])) := Lib.hid fun w3 v' o2 h1 h2 => HI1.out.step _ o2 ((k1, k2, k3), 0, 0, h) h1 h2
        have HMID : Hid (∀ w3 o2, ((wr.alloc (.cells #[.int .u8 k1, .int .u8 k2, .int .u8 k3, .int .i64 0, .int .i64 0, .int .i64 h] 39)).alloc o2).grownBy w3 v.ownBlock → w3.heap[B]? = some (.cells (ccv s w v) 30 (0, 0))) := Lib.hid fun w3 o2 h2 => HI1.out.mid _ o2 h2
        have hz2 := block_cell (j := 2) HI1.out.cfg (v := v) rfl
        have HZ2 := Lib.hid (block_cell (j := 2) (block_later HI1.out.cfg ((Below.refl _ _).alloc (Nat.le_refl _) (.cells #[.int .u8 k1, .int .u8 k2, .int .u8 k3, .int .i64 0, .int .i64 0, .int .i64 h] 39))) (v := v) rfl)
        have hmost : ((L.take j).map (plainD i h)).length ≤ 1000000 := by rw [List.length_map, List.length_take]; omega
        have hsz : W2.heap.size ≤ (wr.alloc (.cells #[.int .u8 k1, .int .u8 k2, .int .u8 k3, .int .i64 0, .int .i64 0, .int .i64 h] 39)).heap.size := by have := HI1.out.size; simp; omega
        have hnew := Lib.hid (decl_news (wr.alloc (.cells #[.int .u8 k1, .int .u8 k2, .int .u8 k3, .int .i64 0, .int .i64 0, .int .i64 h] 39)) ((k1, k2, k3), 0, 0, h))
        clear hz2 hx2 HI1
        go_upto_region 13 with (fail)
        generalize (L.take j).map (plainD i h) = M at *
        generalize wr.alloc (.cells #[.int .u8 k1, .int .u8 k2, .int .u8 k3, .int .i64 0, .int .i64 0, .int .i64 h] 39) = w2 at *
        generalize wr.heap.size = Y at *
        have x0 := block_cell (j := 0) HX2.out rfl
        have x1 := block_cell (j := 1) HX2.out rfl
        have x2 := block_cell (j := 2) HX2.out rfl
        have x3 := block_cell (j := 3) HX2.out rfl
        have x4 := block_cell (j := 4) HX2.out rfl
        have x5 := block_cell (j := 5) HX2.out rfl
        have z2 := HZ2.out
        clear c0 c1 c2
        go_wp2_with (at_builtin; refine wpList_append_decl rfl _ _ rfl W2.heap.size _ M.length M rfl (HOWN.out.alloc _) hmost ((k1, k2, k3), 0, 0, h) w2.heap.size rfl hnew.out (by simp; omega) ?_; intro v' w3 h1 h2; obtain ⟨p', c', rfl, _, _⟩ := SlG.of_own (d := d0) dc_len (by decide) h1; have HNX := Lib.hid (HSTEP.out w3 _ _ h1 h2); have hmid := HMID.out w3 _ h2; have y2 := block_cell (j := 2) hmid (v := v) rfl; have yf := block_free 2 hmid; clear hmid h1 h2 z2 x0 x1 x2 x3 x4 x5)
        go_roundg (n - (j + 1))
        case measure => omega
        case rel => exact ⟨j + 1, by omega, rfl, by go_num, _, Lib.hid (by rw [HT.out]; exact HNX.out)⟩
    · obtain rfl : n = j := by omega
      have hMM : (L.take n).map (plainD i h) = MM := by rw [HD.out, List.take_of_length_le (by rw [HN.out]; exact Nat.le_refl _)]
      rw [hMM] at HI1
      obtain ⟨p, c, hv, hpi⟩ := HI1.out.done
      rw [HML.out] at hpi
      have HPI := Lib.hid hpi
      clear HI1 hMM hv hpi
      have z0 := block_cell (j := 0) HPI.out.cb (v := .int .i64 s) rfl
      go_wp2_with fail
      clear z0
      go_loopw [13] (fun i wr => ∃ a : Nat, a ≤ s ∧ i = .int .i64 a ∧ Hid (PInv W wr W.heap.size B s w p n c MM a 0)) (fun i _ => s - (intOf i).toNat)
      case atStart => exact ⟨0, Nat.zero_le _, rfl, HPI⟩
      case round =>
        clear HPI
        obtain ⟨a, ha, rfl, HPI⟩ := hrel
        have z0 := block_cell (j := 0) HPI.out.cb (v := .int .i64 s) rfl
        by_cases hlt : a < s
        · have hlt' : (a : Int) < s := by omega
          have ha4 : a < 4 := by omega
          have ha4' : (a : Int) < 4 := by omega
          go_wp2_with fail
          clear z0
          go_loopw [14] (fun i wr => ∃ b : Nat, b ≤ w ∧ i = .int .i64 b ∧ Hid (PInv W wr W.heap.size B s w p n c MM a b)) (fun i _ => w - (intOf i).toNat)
          case atStart => exact ⟨0, Nat.zero_le _, rfl, HPI⟩
          case round =>
            clear HPI
            obtain ⟨b, hb, rfl, HPI⟩ := hrel
            have z1 := block_cell (j := 1) HPI.out.cb (v := .int .i64 w) rfl
            by_cases hlt2 : b < w
            · have hlt2' : (b : Int) < w := by omega
              have hb4 : b < 4 := by omega
              have hb4' : (b : Int) < 4 := by omega
              have hcell := HPI.out.cb.prio (a * 4 + b) (by omega)
              have hfz := block_free (3 + a * 4 + b) HPI.out.cb
              rw [← Nat.add_assoc] at hcell
              have HNX := Lib.hid (HPI.out.step ha4 hb4)
              go_wp2_with fail
              go_roundw
              case rel => exact ⟨b + 1, by omega, by go_num, HNX⟩
              case measure => simp [intOf]; omega
            · obtain rfl : w = b := by omega
              have HNX := Lib.hid HPI.out.turn
              go_wp2_with fail
              go_roundw
              case rel => exact ⟨a + 1, by omega, by go_num, HNX⟩
              case measure => simp [intOf]; omega
        · obtain rfl : s = a := by omega
          have HND := Lib.hid fun W => refneed_any (pcf s w p n c (prK w s 0) 0) s w 256 (HKY.out p n c _ _ rfl) rfl (by omega) (by omega) (by show n ≤ 1000000; omega) W
          rw [need_pcf] at HND
          go_wp2_with (first | ((with_reducible refine wpList_load_cf HPI.out.cb ?_ ?_); rfl))
          refine (HND.out _).mono ?_
          rintro e W5 ⟨rfl, hb⟩
          have HC5 := Lib.hid (HPI.out.cb.later hb)
          have HB5 := Lib.hid (HPI.out.below.trans (hb.mono HPI.out.below.size))
          obtain ⟨old, ho1, ho2⟩ := HPI.out.ret
          have HO5 := Lib.hid (block_later ho1 hb)
          have HO2 := Lib.hid ho2
          have HR5 := Lib.hid (HPI.out.row.later hb)
          have HC6 := Lib.hid (HC5.out.putS (needN n : Nat))
          have HB6 := Lib.hid (HB5.out.setCell (p := ⟨B, 25, none⟩) HPI.out.geB (.int .i64 (needN n : Nat)))
          have HO6 := Lib.hid ((Below.heap_setCell W5 ⟨B, 25, none⟩ (.int .i64 (needN n : Nat)) _ HPI.out.rB).trans HO5.out)
          have HR6 := Lib.hid (HR5.out.put B 25 (.int .i64 (needN n : Nat)) HPI.out.pB)
          have z25 := block_cell (j := 25) HC5.out (v := .int .i64 0) rfl
          have zf := block_free 25 HC5.out
          clear hb ho1 ho2 z0
          go_upto_region 22 with (fail)
          generalize W5.setCell ⟨B, 25, none⟩ (.int .i64 (needN n : Nat)) = W6 at *
          have HC7 : Hid (CB (W6.setRow W.heap.size (cc (pcf s w p n c (prK w s 0) (needN n : Nat)))) W.heap.size (pcf s w p n c (prK w s 0) (needN n : Nat))) := Lib.hid (CB.setRow _ HO6.out)
          have HB7 := Lib.hid (below_setRow HB6.out (Nat.le_refl _) (cc (pcf s w p n c (prK w s 0) (needN n : Nat))))
          have HR7 := Lib.hid (HR6.out.setRow W.heap.size (cc (pcf s w p n c (prK w s 0) (needN n : Nat))) HPI.out.pR)
          clear z25 zf HC5 HB5 HO5 HR5
          go_wp2_with (first | ((with_reducible refine wpList_load_cf HC6.out ?_ ?_); rfl) | ((with_reducible refine wpList_store_cf (C := pcf s w p n c (prK w s 0) (needN n : Nat)) HO6.out HO2.out ?_ ?_ ?_); rfl; rfl))
          (try simp only [Exit.inBlock, Exit.then]); refine bodyPost_ret (v := .agg (cc (pcf s w p n c (prK w s 0) (needN n : Nat)))) ?_ rfl ?_
          · exact results_cell_row rfl _ _ W.heap.size 30 _ (0, 0) _ rfl HC7.out Try.underlying30 rfl (by kernel_rfl)
          exact ⟨p, c, n, HML.out.symm, rfl, HR7.out, HB7.out, HPI.out.pW⟩
theorem refplain_any (x y i h : Int) (s w : Nat) (hx : keptI x 1 4 = s) (hy : keptI y 1 4 = w) (hs : 1 ≤ s ∧ s ≤ 4) (hw : 1 ≤ w ∧ w ≤ 4) (W : World) : Calls Try.prog 12 #[.int .i64 x, .int .i64 y, .int .i64 i, .int .i64 h] W (Made W s w (lowI i) (highI (lowI i) h)) := by
  by_cases c1 : i < 0
  · have e1 : lowI i = 0 := by rw [lowI, if_pos c1]
    rw [e1]
    by_cases c2 : h < 0
    · rw [show highI 0 h = 0 by rw [highI, if_pos c2]]
      exact refplain_a x y i h s w hx hy hs hw c1 c2 W
    · rw [show highI 0 h = h by rw [highI, if_neg c2]]
      exact refplain_b x y i h s w hx hy hs hw c1 c2 W
  · have e1 : lowI i = i := by rw [lowI, if_neg c1]
    rw [e1]
    by_cases c2 : h < i
    · rw [show highI i h = i by rw [highI, if_pos c2]]
      exact refplain_c x y i h s w hx hy hs hw c1 c2 W
    · rw [show highI i h = h by rw [highI, if_neg c2]]
      exact refplain_d x y i h s w hx hy hs hw c1 c2 W
end Go.Proofs.Ythkeefdapnkgeaa
