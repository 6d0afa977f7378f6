/- framed: payloads as frames, one behind another. -/
import Derived.Test.YtmadneedeheekaaDoorFrameRows
import Derived.Test.YtmadneedeheekaaDoorFrameArgs
import Derived.Test.YtmadneedeheekaaDoorHand
namespace Go.Proofs.YtmadneedeheekaaDoor
open Go.RowKit Go.ChangeShapes Go.WideShapes
set_option linter.unusedVariables false
set_option linter.unusedSimpArgs false
set_option maxRecDepth 10000

theorem fput_all (p : Option Addr) (n c : Nat) (P : List Nat) (w : World) (hS : Sl w p n c P) (hT : Tab w) :
    Calls Tryd.prog 7 #[.slice p n c] w (GivesE w (putL P) (putE P)) := by
  by_cases hn : n ≤ 1000000
  · exact fput_any p n c P w hS hn hT
  · have hl := hS.len
    have he := putE_long (P := P) (by omega)
    rw [he.1, he.2]
    have HG := Lib.hid (gives_nil0 w 7)
    clear he hl hS hT
    have h0 : ¬ (n = 0) := by omega
    have h5 : 512 < n := by omega
    clear hn
    go_enter Tryd.func7, Tryd.ntmps7
    go_wp2_with fail
    go_ret2
    exact HG.out
/-- Where each frame ends. -/
def endsL (G : List (List Nat)) : List Int := (List.range G.length).map fun i => ((endAt G (i + 1) : Nat) : Int)
theorem endsL_len (G : List (List Nat)) : (endsL G).length = G.length := by simp [endsL]
theorem endAt_old (G : List (List Nat)) (P : List Nat) (k : Nat) (h : k ≤ G.length) : endAt (G ++ [P]) k = endAt G k := by
  unfold endAt
  rw [List.take_append_of_le_length h]
theorem endsL_push (G : List (List Nat)) (P : List Nat) : endsL (G ++ [P]) = endsL G ++ [(((flat (G ++ [P])).length : Nat) : Int)] := by
  unfold endsL
  rw [List.length_append, List.length_singleton, List.range_succ, List.map_append]
  congr 1
  · refine List.map_congr_left fun i hi => ?_
    rw [endAt_old G P (i + 1) (by have := List.mem_range.1 hi; omega)]
  · rw [List.map_singleton, ← endAt_all, List.length_append, List.length_singleton]
theorem endsL_at (G : List (List Nat)) (i : Nat) (h : i < G.length) : (endsL G).getD i 0 = ((endAt G (i + 1) : Nat) : Int) := by
  rw [List.getD, endsL, List.getElem?_map, List.getElem?_range h]
  rfl
theorem flat_push (G : List (List Nat)) (P : List Nat) : flat (G ++ [P]) = flat G ++ frm P := by rw [flat_append, flat_one]
theorem own_len {w : World} {T : TypeId} {k : Nat} {v : Value} {m n : Nat} {xs : List Value} (h : w.ownsRow 0 T k v m xs) (e : m = n) : w.ownsRow 0 T k v n xs := by
  subst e
  exact h
/-- What bytes say of their cells. -/
theorem sl_news {w : World} {p : Option Addr} {n c : Nat} {L : List Nat} (h : Sl w p n c L) : (vL L).length = n * 1 ∧ (p = none → n = 0 ∧ c = 0) ∧ ∀ ad, p = some ad → ∀ j u, (vL L)[j]? = some u → w.cell? (ad.add j) = some u := by
  refine ⟨by rw [vL_len, h.len, Nat.mul_one], fun hp => ?_, ?_⟩
  · have h1 := h.nil hp
    have h2 := h.cap
    omega
  · rintro ad rfl j u hu
    have hj : j < n := by
      rcases Nat.lt_or_ge j n with h' | h'
      · exact h'
      · rw [List.getElem?_eq_none (by rw [vL_len, h.len]; exact h')] at hu; cases hu
    obtain ⟨b, off, hp, hc⟩ := h.cell (by omega)
    cases hp
    rw [Go.WideShapes.add_plain, hc j hj, ← hu, vL_at L j (by rw [h.len]; exact hj)]
theorem one_news {w : World} {B : Nat} {x : Value} (hc : w.cell? ⟨B, 0, none⟩ = some x) : ∀ ad, some (⟨B, 0, none⟩ : Addr) = some ad → ∀ j u, [x][j]? = some u → w.cell? (ad.add j) = some u := by
  intro ad had j u hu
  cases had
  match j, hu with
  | 0, hu =>
    simp only [List.getElem?_cons_zero, Option.some.injEq] at hu
    subst hu
    rw [Go.WideShapes.add_plain]
    exact hc
/-- The parts of the list that is framed, in the world in which the call begins. -/
def Parts (w : World) (H : List Hd) (G : List (List Nat)) : Prop := H.length = G.length ∧ ∀ j, j < G.length → Sl w (H.getD j hd0).1 (H.getD j hd0).2.1 (H.getD j hd0).2.2 (G.getD j []) ∧ (H.getD j hd0).2.2 ≤ maxLen
theorem Parts.push {w : World} {H : List Hd} {G : List (List Nat)} (h : Parts w H G) (e : Hd) (P : List Nat) (hs : Sl w e.1 e.2.1 e.2.2 P) (hc : e.2.2 ≤ maxLen) : Parts w (H ++ [e]) (G ++ [P]) := by
  refine ⟨by simp [h.1], fun j hj => ?_⟩
  rw [List.length_append, List.length_singleton] at hj
  have hl := h.1
  by_cases hj' : j < G.length
  · have e1 : (H ++ [e]).getD j hd0 = H.getD j hd0 := by rw [List.getD, List.getD, List.getElem?_append_left (by omega)]
    have e2 : (G ++ [P]).getD j [] = G.getD j [] := by rw [List.getD, List.getD, List.getElem?_append_left hj']
    rw [e1, e2]
    exact h.2 j hj'
  · obtain rfl : j = G.length := by omega
    have e1 : (H ++ [e]).getD G.length hd0 = e := by rw [← hl, List.getD, List.getElem?_append_right (Nat.le_refl _), Nat.sub_self]; rfl
    have e2 : (G ++ [P]).getD G.length [] = P := by rw [List.getD, List.getElem?_append_right (Nat.le_refl _), Nat.sub_self]; rfl
    rw [e1, e2]
    exact ⟨hs, hc⟩
/-- What framed hands back. -/
def Framed (W : World) (G : List (List Nat)) (e : Ending) (w' : World) : Prop := ∃ pa ca pp cp pe ce H, e = .returned (.tuple #[.slice pa (flat G).length ca, .slice pp G.length cp, .slice pe G.length ce]) ∧ Sl w' pa (flat G).length ca (flat G) ∧ ca ≤ maxLen ∧ LS w' pp G.length cp H G ∧ SlG ei 1 0 w' pe G.length ce (endsL G) ∧ Below W.heap.size W w'
theorem Three.done {W w : World} {pa pp pe : Option Addr} {na ca np cp ne ce : Nat} {G : List (List Nat)} {H : List Hd} (h : Three W w (.slice pa na ca) (flat G) (.slice pp np cp) H (.slice pe ne ce) (endsL G)) (hP : Parts W H G) (hna : (flat G).length = na) (hnp : G.length = np) (hne : G.length = ne) :
    Framed W G (.returned (.tuple #[.slice pa na ca, .slice pp np cp, .slice pe ne ce])) w := by
  subst hna hnp
  subst hne
  have hh := hP.1
  have hg : ∀ x ∈ flat G, x < 256 := by
    intro x hx
    obtain ⟨P, hPG, hxP⟩ := List.mem_flatMap.1 hx
    unfold frm at hxP
    rcases List.mem_append.1 hxP with h1 | h1
    · exact le_lt _ _ _ h1
    · rcases List.mem_append.1 h1 with h1 | h1
      · exact le_lt _ _ _ h1
      · obtain ⟨j, hj, rfl⟩ := List.mem_iff_getElem.1 hPG
        have := (hP.2 j hj).1.lt
        rw [List.getD, List.getElem?_eq_getElem hj] at this
        exact this x h1
  have hr : Row w (.slice pa (flat G).length ca) (flat G).length (flat G) := ⟨rfl, hg, h.a⟩
  obtain ⟨p1, c1, e1, hm1, hs1, _⟩ := hr.sl
  cases e1
  have hp := h.p
  rw [hh] at hp
  obtain ⟨p2, c2, e2, hs2, _⟩ := SlG.of_own (d := hd0) eh_len (by decide) hp
  cases e2
  have he := h.e
  rw [endsL_len] at he
  obtain ⟨p3, c3, e3, hs3, _⟩ := SlG.of_own (d := (0 : Int)) ei_len (by decide) he
  cases e3
  exact ⟨_, _, _, _, _, _, H, rfl, hs1, hm1, ⟨hs2, rfl, fun j hj => ⟨((hP.2 j hj).1).later h.below, (hP.2 j hj).2⟩⟩, hs3, h.below⟩
set_option maxHeartbeats 4000000 in
theorem framed_any (p : Option Addr) (n c : Nat) (HL : List Hd) (Ls : List (List Nat)) (w : World) (hL : LS w p n c HL Ls) (hT : Tab w) :
    Calls Tryd.prog 16 #[.slice p n c] w (Framed w (put Ls (min n 12))) := by
  have HLL := Lib.hid hL
  have HT := Lib.hid hT
  have H0 : Hid (Three w w (.slice none 0 0) (flat []) (.slice none 0 0) [] (.slice none 0 0) (endsL [])) := Lib.hid (Three.start w)
  have HP0 : Hid (Parts w [] []) := Lib.hid ⟨rfl, fun j hj => by simp at hj⟩
  have hn63 : n ≤ 9223372036854775807 := by have := hL.row.cap; have := hL.row.max; unfold maxLen at this; omega
  clear hL hT
  go_enter Tryd.func16, Tryd.ntmps16
  go_wp2_with fail
  go_loopw [5, 6, 7, 8] (fun va vp ve i wr => ∃ (j nA nG : Nat) (pa0 pp0 pe0 : Option Addr) (ca0 cp0 ce0 : Nat) (G : List (List Nat)) (H : List Hd), va = .slice pa0 nA ca0 ∧ vp = .slice pp0 nG cp0 ∧ ve = .slice pe0 nG ce0 ∧ i = .int .i64 (j : Nat) ∧ j ≤ min n 12 ∧ nG ≤ j ∧ nA ≤ 518 * j ∧ Hid (G = put Ls j) ∧ Hid ((flat G).length = nA) ∧ Hid (G.length = nG ∧ H.length = nG) ∧ Hid (Three w wr (.slice pa0 nA ca0) (flat G) (.slice pp0 nG cp0) H (.slice pe0 nG ce0) (endsL G)) ∧ Hid (Parts w H G)) (fun _ _ _ i _ => n - (intOf i).toNat)
  case atStart => exact ⟨0, 0, 0, none, none, none, 0, 0, 0, [], [], rfl, rfl, rfl, rfl, Nat.zero_le _, Nat.le_refl _, Nat.zero_le _, Lib.hid rfl, Lib.hid rfl, Lib.hid ⟨rfl, rfl⟩, H0, HP0⟩
  case round =>
    obtain ⟨j, nA, nG, pa0, pp0, pe0, ca0, cp0, ce0, G, H, rfl, rfl, rfl, rfl, hj, hnG, hnA, HG, HNA, HNG, H3, HPP⟩ := hrel
    by_cases hlt : j < n ∧ j < 12
    · obtain ⟨hlt, hlt12⟩ := hlt
      have hl := HLL.out.later H3.out.below
      obtain ⟨b, off, rfl, hbl, hc1⟩ := HLL.out.at (by omega)
      have hcj := hc1 j hlt
      have hsj := (HLL.out.each j hlt).1
      have hmj := (HLL.out.each j hlt).2
      have hgj : Hid (Ls.length = n) := Lib.hid HLL.out.len
      generalize hPe : Ls.getD j [] = P at hsj
      have HPE := Lib.hid hPe
      generalize HL.getD j hd0 = hq at *
      obtain ⟨hp, hn, hc⟩ := hq
      replace hcj : w.cell? ⟨b, off + j, none⟩ = some (.slice hp hn hc) := hcj
      replace hsj : Sl w hp hn hc P := hsj
      replace hmj : hc ≤ maxLen := hmj
      have HSJ := Lib.hid hsj
      have HMJ := Lib.hid hmj
      have HCJ : Hid (∀ w', Below w.heap.size w w' → w'.cell? ⟨b, off + j, none⟩ = some (.slice hp hn hc)) := Lib.hid fun w' hb => (hb.cell (p := ⟨b, off + j, none⟩) hbl).trans hcj
      have hcr := HCJ.out _ H3.out.below
      have HC : Hid (Calls Tryd.prog 7 #[.slice hp hn hc] wr (GivesE wr (putL P) (putE P))) := Lib.hid (fput_all _ _ _ P wr (hsj.later H3.out.below) (HT.out.later H3.out.below HT.out.lt))
      clear hl hPe hc1 hcj hsj hmj
      by_cases hgood : good P = true
      · have hb5 := (good_iff P).1 hgood
        have he := putE_good hgood
        rw [he.1, he.2] at HC
        have HGP : Hid (put Ls (j + 1) = G ++ [P]) := Lib.hid (by rw [put_yes Ls j (by rw [hgj.out]; exact hlt) (by rw [HPE.out]; exact hgood), HPE.out, ← HG.out])
        have HFL := Lib.hid (frm_len P)
        clear he
        go_wp2_with fail
        refine HC.out.mono ?_
        rintro e w1 ⟨pb, cb, rfl, hs1, hb1, hk1, hm1⟩
        have H31 := Lib.hid (H3.out.later hb1)
        generalize hnb : (frm P).length = nb at hs1 HFL ⊢
        have hnb5 : nb ≤ 518 := by have := HFL.out; omega
        have HNB := Lib.hid hnb
        have HSB := Lib.hid hs1
        have HKB := Lib.hid (fun a (ha : pb = some a) => hk1 a ha)
        have HWS := Lib.hid hb1.size
        have hbd : Below w.heap.size w w1.drew := below_drewN H31.out.below 1
        clear hs1 hb1 hk1 hnb HC hcr
        go_wp2_with fail
        refine wp_region_held_drew (S := fun w' => Hid (Below w.heap.size w w')) (by kernel_rfl) (Lib.hid hbd) (fun hHeld => ?_)
        clear hbd
        refine wpAnyH_take (i := 0) (oi := ⟨some 31, _, _, _, _, _⟩) (v := .slice pa0 nA ca0) rfl (by kernel_rfl) (by kernel_rfl) (by kernel_rfl) (fun _ _ _ h => h) (Or.inl ⟨by rfl, fun w' hw' => ?_⟩) (by assumption) ?_
        · clear hHeld
          go_simp
        simp only [Act.put, List.setIfInBounds_toArray, List.set_cons_zero, List.set_cons_succ]
        refine wpAnyH_take (i := 1) (oi := ⟨some 32, _, _, _, _, _⟩) (v := .slice pb nb cb) rfl (by kernel_rfl) (by kernel_rfl) (by kernel_rfl) (fun _ _ _ h => h) (Or.inl ⟨by rfl, fun w' hw' => ?_⟩) (by assumption) ?_
        · clear hHeld
          go_simp
        simp only [Act.put, List.setIfInBounds_toArray, List.set_cons_zero, List.set_cons_succ]
        refine wpAnyH_take (i := 3) (oi := ⟨some 34, _, _, _, _, _⟩) (v := .slice pp0 nG cp0) rfl (by kernel_rfl) (by kernel_rfl) (by kernel_rfl) (fun _ _ _ h => h) (Or.inl ⟨by rfl, fun w' hw' => ?_⟩) (by assumption) ?_
        · clear hHeld
          go_simp
        simp only [Act.put, List.setIfInBounds_toArray, List.set_cons_zero, List.set_cons_succ]
        refine wpAnyH_take (i := 4) (oi := ⟨some 35, _, _, _, _, _⟩) (v := .slice (some ⟨b, off, none⟩) n c) rfl (by kernel_rfl) (by kernel_rfl) (by kernel_rfl) (fun _ _ _ h => h) (Or.inl ⟨by rfl, fun w' hw' => ?_⟩) (by assumption) ?_
        · clear hHeld
          go_simp
        simp only [Act.put, List.setIfInBounds_toArray, List.set_cons_zero, List.set_cons_succ]
        refine wpAnyH_take (i := 5) (oi := ⟨some 36, _, _, _, _, _⟩) (v := .int .i64 (j : Nat)) rfl (by kernel_rfl) (by kernel_rfl) (by kernel_rfl) (fun _ _ _ h => h) (Or.inl ⟨by rfl, fun w' hw' => ?_⟩) (by assumption) ?_
        · clear hHeld
          go_simp
        simp only [Act.put, List.setIfInBounds_toArray, List.set_cons_zero, List.set_cons_succ]
        refine wpAnyH_take (i := 6) (oi := ⟨some 37, _, _, _, _, _⟩) (v := .pointer (some ⟨b, off + j, none⟩)) rfl (by kernel_rfl) (by kernel_rfl) (by kernel_rfl) (fun _ _ _ h => h) (Or.inl ⟨by rfl, fun w' hw' => ?_⟩) (by assumption) ?_
        · clear hHeld
          go_simp
        simp only [Act.put, List.setIfInBounds_toArray, List.set_cons_zero, List.set_cons_succ]
        refine wpAnyH_take (i := 7) (oi := ⟨some 38, _, _, _, _, _⟩) (v := .slice hp hn hc) rfl (by kernel_rfl) (by kernel_rfl) (by kernel_rfl) (fun _ _ _ h => h) (Or.inl ⟨by rfl, fun w' hw' => ?_⟩) (by assumption) ?_
        · have gg := HCJ.out w' hw'.out
          clear hHeld
          go_simp
        simp only [Act.put, List.setIfInBounds_toArray, List.set_cons_zero, List.set_cons_succ]
        have HD := Lib.hid (H31.out.later (Below.refl _ _).drew)
        have HSD := Lib.hid (HSB.out.later (Below.refl _ _).drew)
        have HWD : Hid (wr.heap.size ≤ w1.drew.heap.size) := Lib.hid HWS.out
        clear H31 HSB HWS
        generalize w1.drew = Wd at *
        refine wpAnyH_ready (rs := [2, 8]) (by kernel_rfl) (by simp) (AllReadyH.cons rfl (fun K hK => ?_) (AllReadyH.cons rfl (fun K hK => ?_) AllReadyH.nil))
        · refine step_append_vals (by decide) Tryd.underlying22 info_u8 rfl (by omega) rfl (.tmp 31) (.tmp 32) rfl (.slice pa0 nA ca0) nA (vL (flat G)) (by simp [Act.eval]) (own_len HD.out.a HNA.out) pb nb cb (vL (frm P)) (by simp [Act.eval]) (sl_news HSD.out).1 (sl_news HSD.out).2.1 (sl_news HSD.out).2.2 (vL_one _) (by omega) ?_
          intro pa1 ca1 W2 g1 g2 g3
          have HA2 : Hid (Three w W2 (.slice pa1 (nA + nb) ca1) (flat (G ++ [P])) (.slice pp0 nG cp0) H (.slice pe0 nG ce0) (endsL G)) := Lib.hid (HD.out.pushA (by rw [flat_push, List.length_append, HNA.out, HNB.out, vL_append]; exact g1) g2 g3)
          clear g1 g2 g3
          refine hK.out _ _ (Lib.hid HA2.out.below) (fun hHeld2 => ?_)
          clear hK K hHeld
          have hHeld := hHeld2
          clear hHeld2
          try simp only [Act.put, List.setIfInBounds_toArray, List.set_cons_zero, List.set_cons_succ]
          refine wpAnyH_ready (rs := [8]) (by kernel_rfl) (by simp) (AllReadyH.cons rfl (fun K hK => ?_) AllReadyH.nil)
          go_simp
          have HA3 : Hid (∀ o, Three w (W2.alloc o) (.slice pa1 (nA + nb) ca1) (flat (G ++ [P])) (.slice pp0 nG cp0) H (.slice pe0 nG ce0) (endsL G)) := Lib.hid fun o => HA2.out.later ((Below.refl _ _).alloc (Nat.le_refl _) _)
          refine hK.out _ _ (Lib.hid (HA3.out _).below) (fun hHeld2 => ?_)
          clear hK K hHeld
          have hHeld := hHeld2
          clear hHeld2
          try simp only [Act.put, List.setIfInBounds_toArray, List.set_cons_zero, List.set_cons_succ]
          have hcell : (W2.alloc (.cells #[.slice hp hn hc] 22)).cell? ⟨W2.heap.size, 0, none⟩ = some (.slice hp hn hc) := by first | (rw [World.cell?_alloc_mark]; rfl) | simp
          have HCELL := Lib.hid hcell
          clear hcell
          refine wpAnyH_ready (rs := [9]) (by kernel_rfl) (by simp) (AllReadyH.cons rfl (fun K hK => ?_) AllReadyH.nil)
          refine step_append_vals (by decide) Tryd.underlying35 infoSl rfl (by omega) rfl (.tmp 34) (.tmp 39) rfl (.slice pp0 nG cp0) nG (flatG eh H) (by simp [Act.eval]) (own_len (HA3.out _).p HNG.out.2) (some ⟨W2.heap.size, 0, none⟩) 1 1 [.slice hp hn hc] (by simp [Act.eval]) rfl (fun h => by cases h) (one_news HCELL.out) (eh_one (hp, hn, hc)) (by omega) ?_
          intro pp1 cp1 W9 g1 g2 g3
          have H9 : Hid (Three w W9 (.slice pa1 (nA + nb) ca1) (flat (G ++ [P])) (.slice pp1 (nG + 1) cp1) (H ++ [((hp, hn, hc) : Hd)]) (.slice pe0 nG ce0) (endsL G)) := Lib.hid ((HA3.out _).pushP (by rw [List.length_append, HNG.out.2, flatG_append, flatG_one]; exact g1) g2 g3)
          clear g1 g2 g3
          refine hK.out _ _ (Lib.hid H9.out.below) (fun hHeld2 => ?_)
          clear hK K hHeld
          have hHeld := hHeld2
          clear hHeld2
          try simp only [Act.put, List.setIfInBounds_toArray, List.set_cons_zero, List.set_cons_succ]
          refine wpAnyH_take (i := 10) (oi := ⟨some 5, _, _, _, _, _⟩) (v := .slice pa1 (nA + nb) ca1) rfl (by kernel_rfl) (by kernel_rfl) (by kernel_rfl) (fun _ _ _ h => h) (Or.inl ⟨by rfl, fun w' hw' => ?_⟩) (by assumption) ?_
          · clear hHeld
            go_simp
          simp only [Act.put, List.setIfInBounds_toArray, List.set_cons_zero, List.set_cons_succ]
          refine wpAnyH_take (i := 11) (oi := ⟨some 6, _, _, _, _, _⟩) (v := .slice pp1 (nG + 1) cp1) rfl (by kernel_rfl) (by kernel_rfl) (by kernel_rfl) (fun _ _ _ h => h) (Or.inl ⟨by rfl, fun w' hw' => ?_⟩) (by assumption) ?_
          · clear hHeld
            go_simp
          simp only [Act.put, List.setIfInBounds_toArray, List.set_cons_zero, List.set_cons_succ]
          refine wpAnyH_done (by kernel_rfl) ?_ _
          clear hHeld
          have HHL : Hid ((flat (G ++ [P])).length = nA + nb ∧ (G ++ [P]).length = nG + 1 ∧ (H ++ [((hp, hn, hc) : Hd)]).length = nG + 1) := Lib.hid ⟨by rw [flat_push, List.length_append, HNA.out, HNB.out], by rw [List.length_append, HNG.out.1]; rfl, by rw [List.length_append, HNG.out.2]; rfl⟩
          have H5 : Hid (Three w W9 (.slice pa1 (nA + nb) ca1) (flat (G ++ [P])) (.slice pp1 (nG + 1) cp1) (H ++ [((hp, hn, hc) : Hd)]) (.slice pe0 nG ce0) (endsL G)) := H9
          have HEL : Hid ((endsL G).length = nG ∧ endsL (G ++ [P]) = endsL G ++ [((nA + nb : Nat) : Int)]) := Lib.hid ⟨by rw [endsL_len, HNG.out.1], by rw [endsL_push, HHL.out.1]⟩
          have HPQ := Lib.hid (HPP.out.push (hp, hn, hc) P HSJ.out HMJ.out)
          have H6 : Hid (∀ o, Three w (W9.alloc o) (.slice pa1 (nA + nb) ca1) (flat (G ++ [P])) (.slice pp1 (nG + 1) cp1) (H ++ [((hp, hn, hc) : Hd)]) (.slice pe0 nG ce0) (endsL G)) := Lib.hid fun o => H5.out.later ((Below.refl _ _).alloc (Nat.le_refl _) _)
          clear H9 H5
          go_wp2_with (at_builtin; refine wpList_append_vals (by decide) Tryd.underlying43 infoInt rfl (by omega) rfl _ _ rfl (.slice pe0 nG ce0) nG (flatG ei (endsL G)) rfl (own_len (H6.out _).e HEL.out.1) _ 1 1 [.int .i64 ((nA : Int) + (nb : Int))] rfl rfl (fun h => by cases h) (one_news (by first | (rw [World.cell?_alloc_mark]; rfl) | simp)) (ei_one ((nA : Int) + (nb : Int))) (by omega) ?_)
          intro pe1 ce1 W10 g1 g2 g3
          have H7 : Hid (Three w W10 (.slice pa1 (nA + nb) ca1) (flat (G ++ [P])) (.slice pp1 (nG + 1) cp1) (H ++ [((hp, hn, hc) : Hd)]) (.slice pe1 (nG + 1) ce1) (endsL (G ++ [P]))) := Lib.hid ((H6.out _).pushE (by rw [HEL.out.2, List.length_append, HEL.out.1, flatG_append, flatG_one, Int.natCast_add]; exact g1) g2 (by simpa using g3))
          clear g1 g2 g3 H6
          go_wp2_with fail
          go_roundw
          case rel => exact ⟨j + 1, nA + nb, nG + 1, pa1, pp1, pe1, ca1, cp1, ce1, G ++ [P], H ++ [((hp, hn, hc) : Hd)], rfl, rfl, rfl, by go_num, by omega, by omega, by omega, Lib.hid HGP.out.symm, Lib.hid HHL.out.1, Lib.hid HHL.out.2, H7, HPQ⟩
          case measure => simp [intOf]; omega
        · go_simp
          have HA3 : Hid (∀ o, Three w (Wd.alloc o) (.slice pa0 nA ca0) (flat G) (.slice pp0 nG cp0) H (.slice pe0 nG ce0) (endsL G)) := Lib.hid fun o => HD.out.later ((Below.refl _ _).alloc (Nat.le_refl _) _)
          have HSA : Hid (∀ o, Sl (Wd.alloc o) pb nb cb (frm P)) := Lib.hid fun o => HSD.out.later ((Below.refl _ _).alloc (Nat.le_refl _) _)
          refine hK.out _ _ (Lib.hid (HA3.out _).below) (fun hHeld2 => ?_)
          clear hK K hHeld
          have hHeld := hHeld2
          clear hHeld2
          try simp only [Act.put, List.setIfInBounds_toArray, List.set_cons_zero, List.set_cons_succ]
          have hcell : (Wd.alloc (.cells #[.slice hp hn hc] 22)).cell? ⟨Wd.heap.size, 0, none⟩ = some (.slice hp hn hc) := by first | (rw [World.cell?_alloc_mark]; rfl) | simp
          have HCELL := Lib.hid hcell
          clear hcell
          have HVA : Hid (∀ k, (Value.slice pa0 nA ca0).ownBlock = some k → k < Wd.heap.size) := Lib.hid fun k hk => (HD.out.a.lt k hk).2
          refine wpAnyH_ready (rs := [2]) (by kernel_rfl) (by simp) (AllReadyH.cons rfl (fun K hK => ?_) AllReadyH.nil)
          refine step_append_vals (by decide) Tryd.underlying22 info_u8 rfl (by omega) rfl (.tmp 31) (.tmp 32) rfl (.slice pa0 nA ca0) nA (vL (flat G)) (by simp [Act.eval]) (own_len (HA3.out _).a HNA.out) pb nb cb (vL (frm P)) (by simp [Act.eval]) (sl_news HSD.out).1 (sl_news HSD.out).2.1 (sl_news (HSA.out _)).2.2 (vL_one _) (by omega) ?_
          intro pa1 ca1 W2 g1 g2 g3
          have HA2 : Hid (Three w W2 (.slice pa1 (nA + nb) ca1) (flat (G ++ [P])) (.slice pp0 nG cp0) H (.slice pe0 nG ce0) (endsL G)) := Lib.hid ((HA3.out _).pushA (by rw [flat_push, List.length_append, HNA.out, HNB.out, vL_append]; exact g1) g2 g3)
          have HC2 : Hid (W2.cell? ⟨Wd.heap.size, 0, none⟩ = some (.slice hp hn hc)) := Lib.hid ((World.cell?_of_block (a := ⟨Wd.heap.size, 0, none⟩) (g2.block Wd.heap.size (by simp) fun e => by have := HVA.out _ e; omega)).trans HCELL.out)
          clear g1 g2 g3
          refine hK.out _ _ (Lib.hid HA2.out.below) (fun hHeld2 => ?_)
          clear hK K hHeld
          have hHeld := hHeld2
          clear hHeld2
          try simp only [Act.put, List.setIfInBounds_toArray, List.set_cons_zero, List.set_cons_succ]
          refine wpAnyH_ready (rs := [9]) (by kernel_rfl) (by simp) (AllReadyH.cons rfl (fun K hK => ?_) AllReadyH.nil)
          refine step_append_vals (by decide) Tryd.underlying35 infoSl rfl (by omega) rfl (.tmp 34) (.tmp 39) rfl (.slice pp0 nG cp0) nG (flatG eh H) (by simp [Act.eval]) (own_len HA2.out.p HNG.out.2) (some ⟨Wd.heap.size, 0, none⟩) 1 1 [.slice hp hn hc] (by simp [Act.eval]) rfl (fun h => by cases h) (one_news HC2.out) (eh_one (hp, hn, hc)) (by omega) ?_
          intro pp1 cp1 W9 g1 g2 g3
          have H9 : Hid (Three w W9 (.slice pa1 (nA + nb) ca1) (flat (G ++ [P])) (.slice pp1 (nG + 1) cp1) (H ++ [((hp, hn, hc) : Hd)]) (.slice pe0 nG ce0) (endsL G)) := Lib.hid (HA2.out.pushP (by rw [List.length_append, HNG.out.2, flatG_append, flatG_one]; exact g1) g2 g3)
          clear g1 g2 g3
          refine hK.out _ _ (Lib.hid H9.out.below) (fun hHeld2 => ?_)
          clear hK K hHeld
          have hHeld := hHeld2
          clear hHeld2
          try simp only [Act.put, List.setIfInBounds_toArray, List.set_cons_zero, List.set_cons_succ]
          refine wpAnyH_take (i := 10) (oi := ⟨some 5, _, _, _, _, _⟩) (v := .slice pa1 (nA + nb) ca1) rfl (by kernel_rfl) (by kernel_rfl) (by kernel_rfl) (fun _ _ _ h => h) (Or.inl ⟨by rfl, fun w' hw' => ?_⟩) (by assumption) ?_
          · clear hHeld
            go_simp
          simp only [Act.put, List.setIfInBounds_toArray, List.set_cons_zero, List.set_cons_succ]
          refine wpAnyH_take (i := 11) (oi := ⟨some 6, _, _, _, _, _⟩) (v := .slice pp1 (nG + 1) cp1) rfl (by kernel_rfl) (by kernel_rfl) (by kernel_rfl) (fun _ _ _ h => h) (Or.inl ⟨by rfl, fun w' hw' => ?_⟩) (by assumption) ?_
          · clear hHeld
            go_simp
          simp only [Act.put, List.setIfInBounds_toArray, List.set_cons_zero, List.set_cons_succ]
          refine wpAnyH_done (by kernel_rfl) ?_ _
          clear hHeld
          have HHL : Hid ((flat (G ++ [P])).length = nA + nb ∧ (G ++ [P]).length = nG + 1 ∧ (H ++ [((hp, hn, hc) : Hd)]).length = nG + 1) := Lib.hid ⟨by rw [flat_push, List.length_append, HNA.out, HNB.out], by rw [List.length_append, HNG.out.1]; rfl, by rw [List.length_append, HNG.out.2]; rfl⟩
          have H5 : Hid (Three w W9 (.slice pa1 (nA + nb) ca1) (flat (G ++ [P])) (.slice pp1 (nG + 1) cp1) (H ++ [((hp, hn, hc) : Hd)]) (.slice pe0 nG ce0) (endsL G)) := H9
          have HEL : Hid ((endsL G).length = nG ∧ endsL (G ++ [P]) = endsL G ++ [((nA + nb : Nat) : Int)]) := Lib.hid ⟨by rw [endsL_len, HNG.out.1], by rw [endsL_push, HHL.out.1]⟩
          have HPQ := Lib.hid (HPP.out.push (hp, hn, hc) P HSJ.out HMJ.out)
          have H6 : Hid (∀ o, Three w (W9.alloc o) (.slice pa1 (nA + nb) ca1) (flat (G ++ [P])) (.slice pp1 (nG + 1) cp1) (H ++ [((hp, hn, hc) : Hd)]) (.slice pe0 nG ce0) (endsL G)) := Lib.hid fun o => H5.out.later ((Below.refl _ _).alloc (Nat.le_refl _) _)
          clear H9 H5
          go_wp2_with (at_builtin; refine wpList_append_vals (by decide) Tryd.underlying43 infoInt rfl (by omega) rfl _ _ rfl (.slice pe0 nG ce0) nG (flatG ei (endsL G)) rfl (own_len (H6.out _).e HEL.out.1) _ 1 1 [.int .i64 ((nA : Int) + (nb : Int))] rfl rfl (fun h => by cases h) (one_news (by first | (rw [World.cell?_alloc_mark]; rfl) | simp)) (ei_one ((nA : Int) + (nb : Int))) (by omega) ?_)
          intro pe1 ce1 W10 g1 g2 g3
          have H7 : Hid (Three w W10 (.slice pa1 (nA + nb) ca1) (flat (G ++ [P])) (.slice pp1 (nG + 1) cp1) (H ++ [((hp, hn, hc) : Hd)]) (.slice pe1 (nG + 1) ce1) (endsL (G ++ [P]))) := Lib.hid ((H6.out _).pushE (by rw [HEL.out.2, List.length_append, HEL.out.1, flatG_append, flatG_one, Int.natCast_add]; exact g1) g2 (by simpa using g3))
          clear g1 g2 g3 H6
          go_wp2_with fail
          go_roundw
          case rel => exact ⟨j + 1, nA + nb, nG + 1, pa1, pp1, pe1, ca1, cp1, ce1, G ++ [P], H ++ [((hp, hn, hc) : Hd)], rfl, rfl, rfl, by go_num, by omega, by omega, by omega, Lib.hid HGP.out.symm, Lib.hid HHL.out.1, Lib.hid HHL.out.2, H7, HPQ⟩
          case measure => simp [intOf]; omega
      · have hbad : good P = false := by simpa using hgood
        have he := putE_bad hbad
        have hne : (putE P != 0) = true := by simpa using he.2
        rw [he.1] at HC
        have HGP : Hid (put Ls (j + 1) = G) := Lib.hid (by rw [put_no Ls j (by rw [hgj.out]; exact hlt) (by rw [HPE.out]; exact hbad), ← HG.out])
        clear he
        generalize putE P = x at *
        go_wp2_with fail
        refine HC.out.mono ?_
        rintro e w1 ⟨pb, cb, rfl, _, hb1, _, _⟩
        have H31 := Lib.hid (H3.out.later hb1)
        clear hb1
        go_wp2_with fail
        go_roundw
        case rel => exact ⟨j + 1, nA, nG, pa0, pp0, pe0, ca0, cp0, ce0, G, H, rfl, rfl, rfl, by go_num, by omega, by omega, by omega, Lib.hid HGP.out.symm, HNA, HNG, H31, HPP⟩
        case measure => simp [intOf]; omega
    · have hjm : j = min n 12 := by omega
      have HF := Lib.hid (H3.out.done HPP.out HNA.out HNG.out.1 HNG.out.1)
      rw [HG.out, hjm] at HF
      by_cases h1 : j < n
      · have h2 : ¬ (j < 12) := by omega
        clear hlt hjm
        go_wp2_with fail
        go_ret3
        exact HF.out
      · clear hlt hjm
        go_wp2_with fail
        go_ret3
        exact HF.out
end Go.Proofs.YtmadneedeheekaaDoor
