import Derived.Test.YtccgjdmbongbaaaGreatDoorPA39
namespace Go.Proofs.YtccgjdmbongbaaaGreatDoor
open Go.RowKit Go.ChangeShapes Go.WideShapes
set_option linter.unusedVariables false
set_option linter.unusedSimpArgs false
set_option maxRecDepth 10000
variable {NB : Nat} {Wd : World → Prop} {Ju : World → Nat → List Tc → (Nat → Prop) → Prop}
theorem JPl.over (I : JnI NB Wd Ju) {w w5 w6 : World} {B : Nat} {M : List Tc} {Q : Nat → Prop} {r : Option Addr} {m d : Nat} {L : List Tv} {k : Nat} {X : Nat → Prop} (h : JPl Ju w w5 B M Q r m d L k) (hc : Chg X w5 w6) (hw : ∀ b, X b → w.heap.size ≤ b) (hq : ∀ b, X b → ¬ Q b) (hr : 0 < m → ∀ a, r = some a → ¬ X a.block) (he : ∀ t ∈ L, 0 < t.n → ∀ a, t.p = some a → ¬ X a.block) : JPl Ju w w6 B M Q r m d L k := by
 have ht : Turn X w5 w6 := ⟨hc.os, hc.tape, hc.output, hc.size, hc.block⟩
 exact ⟨I.keep h.ju ht (fun j hj hx => hq j hx hj), tl_turn h.rows ht hr he, h.is, h.ok, h.low, h.apart, h.each, h.below.trans (ht.below h.below.size hw)⟩
theorem NewT.wrt {w4 w5 w6 : World} {r : Option Addr} {m d : Nat} {L : List Tv} {X : Nat → Prop} (h : NewT w4 w5 r L) (hl : TL w5 r m d L) (hc : Chg X w5 w6) (hX : ∀ b, X b → b < w4.heap.size) : Wrt w6 w6 r m d L := by
 have hne : ∀ b, w4.heap.size ≤ b → ¬ X b := fun b hb hx => by
  have := hX b hx
  omega
 exact ⟨⟨fun t ht => ⟨⟨_, SlG.turn (hl.each t ht) hc.size fun h0 a ha hlt => hc.block _ hlt (hne _ (h.each t ht h0 a ha).1)⟩, fun h0 a ha => by
  obtain ⟨cs, T, e⟩ := h.free t ht h0 a ha
  exact ⟨cs, T, (hc.block _ (block_lt e) (hne _ (h.each t ht h0 a ha).1)).trans e⟩⟩, fun t ht h0 a ha => ⟨t, ht, h0, a, ha, rfl⟩, h.apart⟩, Chg.refl _ _, hl.row.turn hc.size fun h0 a ha hlt => hc.block _ hlt (hne _ (h.row a ha)), fun h0 a ha ⟨t, ht, h1, b, hb, e⟩ => (h.each t ht h1 b hb).2 a ha e.symm⟩
set_option maxHeartbeats 8000000 in
theorem law_japart (I : JnI NB Wd Ju) (I2 : JnI2 NB Ju) (I5 : JnI5 NB Ju) (I3 : JnI3 NB Ju) (p : Option Addr) (n c : Nat) (L : List Tv) (q : Option Addr) (n2 c2 : Nat) (H : List Rv) (w : World) (hW : Wd w) (hL : TL w p n c L) (hx : ∀ t ∈ L, TxOk t) (hH : RcL w q n2 c2 H) (hNB : 12 ≤ NB) :
 Calls Tryz.prog 4 #[.slice p n c, .slice q n2 c2] w fun e w' => e = .returned (.bool true) ∧ Below w.heap.size w w' := by
 have HI := Lib.hid I
 have HNB := Lib.hid hNB
 clear hNB
 have HI2 := Lib.hid I2
 have HI5 := Lib.hid I5
 have HI3 := Lib.hid I3
 have HL := Lib.hid hL
 have HX := Lib.hid hx
 have HH := Lib.hid hH
 have HW := Lib.hid fun w' (hb : Below w.heap.size w w') => I.wd hW hb
 have HF := Lib.hid (jFew_any p n c L w hL.row)
 have HR := Lib.hid fun w' (hb : Below w.heap.size w w') => jfew_any q n2 c2 H w' (hH.later hb)
 have HWK := Lib.hid fun w' (hb : Below w.heap.size w w') => jworks_any I w' (I.wd hW hb)
 have hcap := hH.row.cap
 have hcap1 := hL.row.cap
 clear hL hx hH hW I I2 I5 I3
 go_enter Tryz.func4, Tryz.ntmps4
 go_wp2_with fail
 refine HF.out.mono ?_
 rintro e1 w1 ⟨t1, rfl, ht1, hb1⟩
 have HB1 := Lib.hid hb1
 have HT1 := Lib.hid ht1
 clear hb1 ht1 HF
 cases t1 with
 | false =>
  go_wp2_with fail
  refine (HWK.out _ HB1.out).mono ?_
  rintro e2 w2 ⟨rfl, hb2⟩
  have HB2 := Lib.hid (HB1.out.trans (hb2.mono HB1.out.size))
  clear hb2
  go_wp2_with fail
  go_ret
  exact ⟨rfl, HB2.out⟩
 | true =>
  have HFT : Hid (FewT n L) := Lib.hid (HT1.out rfl)
  clear HT1
  go_wp2_with fail
  refine (HR.out _ HB1.out).mono ?_
  rintro e2 w2 ⟨t2, rfl, ht2, hb2⟩
  have HB2 := Lib.hid (HB1.out.trans (hb2.mono HB1.out.size))
  have HT2 := Lib.hid ht2
  clear hb2 ht2 HR HB1
  cases t2 with
  | false =>
   go_wp2_with fail
   refine (HWK.out _ HB2.out).mono ?_
   rintro e3 w3 ⟨rfl, hb3⟩
   have HB3 := Lib.hid (HB2.out.trans (hb3.mono HB2.out.size))
   clear hb3
   go_wp2_with fail
   go_ret
   exact ⟨rfl, HB3.out⟩
  | true =>
   have HFR : Hid (n2 ≤ 60 ∧ ∀ j, j < n2 → SmV (H.getD j rz)) := Lib.hid (HT2.out rfl)
   clear HT2
   have HFM : Hid (∀ t ∈ L, t.n ≤ 20 ∧ 0 ≤ t.c.sz ∧ t.c.sz ≤ 1048576) := Lib.hid fun t ht => by
    obtain ⟨i, hi, rfl⟩ := List.getElem_of_mem ht
    have h1 := HFT.out.2 i (by rw [← HL.out.row.len]; exact hi)
    rw [List.getD, List.getElem?_eq_getElem hi] at h1
    exact h1
   have HOK0 : Hid (TsOk (newT Tc.id (L.map (·.c))) (12 + 0) (1048576 + 10000 * ((0 : Nat) : Int))) := Lib.hid (TsOk.new
    (fun x hx => by obtain ⟨t, ht, rfl⟩ := List.mem_map.1 hx; exact HX.out t ht)
    (by rw [List.length_map, HL.out.row.len]; exact HFT.out.1)
    (fun x hx => by obtain ⟨t, ht, rfl⟩ := List.mem_map.1 hx; rw [(HL.out.each t ht).len]; exact (HFM.out t ht).1)
    (fun x hx => by obtain ⟨t, ht, rfl⟩ := List.mem_map.1 hx; have := (HFM.out t ht).2; omega))
   go_wp2_with fail
   go_loopw [5, 6] (fun v i wr => ∃ (j : Nat) (Lx : List Tv), j ≤ n ∧ i = .int .i64 (j : Int) ∧ Hid (InR w w2 wr v Lx L j)) (fun _ i _ => n - (Go.RowKit.intOf i).toNat)
   case atStart => exact ⟨0, [], Nat.zero_le _, rfl, Lib.hid (InR.start HB2.out L)⟩
   case round =>
    obtain ⟨j, Lx, hj, rfl, HF⟩ := hrel
    by_cases hlt : j < n
    · have t1 : (j : Int) < n := by omega
      obtain ⟨b, off, rfl, _, c0, c1, c2, c3, c4, c5, c6, c7⟩ := txr_cells (HL.out.row.later HF.out.below) hlt
      have HTM := Lib.hid ((HL.out.at hlt).later HF.out.below)
      have HXN := Lib.hid (HFM.out _ (HL.out.mem hlt))
      have HXE := Lib.hid (rfl : L.getD j tv0 = L.getD j tv0)
      generalize hxe : L.getD j tv0 = x at *
      have HXQ := Lib.hid hxe
      clear HXE hxe
      go_upto_region 8 with (fail)
      clear c0 c1 c2 c3 c4 c5 c6 c7
      have HBX := Lib.hid (alloc_block wr (.cells #[.int .u32 x.c.id, .int .u32 x.c.sg, .int .u8 x.c.st, .bool x.c.cp, .bool x.c.dd, .slice x.p x.n x.m, .int .i64 x.c.fs, .int .i64 x.c.sz] 47))
      have hb1 : Below wr.heap.size wr (wr.alloc (.cells #[.int .u32 x.c.id, .int .u32 x.c.sg, .int .u8 x.c.st, .bool x.c.cp, .bool x.c.dd, .slice x.p x.n x.m, .int .i64 x.c.fs, .int .i64 x.c.sz] 47)) := (Below.refl _ _).alloc (Nat.le_refl _) _
      have HZ1 := Lib.hid (block_lt HBX.out)
      have HB1 := Lib.hid hb1
      clear hb1
      obtain ⟨Z, hZ⟩ : ∃ Z, wr.heap.size = Z := ⟨_, rfl⟩
      have HZ := Lib.hid hZ
      rw [hZ] at HBX HZ1
      rw [hZ]
      clear hZ
      generalize wr.alloc (.cells #[.int .u32 x.c.id, .int .u32 x.c.sg, .int .u8 x.c.st, .bool x.c.cp, .bool x.c.dd, .slice x.p x.n x.m, .int .i64 x.c.fs, .int .i64 x.c.sz] 47) = W1 at *
      have HTM2 := Lib.hid ((HTM.out.later HB1.out).later ((Below.refl W1.heap.size W1).alloc (Nat.le_refl _) (.cells #[] 50)))
      have HBX2 := Lib.hid (((Below.refl W1.heap.size W1).alloc (Nat.le_refl _) (.cells #[] 50)).block Z HZ1.out |>.trans HBX.out)
      obtain ⟨x0, x1, x2, x3, x4, x5, x6, x7⟩ := txv_cells HBX2.out
      obtain ⟨y0, y1, y2, y3, y4, y5, y6, y7⟩ := txv_cells HBX.out
      go_upto_region 9 with (at_builtin; refine wpList_append_vals (k := 4) (by decide) Tryz.underlying45 info_op rfl (by omega) rfl _ _ rfl (.slice (some ⟨W1.heap.size, 0, none⟩) 0 0) 0 (flatG oc []) rfl (xown_none W1) x.p x.n x.m (flatG oc x.c.dn) rfl (by rw [flatG_len oc_len, HTM2.out.len]) (xop_news HTM2.out).1 (xop_news HTM2.out).2 (xoc_one _) (by have := HXN.out.1; omega) ?_; intro p6 c6 W6 g1 g2 g3; rw [Nat.zero_add] at g1 g3 ⊢; have HZ6 := (g2.block Z (block_lt HBX2.out) (fun e => by have h1 := HZ1.out; have h2 : W1.heap.size = Z := Option.some.inj e; omega)).trans HBX2.out; have hz6 := block_free 5 HZ6; obtain ⟨z0, z1, z2, z3, z4, z5, z6, z7⟩ := txv_cells HZ6)
      clear x0 x1 x2 x3 x4 x5 x6 x7 y0 y1 y2 y3 y4 y5 y6 y7 z0 z1 z2 z3 z4 z5 z6 z7 hz6
      have hfl : flatG oc [] ++ flatG oc x.c.dn = flatG oc x.c.dn := rfl
      rw [hfl] at g1
      have hw1 : Z < W1.heap.size := HZ1.out
      have hp6 : ∀ a, p6 = some a → W1.heap.size ≤ a.block ∧ a.block ≠ Z ∧ ∃ cs, W6.heap[a.block]? = some (.cells cs 50 (0, 0)) := fun a ha => by
       have hb : (Value.slice p6 x.n c6).ownBlock = some a.block := by rw [ha]; rfl
       have h1 : W1.heap.size ≤ a.block := by
        rcases g3 _ hb with e | e
        · exact Nat.le_of_eq (Option.some.inj e)
        · exact Nat.le_trans ((Below.refl W1.heap.size W1).alloc (Nat.le_refl _) (.cells #[] 50)).size e
       exact ⟨h1, by omega, own_ty g1 hb⟩
      obtain ⟨p8, c8, he8, hs8, _⟩ := SlG.of_own (d := o0) oc_len (by decide) g1
      cases he8
      have HZ7 : Hid ((W6.setCell ⟨Z, 5, none⟩ (.slice p6 x.n c6)).heap[Z]? = some (.cells #[.int .u32 x.c.id, .int .u32 x.c.sg, .int .u8 x.c.st, .bool x.c.cp, .bool x.c.dd, .slice p6 x.n c6, .int .i64 x.c.fs, .int .i64 x.c.sz] 47 (0, 0))) := Lib.hid (block_put 5 (.slice p6 x.n c6) HZ6)
      have hb2 : Below wr.heap.size wr (W1.alloc (.cells #[] 50)) := HB1.out.trans (((Below.refl W1.heap.size W1).alloc (Nat.le_refl _) _).mono HB1.out.size)
      have hb6 : Below wr.heap.size wr W6 := g2.below hb2 hb2.size (fun j hj => by
       have h1 : W1.heap.size = j := Option.some.inj hj
       have h2 := HB1.out.size
       omega)
      have hc7 : Chg (fun k => k = Z) W6 (W6.setCell ⟨Z, 5, none⟩ (.slice p6 x.n c6)) := (Chg.refl _ _).setCell _ _ fun _ => rfl
      have hb7 := hc7.below hb6 hb6.size (fun j hj => by have := HZ.out; omega)
      have HT7 : Hid (TvM (W6.setCell ⟨Z, 5, none⟩ (.slice p6 x.n c6)) (⟨x.c, p6, x.n, c6⟩ : Tv)) := Lib.hid (SlG.turn hs8 hc7.size fun h0 a ha hlt => hc7.block a.block hlt (hp6 a ha).2.1)
      have HFR : Hid (∀ a, p6 = some a → wr.heap.size ≤ a.block ∧ ∃ cs, (W6.setCell ⟨Z, 5, none⟩ (.slice p6 x.n c6)).heap[a.block]? = some (.cells cs 50 (0, 0))) := Lib.hid fun a ha => by
       obtain ⟨h1, h2, cs, h3⟩ := hp6 a ha
       have h4 := HB1.out.size
       exact ⟨by omega, cs, (hc7.block a.block (block_lt h3) h2).trans h3⟩
      have HB7 := Lib.hid hb7
      have HF7 := Lib.hid (HF.out.later hb7)
      clear g1 g2 g3 hs8 hp6 hb2 hb6 hc7 hb7 HZ6 HBX HBX2 HB1 HZ1 HZ HTM2 hw1 hfl
      generalize W6.setCell ⟨Z, 5, none⟩ (.slice p6 x.n c6) = W7 at *
      obtain ⟨z0, z1, z2, z3, z4, z5, z6, z7⟩ := txv_cells HZ7.out
      have hsz := HF7.out.fill.below.size
      have hmost := HF7.out.fill.most
      have hnn := HFT.out.1
      go_wp2_with (at_builtin; refine wpList_append_tx rfl _ _ rfl w2.heap.size _ Lx.length Lx rfl (HF7.out.fill.own.alloc _) (by omega) (⟨x.c, p6, x.n, c6⟩ : Tv) W7.heap.size rfl (tx_news W7 (⟨x.c, p6, x.n, c6⟩ : Tv)) (by simp; omega) ?_; intro v2 w9 h1 h2)
      have HF9 := Lib.hid (HF.out.step (by rw [HL.out.row.len]; exact hlt) HB7.out (⟨x.c, p6, x.n, c6⟩ : Tv) HT7.out (by rw [HXQ.out]) (fun _ a ha => HFR.out a ha) _ h1 h2)
      clear h1 h2 hsz hmost z0 z1 z2 z3 z4 z5 z6 z7
      go_wp2_with fail
      go_roundw
      case rel => exact ⟨j + 1, Lx ++ [(⟨x.c, p6, x.n, c6⟩ : Tv)], by omega, by go_num, HF9⟩
      case measure =>
       simp [Go.RowKit.intOf]
       omega
    · obtain rfl : j = n := by omega
      obtain ⟨p3, c3, rfl, hs3, _⟩ := SlG.of_own (d := tv0) tce_len (by decide) HF.out.fill.own
      have hLn : Lx.length = j := by
       have h1 := congrArg List.length HF.out.is
       rw [List.length_map, List.length_map, List.length_take, HL.out.row.len] at h1
       omega
      have hmap : Lx.map (·.c) = L.map (·.c) := by rw [HF.out.is, List.take_of_length_le (by rw [HL.out.row.len]; exact Nat.le_refl _)]
      have hLXn : ∀ t ∈ Lx, t.n ≤ 20 := fun t ht => by
       have h1 : t.c ∈ L.map (·.c) := by rw [← hmap]; exact List.mem_map_of_mem ht
       obtain ⟨u, hu, he⟩ := List.mem_map.1 h1
       rw [← (HF.out.each t ht).len, ← he, (HL.out.each u hu).len]
       exact (HFM.out u hu).1
      have hLXi : ∀ t ∈ Lx, 0 ≤ t.c.id ∧ t.c.id ≤ 4294967295 := fun t ht => by
       have h1 : t.c ∈ L.map (·.c) := by rw [← hmap]; exact List.mem_map_of_mem ht
       obtain ⟨u, hu, he⟩ := List.mem_map.1 h1
       rw [← he]
       exact (HX.out u hu).id
      rw [hLn] at hs3
      rw [hLn]
      have HIN : Hid (TL wr p3 j c3 Lx) := Lib.hid ⟨hs3, HF.out.each⟩
      have HNEW := Lib.hid (HI.out.new p3 j c3 Lx wr HIN.out (by have := HFT.out.1; omega) (fun t ht => by have := hLXn t ht; omega) hLXi)
      rw [hmap] at HNEW
      have HSCR := Lib.hid HF.out.scr
      have HLN := Lib.hid hLXn
      have HFI := Lib.hid HF.out
      have HB2w := Lib.hid HF.out.below
      clear hs3 hLn hmap hLXn hLXi HF
      go_wp2_with fail
      refine HNEW.out.mono ?_
      rintro e3 w3 ⟨B, Q, rfl, hj, hq, hb3⟩
      have HJ3 := Lib.hid hj
      have HQ3 := Lib.hid hq
      have HB3r := Lib.hid hb3
      have HB3 := Lib.hid (HB2w.out.trans (hb3.mono HB2w.out.size))
      clear hj hq hb3 HNEW
      go_wp2_with fail
      refine (rtnew_any _ _ _ L w3 (HL.out.row.later HB3.out) (by have := HFT.out.1; omega)).mono ?_
      rintro e4 w4 ⟨r, d, rfl, hs, hb4, hr⟩
      have HP4 : Hid (JPl Ju w w4 B (newT Tc.id (L.map (·.c))) Q r (newT Tv.id L).length d (newT Tv.id L) 0) := Lib.hid
       ⟨HI.out.later HJ3.out hb4, ⟨hs, fun t ht => ((HL.out.each t (mem_newT ht)).later HB3.out).later hb4⟩, map_newT (fun _ => rfl) L, HOK0.out, fun j hj => Nat.le_trans HB2w.out.size (HQ3.out j hj),
        fun h0 a e hq => by have h1 := hr a e; have h2 := HI.out.lt HJ3.out _ hq; omega,
        fun t ht h0 a e hq => by have h1 := slg_lt (HL.out.each t (mem_newT ht)) h0 e; have h2 := HQ3.out _ hq; have h3 := HB2w.out.size; omega,
        HB3.out.trans (hb4.mono HB3.out.size)⟩
      have HRN := Lib.hid hr
      have HML : Hid (∀ t ∈ newT Tv.id L, 0 < t.n → ∀ a, t.p = some a → a.block < w.heap.size) := Lib.hid fun t ht h0 a ha => slg_lt (HL.out.each t (mem_newT ht)) h0 ha
      have HQL : Hid (∀ j, Q j → j < w4.heap.size) := Lib.hid (HI.out.lt HP4.out.ju)
      have HRL : Hid (0 < (newT Tv.id L).length → ∀ a, r = some a → a.block < w4.heap.size) := Lib.hid fun h0 a e => slg_lt HP4.out.rows.row h0 e
      have HW4 := Lib.hid HP4.out.below.size
      have HLO : Hid (∀ b, InS Lx b → w.heap.size ≤ b ∧ b < w3.heap.size ∧ ¬ Q b) := Lib.hid fun b hb => by
       obtain ⟨t, ht, h0, a, ha, e⟩ := hb
       obtain ⟨h1, cs, e1⟩ := HFI.out.free t ht h0 a ha
       have h2 := block_lt e1
       have h3 := HB3r.out.size
       have h4 := HFI.out.low.size
       rw [← e]
       exact ⟨by omega, by omega, fun hq => by have := HQ3.out _ hq; omega⟩
      have HB4r := Lib.hid (HB3r.out.trans (hb4.mono HB3r.out.size))
      have HLOW := Lib.hid (fun b (hb : InS Lx b) => by
       obtain ⟨t, ht, h0, a, ha, rfl⟩ := hb
       obtain ⟨_, cs, e⟩ := HFI.out.free t ht h0 a ha
       exact Nat.lt_of_lt_of_le (block_lt e) HB4r.out.size : ∀ b, InS Lx b → b < w4.heap.size)
      clear hs hb4 hr HJ3 HB3 HB3r HOK0
      generalize newT Tc.id (L.map (·.c)) = M0 at *
      generalize newT Tv.id L = L0 at *
      generalize L0.length = m0 at *
      have HALL := Lib.hid (HI.out.all w4 B M0 Q HP4.out.ju (HP4.out.jok (by omega)) (by have h1 := HP4.out.ok.len; have h2 := HNB.out; omega))
      go_wp2_with fail
      refine HALL.out.mono ?_
      rintro e5 w5 ⟨r5, m5, d5, L5, rfl, hl5, hm5, hn5, hb5⟩
      have HP5 := Lib.hid (HP4.out.later HI.out hb5)
      have HO5 := Lib.hid (And.intro hl5 (And.intro hm5 hn5))
      have HB5r := Lib.hid (HB4r.out.trans (hb5.mono HB4r.out.size))
      clear hl5 hm5 hn5 hb5 HP4 HB4r HALL
      have HWR : Hid (Wrt w5 w5 p3 j c3 Lx) := Lib.hid ⟨(HSCR.out.later HB5r.out).ins, Chg.refl _ _, HIN.out.row.later HB5r.out, fun h0 a ha ⟨t, ht, ht0, b, hb, e⟩ => by
       obtain ⟨_, cs, e1⟩ := HFI.out.free t ht ht0 b hb
       obtain ⟨ds, e2⟩ := own_ty HFI.out.fill.own (b := a.block) (by rw [ha]; rfl)
       rw [e] at e1
       rw [e1] at e2
       injection e2 with e2
       injection e2 with _ e4 _
       revert e4
       decide⟩
      go_wp2_with fail
      go_loopw [11] (fun i wx => ∃ k : Nat, k ≤ j ∧ i = .int .i64 (k : Int) ∧ Hid (Wrt w5 wx p3 j c3 Lx)) (fun i _ => j - (Go.RowKit.intOf i).toNat)
      case atStart => exact ⟨0, Nat.zero_le _, rfl, HWR⟩
      case round =>
       obtain ⟨k, hk, rfl, HX2⟩ := hrel
       by_cases hlt : k < j
       · have t1 : (k : Int) < j := by omega
         generalize ht : Lx.getD k tv0 = t at *
         have HT := Lib.hid ht
         have HTI : Hid (t ∈ Lx) := Lib.hid (by rw [← ht]; exact HIN.out.mem hlt)
         clear ht
         have hb20 := HLN.out t HTI.out
         have hj12 := HFT.out.1
         go_wp2_with fail
         go_loopw [12] (fun i wx => ∃ m : Nat, m ≤ t.n ∧ i = .int .i64 (m : Int) ∧ Hid (Wrt w5 wx p3 j c3 Lx)) (fun i _ => t.n - (Go.RowKit.intOf i).toNat)
         case atStart => exact ⟨0, Nat.zero_le _, rfl, HX2⟩
         case round =>
          obtain ⟨m, hm, rfl, HX3⟩ := hrel
          obtain ⟨b, off, rfl, _, c0, c1, c2, c3, c4, c5, c6, c7⟩ := txr_cells HX3.out.row hlt
          rw [HT.out] at c5
          by_cases hlm : m < t.n
          · have t2 : (m : Int) < t.n := by omega
            obtain ⟨⟨D, hD⟩, hf⟩ := HX3.out.scr.each t HTI.out
            obtain ⟨b2, off2, hp2, _, e0, e1, e2, e3⟩ := op_cells hD hlm
            obtain ⟨cs, TT, hf2⟩ := hf (by omega) _ hp2
            have hfz := block_free (off2 + m * 4 + 3) hf2
            rw [hp2] at c5
            have HP2 := Lib.hid hp2
            go_wp2_with fail
            go_roundw
            case rel => exact ⟨m + 1, by omega, by go_num, Lib.hid (HX3.out.put hlt (by rw [HT.out]; exact HP2.out) (by rw [HT.out]; exact hlm) _)⟩
            case measure =>
             simp [Go.RowKit.intOf]
             omega
          · obtain rfl : m = t.n := by omega
            go_wp2_with fail
            go_roundw
            case rel => exact ⟨k + 1, by omega, by go_num, HX3⟩
            case measure =>
             simp [Go.RowKit.intOf]
             omega
       · obtain rfl : k = j := by omega
         go_wp2_with fail
         obtain ⟨w6, hw6⟩ : ∃ w6, w6 = wr := ⟨_, rfl⟩
         have HX6 : Hid (Wrt w5 w6 p3 k c3 Lx) := by rw [hw6]; exact HX2
         have HW2 : Hid (Wrt w6 wr r5 m5 d5 L5) := by
          rw [hw6]
          exact Lib.hid (NewT.wrt HO5.out.2.2 HO5.out.1 HX2.out.chg HLOW.out)
         clear hw6 HX2
         have HN5 : Hid (∀ t ∈ L5, t.n ≤ 20) := Lib.hid fun t ht => by
          rw [← (HO5.out.1.each t ht).len]
          exact HP5.out.ok.few _ (by rw [← HO5.out.2.1]; exact List.mem_map_of_mem ht)
         have HM5 : Hid (m5 ≤ 12) := Lib.hid (by rw [← HO5.out.1.row.len, ← List.length_map (f := (·.c)), HO5.out.2.1]; exact HP5.out.ok.len)
         go_loopw [13] (fun i wx => ∃ k : Nat, k ≤ m5 ∧ i = .int .i64 (k : Int) ∧ Hid (Wrt w6 wx r5 m5 d5 L5)) (fun i _ => m5 - (Go.RowKit.intOf i).toNat)
         case atStart => exact ⟨0, Nat.zero_le _, rfl, HW2⟩
         case round =>
          obtain ⟨k, hk, rfl, HY2⟩ := hrel
          by_cases hlt : k < m5
          · have t1 : (k : Int) < m5 := by omega
            generalize ht : L5.getD k tv0 = t at *
            have HT := Lib.hid ht
            have HTI : Hid (t ∈ L5) := Lib.hid (by rw [← ht]; exact HO5.out.1.mem hlt)
            clear ht
            have hb20 := HN5.out t HTI.out
            have hj12 := HM5.out
            go_wp2_with fail
            go_loopw [14] (fun i wx => ∃ m : Nat, m ≤ t.n ∧ i = .int .i64 (m : Int) ∧ Hid (Wrt w6 wx r5 m5 d5 L5)) (fun i _ => t.n - (Go.RowKit.intOf i).toNat)
            case atStart => exact ⟨0, Nat.zero_le _, rfl, HY2⟩
            case round =>
             obtain ⟨m, hm, rfl, HY3⟩ := hrel
             obtain ⟨b, off, rfl, _, c0, c1, c2, c3, c4, c5, c6, c7⟩ := txr_cells HY3.out.row hlt
             rw [HT.out] at c5
             by_cases hlm : m < t.n
             · have t2 : (m : Int) < t.n := by omega
               obtain ⟨⟨D, hD⟩, hf⟩ := HY3.out.scr.each t HTI.out
               obtain ⟨b2, off2, hp2, _, e0, e1, e2, e3⟩ := op_cells hD hlm
               obtain ⟨cs, TT, hf2⟩ := hf (by omega) _ hp2
               have hfz := block_free (off2 + m * 4 + 3) hf2
               rw [hp2] at c5
               have HP2 := Lib.hid hp2
               go_wp2_with fail
               go_roundw
               case rel => exact ⟨m + 1, by omega, by go_num, Lib.hid (HY3.out.put hlt (by rw [HT.out]; exact HP2.out) (by rw [HT.out]; exact hlm) _)⟩
               case measure =>
                simp [Go.RowKit.intOf]
                omega
             · obtain rfl : m = t.n := by omega
               go_wp2_with fail
               go_roundw
               case rel => exact ⟨k + 1, by omega, by go_num, HY3⟩
               case measure =>
                simp [Go.RowKit.intOf]
                omega
          · obtain rfl : k = m5 := by omega
            have HP6 := Lib.hid (HP5.out.over HI.out (X := InS Lx) HX6.out.chg (fun b hb => (HLO.out b hb).1) (fun b hb => (HLO.out b hb).2.2) (fun _ a e hx => by have h1 := HRN.out a e; have h2 := (HLO.out _ hx).2.1; omega) (fun t ht h0 a e hx => by have h1 := HML.out t ht h0 a e; have h2 := (HLO.out _ hx).1; omega))
            have HP7 := Lib.hid (HP6.out.over HI.out (X := InS L5) HY2.out.chg (fun b hb => by
             obtain ⟨t, ht, h0, a, ha, e⟩ := hb
             have h1 := (HO5.out.2.2.each t ht h0 a ha).1
             have h2 := HW4.out
             omega) (fun b hb hq => by
             obtain ⟨t, ht, h0, a, ha, e⟩ := hb
             have h1 := (HO5.out.2.2.each t ht h0 a ha).1
             have h2 := HQL.out _ hq
             omega) (fun h0 a e hx => by
             obtain ⟨t, ht, h1, b, hb, e2⟩ := hx
             have h2 := (HO5.out.2.2.each t ht h1 b hb).1
             have h3 := HRL.out h0 a e
             omega) (fun t ht h0 a e hx => by
             obtain ⟨u, hu, h1, b, hb, e2⟩ := hx
             have h2 := (HO5.out.2.2.each u hu h1 b hb).1
             have h3 := HML.out t ht h0 a e
             have h4 := HW4.out
             omega))
            clear HY2 HX6 HP5 HP6 HO5 HN5 HM5 HLO HRL HQL HML HRN HW4 HLOW HFI HLN HIN HSCR HB2w HB5r HWR HW2
            obtain ⟨wc, hwc⟩ : ∃ wc, wc = wr := ⟨_, rfl⟩
            subst hwc
            have HCP := Lib.hid (HI3.out.copy wc B M0 Q HP7.out.ju (HP7.out.jok (by omega)) (by have h1 := HP7.out.ok.len; have h2 := HNB.out; omega))
            go_wp2_with fail
            refine HCP.out.mono ?_
            rintro e7 w7 ⟨B2, Q2, rfl, hj2, hq2, hb7⟩
            have HJ7 : Hid (Jn Ju wc w7 B2 M0) := Lib.hid ⟨Q2, hj2, hq2, hb7⟩
            have HOK7 : Hid (TsOk M0 (12 + 0) (1048576 + 10000 * ((0 : Nat) : Int))) := Lib.hid HP7.out.ok
            clear hj2 hq2 hb7 HCP
            have hmx : (n2 : Int) ≤ 60 := by have := HFR.out.1; omega
            go_wp2_with fail
            go_loopw [16] (fun i wx => ∃ (k : Nat) (Mk : List Tc), k ≤ n2 ∧ i = .int .i64 (k : Int) ∧ Hid (Jn Ju wc wx B2 Mk) ∧ Hid (TsOk Mk (12 + k) (1048576 + 10000 * ((k : Nat) : Int)))) (fun i _ => n2 - (Go.RowKit.intOf i).toNat)
            case atStart => exact ⟨0, M0, Nat.zero_le _, rfl, HJ7, HOK7⟩
            case round =>
             obtain ⟨k2, Mk, hk2, rfl, HJN, HOKN⟩ := hrel
             have HBW := Lib.hid (HP7.out.below.trans (HJN.out.below.mono HP7.out.below.size))
             by_cases hlt2 : k2 < n2
             · have t1 : (k2 : Int) < n2 := by omega
               obtain ⟨b, off, rfl, _, hpc⟩ := (HH.out.later HBW.out).at hlt2
               obtain ⟨La, Ta, Ma, hxk, hrm⟩ := HH.out.in hlt2
               have hsv := HFR.out.2 k2 hlt2
               generalize H.getD k2 rz = x at *
               have HPC := Lib.hid hpc
               have HAP := Lib.hid (Jn.apply HI.out (HW.out wc HP7.out.below) HJN.out (HOKN.out.mono (by omega) (by omega)) 0 (by unfold In64; omega) x La Ta Ma (hrm.later HBW.out) hxk hsv)
               have HOK := Lib.hid (HOKN.out.app (X := x.x La Ta Ma) (at_ := 0) ⟨by omega, by omega⟩ hxk (by unfold In64; omega))
               obtain ⟨⟨M', z'⟩, hap⟩ : ∃ a, appC Mk 0 (x.x La Ta Ma) = a := ⟨_, rfl⟩
               rw [hap] at HAP HOK
               dsimp only at HAP HOK
               clear hap hpc hxk hrm hsv
               go_wp2_with ((with_reducible refine wpList_load_ratT (r := x) ?_ HPC.out ?_); rfl)
               refine HAP.out.mono ?_
               rintro e8 w8 ⟨rfl, hj8⟩
               have HJ8 := Lib.hid hj8
               clear hj8 HAP
               go_wp2_with fail
               go_roundw
               case rel => exact ⟨k2 + 1, M', by omega, by go_num, HJ8, Lib.hid (HOK.out.mono (by omega) (by omega))⟩
               case measure =>
                simp [Go.RowKit.intOf]
                omega
             · obtain rfl : k2 = n2 := by omega
               have HP8 := Lib.hid (HP7.out.later HI.out HJN.out.below)
               go_wp2_with fail
               refine (jsame_any HI.out HI2.out HI5.out wr B M0 Q r m0 d L0 HP8.out.ju (HP8.out.jok (by omega)) (by have h1 := HP8.out.ok.len; have h2 := HNB.out; omega) HP8.out.rows HP8.out.is (fun t ht => by have := (HP8.out.mem t ht).2.1; omega)).mono ?_
               rintro e9 w9 ⟨rfl, hb9⟩
               have HB9 := Lib.hid (HP8.out.below.trans (hb9.mono HP8.out.below.size))
               clear hb9 HP8
               go_wp2_with fail
               refine (HWK.out _ HB9.out).mono ?_
               rintro e10 w10 ⟨rfl, hb10⟩
               have HB10 := Lib.hid (HB9.out.trans (hb10.mono HB9.out.size))
               clear hb10
               go_wp2_with fail
               go_ret
               exact ⟨rfl, HB10.out⟩
end Go.Proofs.YtccgjdmbongbaaaGreatDoor
