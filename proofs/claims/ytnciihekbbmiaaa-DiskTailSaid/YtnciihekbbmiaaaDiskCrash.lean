/- Crash. -/
import Derived.Test.YtnciihekbbmiaaaDiskSync
import Derived.Test.YtnciihekbbmiaaaDiskMake
import Derived.StillTailTactics
namespace Go.Proofs.Ytnciihekbbmiaaa
open Go.RowKit Go.ChangeShapes Go.WideShapes
set_option linter.unusedVariables false
set_option maxRecDepth 10000
set_option linter.unusedSimpArgs false

/-- The first writes of a row. -/
theorem own_take_w {w : World} {p : Option Addr} {n cp k : Nat} {PL : List Pw} (h : w.ownsRow 0 87 1 (.slice p n cp) n (flatG ew PL)) (hk : k ≤ n) : w.ownsRow 0 87 1 (.slice p k cp) k (flatG ew (PL.take k)) := by
  have hl : PL.length = n := by
    have := h.1
    rwa [flatW_len, Nat.mul_one] at this
  have ht : ∀ L : List Pw, ∀ k, flatG ew (L.take k) = (flatG ew L).take k := by
    intro L
    induction L with
    | nil => intro k; simp [flatG]
    | cons x L ih =>
      intro k
      cases k with
      | zero => simp [flatG]
      | succ k =>
        have := ih k
        unfold flatG at *
        rw [List.take_succ_cons, List.flatMap_cons, List.flatMap_cons, this]
        rfl
  refine ⟨by rw [flatW_len, List.length_take]; omega, ?_⟩
  rcases h.2 with ⟨h1, h2⟩ | ⟨g, cap, cur, h1, h2, h3, h4, h5, h6, h7⟩
  · cases h1
    obtain rfl : k = 0 := by omega
    exact .inl ⟨rfl, rfl⟩
  · cases h1
    refine .inr ⟨g, cp, cur, rfl, h2, h3, by omega, h5, h6, ?_⟩
    rw [ht, ← h7, List.take_take]
    congr 1
    omega
section
variable {w : World} {col : Nat → Nat} {c B : Nat} {d : DS} {A : Ad} {V : List (List Int)} {t : TS}
def DS.cutL (d : DS) (k : Nat) : DS := { d with L := d.L.take k }
/-- Behind the store of the first k. -/
theorem Dkh.cut_pending {Bv T Bv' T' : Nat} {p : Option Addr} {cp : Nat} (h : Dkh w col c B ⟨Bv, T, Bv', T', .slice p d.L.length cp⟩ d V t) (k : Nat) (hk : k ≤ d.L.length) :
    Dkh (w.setCell ⟨B, 5, none⟩ (.slice p k cp)) col c B ⟨Bv, T, Bv', T', .slice p k cp⟩ (d.cutL k) V t ∧ Chg (fun x => x = B) w (w.setCell ⟨B, 5, none⟩ (.slice p k cp)) := by
  have hc : Chg (fun x => x = B) w (w.setCell ⟨B, 5, none⟩ (.slice p k cp)) := (Chg.refl _ _).setCell _ _ fun _ => rfl
  obtain ⟨⟨PL, q1, q2, q3⟩, q4⟩ := h.pe
  have hl : PL.length = d.L.length := by rw [← q1, List.length_map]
  have hB := h.cB
  have h0 := h.c0
  rw [hl] at q2
  refine ⟨⟨h.c0, block_put 5 _ h.blk, h.cB, ⟨⟨PL.take k, ?_, ?_, fun y hy => (q3 y (List.mem_of_mem_take hy)).keep hc fun x hx e => by subst e; omega⟩, fun x hx => ?_⟩, h.seen.keep hc fun x hx e => by subst e; omega, h.sure.keep hc fun x hx e => by subst e; omega, h.most⟩, hc⟩
  · show (PL.take k).map (·.x) = d.L.take k
    rw [← q1, List.map_take]
  · rw [List.length_take, Nat.min_eq_left (by omega)]
    refine own_keep (own_take_w q2 hk) hc fun x hx e => ?_
    subst e
    have : (Value.slice p d.L.length cp).ownBlock = some x := by cases p <;> exact hx
    have := q4 x this
    omega
  · have : (Value.slice p d.L.length cp).ownBlock = some x := by cases p <;> exact hx
    exact q4 x this
/-- Behind Sync, all that was to be done. -/
theorem Sy.end_ {w wr : World} {col col' : Nat → Nat} {c B : Nat} {A : Ad} {d : DS} {p : Option Addr} {n cp k : Nat} {PL : List Pw} (h : Sy w wr col col' c B A d V t p n cp PL k) (hk : k = d.L.length) :
    Dkh (wr.setCell ⟨B, 5, none⟩ (.slice none 0 0)) col' c B { A with pv := .slice none 0 0 } ⟨d.M, d.a, d.z, d.s, foldV d.s d.V d.L, foldT d.z d.t d.L, []⟩ V t ∧ Chg (fun k => col k = c ∨ col k = c + 4 ∨ col k = c + 5) w (wr.setCell ⟨B, 5, none⟩ (.slice none 0 0)) := by
  subst hk
  have hc : Chg (fun k => k = B) wr (wr.setCell ⟨B, 5, none⟩ (.slice none 0 0)) := (Chg.refl _ _).setCell _ _ fun _ => rfl
  have g := h.dk
  have hB := g.cB
  have h0 := g.c0
  have hsure : Pa wr col' (c + 4) A.Bv' A.T' d.s (foldV d.s d.V (d.L.take d.L.length)) d.a d.z (foldT d.z d.t (d.L.take d.L.length)) := g.sure
  rw [List.take_length] at hsure
  refine ⟨⟨g.c0, block_put 5 _ g.blk, hB, Pe.nil _ _ _, g.seen.keep hc fun k hk e => by subst e; omega, hsure.keep hc fun k hk e => by subst e; omega, g.most⟩, (h.chg.mono (T := fun k => col k = c ∨ col k = c + 4 ∨ col k = c + 5) fun k _ h => .inr h).trans hc fun k hk e => ?_⟩
  subst e
  have := h.ext k hk
  omega
/-- What is sure was written. -/
theorem Dkh.set_sure {w' : World} {V' : List (List Int)} {t' : TS} (h : Dkh w col c B A d V t) (hw : (∃ col', Ext w col col' ∧ Pa w' col' (c + 4) A.Bv' A.T' d.s V' d.a d.z t') ∧ Chg (fun k => col k = c + 4 ∨ col k = c + 4 + 1) w w') :
    (∃ col', Ext w col col' ∧ Dkh w' col' c B A { d with V := V', t := t' } V t) ∧ Chg (own col c) w w' := by
  obtain ⟨⟨col', he, hp⟩, hc⟩ := hw
  have h0 := h.c0
  have g := h.recol he
  have hc' : Chg (fun k => col' k = c + 4 ∨ col' k = c + 4 + 1) w w' := hc.mono fun k hk h => by rw [he k hk]; exact h
  refine ⟨⟨col', he, g.c0, (hc'.block B (block_lt g.blk) (by have := g.cB; omega)).trans g.blk, g.cB, g.pe.keep hc' fun k hk => by omega, g.seen.keep hc' fun k hk => by omega, hp, g.most⟩, hc.mono fun k _ h => by unfold own; omega⟩
/-- What is seen is what is sure, anew. -/
theorem Dkh.renew {w5 : World} {b2 t2 : Nat} (h : Dkh w col c B A d V t) (hL : d.L = []) (hb : Below w.heap.size w w5) (hf : Fresh w w5 b2 t2 d.s d.V d.a d.z d.t) :
    ∃ col', Ext w col col' ∧ Dk ((w5.setCell ⟨B, 1, none⟩ (.pointer (some ⟨b2, 0, none⟩))).setCell ⟨B, 2, none⟩ (.pointer (some ⟨t2, 0, none⟩))) col' c B d ∧ Chg (own col c) w ((w5.setCell ⟨B, 1, none⟩ (.pointer (some ⟨b2, 0, none⟩))).setCell ⟨B, 2, none⟩ (.pointer (some ⟨t2, 0, none⟩))) := by
  have hc : Chg (fun k => k = B) w5 ((w5.setCell ⟨B, 1, none⟩ (.pointer (some ⟨b2, 0, none⟩))).setCell ⟨B, 2, none⟩ (.pointer (some ⟨t2, 0, none⟩))) := ((Chg.refl (fun k => k = B) w5).setCell ⟨B, 1, none⟩ _ fun _ => rfl).setCell ⟨B, 2, none⟩ _ fun _ => rfl
  obtain ⟨col', he, hp⟩ := hf col (c + 2)
  have g := (h.recol he).later hb
  have hB := g.cB
  have h0 := g.c0
  obtain ⟨Bv, T, Bv', T', pv⟩ := A
  refine ⟨col', he, ⟨⟨b2, t2, Bv', T', pv⟩, g.c0, block_put 2 _ (block_put 1 _ g.blk), hB, g.pe.keep hc fun k hk e => by subst e; omega, ?_, g.sure.keep hc fun k hk e => by subst e; omega, g.most⟩, (Chg.of_below hb).trans hc fun k hk e => ?_⟩
  · have e1 : d.sV = d.V := by unfold DS.sV; rw [hL]; rfl
    have e2 : d.sT = d.t := by unfold DS.sT; rw [hL]; rfl
    rw [e1, e2]
    exact hp.keep hc fun k hk e => by subst e; omega
  · subst e
    have := he k hk
    unfold own
    omega
end
set_option maxHeartbeats 2000000 in
/-- All that is pending is kept. -/
theorem disk_crash_all {w : World} {col : Nat → Nat} {c B : Nat} {d : DS} (h : Dk w col c B d) (hbig : d.tot ≤ 1000000) (hL : d.L.length ≤ 1000000) (keep tear : Int) (hk : kp keep d.L.length = d.L.length) :
    Calls Try.prog 18 #[.pointer (some ⟨B, 0, none⟩), .int .i64 keep, .int .i64 tear] w fun e w' => e = .returned (.tuple #[]) ∧ Turned w col c B (d.crash keep tear) w' := by
  obtain ⟨⟨Bv, T, Bv', T', pv⟩, h⟩ := h
  obtain ⟨p, cp, PL, hp, hPL, hsl, hok, hat⟩ := h.pe.sl
  simp only at hp
  subst hp
  have hcap := hsl.cap
  have hd : d.crash keep tear = ⟨d.M, d.a, d.z, d.s, foldV d.s d.V d.L, foldT d.z d.t d.L, []⟩ := by
    unfold DS.crash crV crT
    rw [hk, List.drop_length, List.take_length]
  have HD := Lib.hid hd
  generalize d.crash keep tear = D at *
  have c5 : w.cell? ⟨B, 5, none⟩ = some (.slice p d.L.length cp) := block_cell h.blk rfl
  have g5 := block_free 5 h.blk
  have HK := Lib.hid fun w => disk_kept keep (d.L.length : Nat) w (by omega)
  rw [hk] at HK
  obtain ⟨hcut, hcc⟩ := h.half.cut_pending d.L.length (Nat.le_refl _)
  have hcl : d.cutL d.L.length = d := by unfold DS.cutL; rw [List.take_length]
  rw [hcl] at hcut
  have hsy := disk_sync_h hcut hbig hL
  have HC := Lib.hid hcc
  have HH := Lib.hid h
  clear hd hk hPL hsl hok hat h hcut hcc hcl
  generalize hn : d.L.length = n at *
  have HN := Lib.hid hn
  clear hn
  by_cases hcn : cp = n
  · subst hcn
    go_enter Try.func18, Try.ntmps18
    go_wp2_with fail
    refine (HK.out _).mono ?_
    rintro e w1 ⟨rfl, rfl⟩
    go_wp2_with fail
    refine hsy.mono ?_
    rintro e w2 ⟨rfl, col', wr, p1, n1, cp1, PL1, hs, hw2⟩
    obtain ⟨hd3, hc3⟩ := hs.end_ HN.out.symm
    have HE := Lib.hid hs.ext
    rw [← hw2] at hd3 hc3
    have hz := hd3.seen.z_in
    have hbo := both_any hd3.sure (by have h1 := foldT_len (z := d.z) (by have : 64 ≤ d.z := hz.1; omega) d.L d.t; unfold DS.tot at hbig; exact Nat.le_trans h1 hbig)
    have b3 : w2.cell? ⟨B, 3, none⟩ = some (.pointer (some ⟨Bv', 0, none⟩)) := block_cell hd3.blk rfl
    have b4 : w2.cell? ⟨B, 4, none⟩ = some (.pointer (some ⟨T', 0, none⟩)) := block_cell hd3.blk rfl
    have HD3 := Lib.hid hd3
    have HC3 := Lib.hid hc3
    clear hd3 hc3 hs hw2 hsy hz
    go_wp2_with fail
    refine hbo.mono ?_
    rintro e w5 ⟨b2, t2, rfl, hf5, hb5⟩
    obtain ⟨col6, he6, hd6, hc6⟩ := HD3.out.renew rfl hb5 hf5
    have hblk5 := block_later HD3.out.blk hb5
    have x1 := block_cell (j := 1) hblk5 (v := .pointer (some ⟨Bv, 0, none⟩)) rfl
    have x2 := block_cell (j := 2) hblk5 (v := .pointer (some ⟨T, 0, none⟩)) rfl
    have y1 := block_free 1 hblk5
    have y2 := block_free 2 hblk5
    have HX : Hid (Turned w1 col c B D ((w5.setCell ⟨B, 1, none⟩ (.pointer (some ⟨b2, 0, none⟩))).setCell ⟨B, 2, none⟩ (.pointer (some ⟨t2, 0, none⟩)))) := Lib.hid (by
      have s1 := HC.out.size
      have s3 := HC3.out.size
      have e1 : Ext w1 col col' := fun k hk => HE.out k (Nat.lt_of_lt_of_le hk s1)
      rw [HD.out]
      have h0 := HH.out.c0
      have hB := HH.out.cB
      refine ⟨col6, e1.trans he6 (Nat.le_trans s1 s3), hd6, ((HC.out.mono (T := own col c) fun k _ e => ?_).trans HC3.out fun k _ h => ?_).trans hc6 fun k hk h => ?_⟩
      · subst e; unfold own; omega
      · unfold own; omega
      · unfold own at *
        rwa [e1 k hk] at h)
    clear hf5 hb5 he6 hd6 hc6 hblk5 hbo
    go_wp2_with fail
    go_end0
    exact ⟨rfl, HX.out⟩
  · go_enter Try.func18, Try.ntmps18
    go_wp2_with fail
    refine (HK.out _).mono ?_
    rintro e w1 ⟨rfl, rfl⟩
    go_wp2_with fail
    refine hsy.mono ?_
    rintro e w2 ⟨rfl, col', wr, p1, n1, cp1, PL1, hs, hw2⟩
    obtain ⟨hd3, hc3⟩ := hs.end_ HN.out.symm
    have HE := Lib.hid hs.ext
    rw [← hw2] at hd3 hc3
    have hz := hd3.seen.z_in
    have hbo := both_any hd3.sure (by have h1 := foldT_len (z := d.z) (by have : 64 ≤ d.z := hz.1; omega) d.L d.t; unfold DS.tot at hbig; exact Nat.le_trans h1 hbig)
    have b3 : w2.cell? ⟨B, 3, none⟩ = some (.pointer (some ⟨Bv', 0, none⟩)) := block_cell hd3.blk rfl
    have b4 : w2.cell? ⟨B, 4, none⟩ = some (.pointer (some ⟨T', 0, none⟩)) := block_cell hd3.blk rfl
    have HD3 := Lib.hid hd3
    have HC3 := Lib.hid hc3
    clear hd3 hc3 hs hw2 hsy hz
    go_wp2_with fail
    refine hbo.mono ?_
    rintro e w5 ⟨b2, t2, rfl, hf5, hb5⟩
    obtain ⟨col6, he6, hd6, hc6⟩ := HD3.out.renew rfl hb5 hf5
    have hblk5 := block_later HD3.out.blk hb5
    have x1 := block_cell (j := 1) hblk5 (v := .pointer (some ⟨Bv, 0, none⟩)) rfl
    have x2 := block_cell (j := 2) hblk5 (v := .pointer (some ⟨T, 0, none⟩)) rfl
    have y1 := block_free 1 hblk5
    have y2 := block_free 2 hblk5
    have HX : Hid (Turned w1 col c B D ((w5.setCell ⟨B, 1, none⟩ (.pointer (some ⟨b2, 0, none⟩))).setCell ⟨B, 2, none⟩ (.pointer (some ⟨t2, 0, none⟩)))) := Lib.hid (by
      have s1 := HC.out.size
      have s3 := HC3.out.size
      have e1 : Ext w1 col col' := fun k hk => HE.out k (Nat.lt_of_lt_of_le hk s1)
      rw [HD.out]
      have h0 := HH.out.c0
      have hB := HH.out.cB
      refine ⟨col6, e1.trans he6 (Nat.le_trans s1 s3), hd6, ((HC.out.mono (T := own col c) fun k _ e => ?_).trans HC3.out fun k _ h => ?_).trans hc6 fun k hk h => ?_⟩
      · subst e; unfold own; omega
      · unfold own; omega
      · unfold own at *
        rwa [e1 k hk] at h)
    clear hf5 hb5 he6 hd6 hc6 hblk5 hbo
    go_wp2_with fail
    go_end0
    exact ⟨rfl, HX.out⟩
theorem cutL_tot (d : DS) (k : Nat) : (d.cutL k).tot ≤ d.tot := by
  have := wts_take_drop d.L k
  show d.t.len d.z + wts (d.L.take k) ≤ d.t.len d.z + wts d.L
  omega
set_option maxHeartbeats 2000000 in
/-- Something is lost. -/
theorem disk_crash_some {w : World} {col : Nat → Nat} {c B : Nat} {d : DS} (h : Dk w col c B d) (hbig : d.tot ≤ 1000000) (hL : d.L.length ≤ 1000000) (keep tear : Int) (k : Nat) (hk : kp keep d.L.length = k) (hkn : k < d.L.length) :
    Calls Try.prog 18 #[.pointer (some ⟨B, 0, none⟩), .int .i64 keep, .int .i64 tear] w fun e w' => e = .returned (.tuple #[]) ∧ Turned w col c B (d.crash keep tear) w' := by
  obtain ⟨⟨Bv, T, Bv', T', pv⟩, h⟩ := h
  obtain ⟨p, cp, PL, hp, hPL, hsl, hok, hat⟩ := h.pe.sl
  simp only at hp
  subst hp
  have hcap := hsl.cap
  have hlen : PL.length = d.L.length := hsl.len
  obtain ⟨b, off, hp, hbl, hcell⟩ := SlW_at hsl hkn
  subst hp
  have hbc : col b = c + 1 := hat (by omega) _ rfl
  have hLk : d.L[k]? = some (PL.getD k yd).x := by
    rw [← hPL, List.getElem?_map, List.getD, List.getElem?_eq_getElem (by omega)]
    rfl
  have hmem : PL.getD k yd ∈ PL := by
    rw [List.getD, List.getElem?_eq_getElem (by omega)]
    exact List.getElem_mem _
  have hoky := hok _ hmem
  have hd : d.crash keep tear = ⟨d.M, d.a, d.z, d.s, dwVn d.s tear (foldV d.s d.V (d.L.take k)) (PL.getD k yd).x, dwTn tear (foldT d.z d.t (d.L.take k)) (PL.getD k yd).x, []⟩ := by
    have hdr : d.L.drop k = (PL.getD k yd).x :: d.L.drop (k + 1) := by
      rw [List.drop_eq_getElem_cons hkn]
      congr 1
      rw [List.getElem?_eq_getElem hkn] at hLk
      exact Option.some.inj hLk
    unfold DS.crash crV crT
    rw [hk, hdr]
  have hwt : (foldT d.z d.t (d.L.take k)).len d.z + (PL.getD k yd).x.wt ≤ 1000000 := by
    have hz := h.seen.z_in
    have h1 := foldT_len (z := d.z) (by omega) (d.L.take k) d.t
    have h2 := wts_take_drop d.L (k + 1)
    rw [List.take_add_one, hLk] at h2
    simp only [Option.toList_some] at h2
    rw [wts_snoc] at h2
    unfold DS.tot at hbig
    omega
  generalize PL.getD k yd = y at *
  have HD := Lib.hid hd
  generalize d.crash keep tear = D at *
  have c5 : w.cell? ⟨B, 5, none⟩ = some (.slice (some ⟨b, off, none⟩) d.L.length cp) := block_cell h.blk rfl
  have g5 := block_free 5 h.blk
  have HK := Lib.hid fun w => disk_kept keep (d.L.length : Nat) w (by omega)
  rw [hk] at HK
  obtain ⟨hcut, hcc⟩ := h.half.cut_pending k (by omega)
  have hlk : k = (d.cutL k).L.length := by show k = (d.L.take k).length; rw [List.length_take]; omega
  have hsy := disk_sync_h hcut (Nat.le_trans (cutL_tot d k) hbig) (by rw [← hlk]; omega)
  rw [← hlk] at hsy
  have HC := Lib.hid hcc
  have HH := Lib.hid h
  have HLK := Lib.hid hlk
  have HOK := Lib.hid hoky
  have HCELL := Lib.hid hcell
  have HBL := Lib.hid hbl
  have HBC := Lib.hid hbc
  have HWT := Lib.hid hwt
  have hne : ¬ cp = k := by omega
  have hk1 : (k : Int) ≤ (d.L.length : Int) := by omega
  have hk2 : (k : Int) ≤ (cp : Int) := by omega
  have hk3 : ¬ (d.L.length : Int) ≤ (k : Int) := by omega
  have hk4 : k ≤ d.L.length := by omega
  have hk5 : k ≤ cp := by omega
  obtain ⟨m, hm⟩ : ∃ m, d.L.length - k = m := ⟨_, rfl⟩
  have hm0 : 0 < m := by omega
  have hm1 : (0 : Int) < (m : Int) := by omega
  have hm2 : decide ((0 : Int) < (m : Int)) = true := decide_eq_true hm1
  clear hd hk hPL hsl hok hat h hcut hcc hlk hoky hcell hbl hbc hwt hLk hmem hlen hkn
  generalize hn : d.L.length = n at *
  have HN := Lib.hid hn
  clear hn
  go_enter Try.func18, Try.ntmps18
  go_wp2_with fail
  refine (HK.out _).mono ?_
  rintro e w1 ⟨rfl, rfl⟩
  go_wp2_with fail
  refine hsy.mono ?_
  rintro e w2 ⟨rfl, col', wr, p1, n1, cp1, PL1, hs, hw2⟩
  obtain ⟨hd3, hc3⟩ := hs.end_ HLK.out
  have hext := hs.ext
  rw [← hw2] at hd3 hc3
  have s1 := HC.out.size
  have hb12 : w2.heap[b]? = w1.heap[b]? := (hc3.block b (Nat.lt_of_lt_of_le HBL.out s1) (by have := HBC.out; omega)).trans (HC.out.block b HBL.out (by have h1 := HBC.out; have h2 := HH.out.cB; rintro rfl; have h3 : col b = c := h2; omega))
  have he1 : Ext w1 col col' := fun x hx => hext x (Nat.lt_of_lt_of_le hx s1)
  have hoky2 : y.ok w2 col' := by
    have hB := HH.out.cB
    have h0 := HH.out.c0
    have g := (HOK.out.keep HC.out fun x hx e => by subst e; omega).keep hc3 fun x hx e => by omega
    refine ⟨g.bl, fun h0 a ha => ?_⟩
    obtain ⟨b', off', hp', hlt', _⟩ := BL.at HOK.out.bl h0
    rw [hp'] at ha
    cases ha
    rw [he1 b' hlt']
    exact HOK.out.c0 h0 _ hp'
  have hcell2 : w2.cell? ⟨b, off + k, none⟩ = some (.iface (wty y.x) (wval y)) := by
    rw [← Pw.val_eq]
    exact (World.cell?_of_block (a := ⟨b, off + k, none⟩) hb12).trans HCELL.out
  have b3 : w2.cell? ⟨B, 3, none⟩ = some (.pointer (some ⟨Bv', 0, none⟩)) := block_cell hd3.blk rfl
  have b4 : w2.cell? ⟨B, 4, none⟩ = some (.pointer (some ⟨T', 0, none⟩)) := block_cell hd3.blk rfl
  have HT : Hid (∀ q, Calls Try.prog (tornF y.x) #[wval y, .agg #[.pointer (some ⟨Bv', 0, none⟩), .pointer (some ⟨T', 0, none⟩)], .int .i64 tear] (w2.drewN q) (Wrote w2 col' (c + 4) Bv' T' d.s (dwVn d.s tear (foldV d.s d.V (d.L.take k)) y.x) d.a d.z (dwTn tear (foldT d.z d.t (d.L.take k)) y.x))) := Lib.hid fun q => by
    have hbq := below_drewN (Below.refl w2.heap.size w2) q
    refine (torn_any (hd3.sure.later hbq) (by have := hd3.c0; omega) y (hoky2.keep (Chg.of_below (S := fun _ => False) hbq) fun _ _ h => h) HWT.out tear).mono ?_
    rintro e w' ⟨h1, h2, h3⟩
    exact ⟨h1, h2, h3.undrew⟩
  have HD3 := Lib.hid hd3
  have HC3 := Lib.hid hc3
  have HE := Lib.hid he1
  clear hd3 hc3 hs hw2 hsy hext he1 hoky2 hb12
  have hme := torn_meth y
  have hen := torn_enter y.x
  go_wp2_with fail
  go_region_law (first | (go_simp; refine (HT.out _).mono ?_; rintro e w4 ⟨rfl, hw4, hc4⟩))
  all_goals
    obtain ⟨⟨col4, he4, hd4⟩, hc4'⟩ := HD3.out.set_sure ⟨hw4, hc4⟩
    have hbo := both_any hd4.sure (Nat.le_trans (dwTn_len _ _ _ _) HWT.out)
    have b3' : w4.cell? ⟨B, 3, none⟩ = some (.pointer (some ⟨Bv', 0, none⟩)) := block_cell hd4.blk rfl
    have b4' : w4.cell? ⟨B, 4, none⟩ = some (.pointer (some ⟨T', 0, none⟩)) := block_cell hd4.blk rfl
    have HD4 := Lib.hid hd4
    have HC4 := Lib.hid hc4'
    have HE4 := Lib.hid he4
    clear hd4 hc4 hc4' hw4 he4
    go_wp2_with fail
    refine hbo.mono ?_
    rintro e w5 ⟨b2, t2, rfl, hf5, hb5⟩
    obtain ⟨col6, he6, hd6, hc6⟩ := HD4.out.renew rfl hb5 hf5
    have hblk5 := block_later HD4.out.blk hb5
    have x1 := block_cell (j := 1) hblk5 (v := .pointer (some ⟨Bv, 0, none⟩)) rfl
    have x2 := block_cell (j := 2) hblk5 (v := .pointer (some ⟨T, 0, none⟩)) rfl
    have y1 := block_free 1 hblk5
    have y2 := block_free 2 hblk5
    have HX : Hid (Turned w1 col c B D ((w5.setCell ⟨B, 1, none⟩ (.pointer (some ⟨b2, 0, none⟩))).setCell ⟨B, 2, none⟩ (.pointer (some ⟨t2, 0, none⟩)))) := Lib.hid (by
      have s3 := HC3.out.size
      have s4 := HC4.out.size
      have e14 : Ext w1 col col4 := HE.out.trans HE4.out (Nat.le_trans s1 s3)
      rw [HD.out]
      have h0 := HH.out.c0
      have hB := HH.out.cB
      refine ⟨col6, e14.trans he6 (Nat.le_trans s1 (Nat.le_trans s3 s4)), hd6, (((HC.out.mono (T := own col c) fun k _ e => ?_).trans HC3.out fun k _ h => ?_).trans HC4.out fun k hk h => ?_).trans hc6 fun k hk h => ?_⟩
      · subst e; unfold own; omega
      · unfold own; omega
      · unfold own at *
        rwa [HE.out k hk] at h
      · unfold own at *
        rwa [e14 k hk] at h)
    clear hf5 hb5 he6 hd6 hc6 hblk5 hbo
    go_wp2_with fail
    go_end0
    exact ⟨rfl, HX.out⟩
theorem disk_crash {w : World} {col : Nat → Nat} {c B : Nat} {d : DS} (h : Dk w col c B d) (hbig : d.tot ≤ 1000000) (hL : d.L.length ≤ 1000000) (keep tear : Int) :
    Calls Try.prog 18 #[.pointer (some ⟨B, 0, none⟩), .int .i64 keep, .int .i64 tear] w fun e w' => e = .returned (.tuple #[]) ∧ Turned w col c B (d.crash keep tear) w' := by
  have h1 := kp_le keep (d.L.length : Nat) (by omega)
  rcases Nat.lt_or_ge (kp keep d.L.length) d.L.length with h2 | h2
  · exact disk_crash_some h hbig hL keep tear _ rfl h2
  · exact disk_crash_all h hbig hL keep tear (by omega)
theorem disk_crash0 (x y : Int) (w : World) : Calls Try.prog 18 #[.pointer none, .int .i64 x, .int .i64 y] w fun e w' => e = .returned (.tuple #[]) ∧ w' = w := by
  go_enter Try.func18, Try.ntmps18
  go_wp2_with fail
  refine bodyPost_ret (results_none rfl _ _ _) rfl ?_
  exact ⟨rfl, rfl⟩
end Go.Proofs.Ytnciihekbbmiaaa
