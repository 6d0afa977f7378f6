/- Sync. -/
import Derived.Test.YtnciihekbbmiaaaDiskActs
import Derived.LoopTactic
import Derived.Deep.RegionLaw
namespace Go.Proofs.Ytnciihekbbmiaaa
open Go.RowKit Go.ChangeShapes Go.WideShapes
set_option linter.unusedVariables false
set_option maxRecDepth 10000
set_option linter.unusedSimpArgs false

/-- The first j writes are sure. -/
def DS.part (d : DS) (j : Nat) : DS := { d with V := foldV d.s d.V (d.L.take j), t := foldT d.z d.t (d.L.take j) }
structure Sy (w wr : World) (col col' : Nat → Nat) (c B : Nat) (A : Ad) (d : DS) (V : List (List Int)) (t : TS) (p : Option Addr) (n cp : Nat) (PL : List Pw) (j : Nat) : Prop where
  ext : Ext w col col'
  dk : Dkh wr col' c B A (d.part j) V t
  sl : SlG ew 1 yd wr p n cp PL
  at_ : 0 < n → ∀ a, p = some a → col' a.block = c + 1
  ok : ∀ y ∈ PL, y.ok wr col'
  len : PL.map (·.x) = d.L
  chg : Chg (fun k => col k = c + 4 ∨ col k = c + 5) w wr
theorem Sy.start {w : World} {col : Nat → Nat} {c B : Nat} {A : Ad} {d : DS} {V : List (List Int)} {t : TS} {p : Option Addr} {cp : Nat} {PL : List Pw} (h : Dkh w col c B A d V t) (hsl : SlG ew 1 yd w p d.L.length cp PL) (hat : 0 < d.L.length → ∀ a, p = some a → col a.block = c + 1) (hok : ∀ y ∈ PL, y.ok w col) (hl : PL.map (·.x) = d.L) : Sy w w col col c B A d V t p d.L.length cp PL 0 :=
  ⟨Ext.refl _ _, h, hsl, hat, hok, hl, Chg.refl _ _⟩
theorem Sy.drewN {w wr : World} {col col' : Nat → Nat} {c B : Nat} {A : Ad} {d : DS} {V : List (List Int)} {t : TS} {p : Option Addr} {n cp : Nat} {PL : List Pw} {j : Nat} (h : Sy w wr col col' c B A d V t p n cp PL j) (q : Nat) : Sy w (wr.drewN q) col col' c B A d V t p n cp PL j :=
  have hb := below_drewN (Below.refl wr.heap.size wr) q
  ⟨h.ext, h.dk.later hb, SlG.later h.sl hb, h.at_, fun y hy => (h.ok y hy).keep (Chg.of_below (S := fun _ => False) hb) fun _ _ h => h, h.len, h.chg.drewN q⟩
/-- The next write: what it is, and what it leaves. -/
theorem Sy.next {w wr : World} {col col' : Nat → Nat} {c B : Nat} {A : Ad} {d : DS} {V : List (List Int)} {t : TS} {p : Option Addr} {n cp : Nat} {PL : List Pw} {j : Nat} (h : Sy w wr col col' c B A d V t p n cp PL j) (hj : j < n) (hbig : d.tot ≤ 1000000) :
    ∃ y b off, p = some ⟨b, off, none⟩ ∧ wr.cell? ⟨b, off + j, none⟩ = some (.iface (wty y.x) (wval y)) ∧
      (∀ q, Calls Try.prog (wholeF y.x) #[wval y, .agg #[.pointer (some ⟨A.Bv', 0, none⟩), .pointer (some ⟨A.T', 0, none⟩)]] (wr.drewN q) fun e w' => e = .returned (.tuple #[]) ∧ ∃ col'', Sy w w' col col'' c B A d V t p n cp PL (j + 1)) := by
  obtain ⟨b, off, hp, hlt, hc⟩ := SlW_at h.sl hj
  have hl : PL.length = n := h.sl.len
  have hmem : PL.getD j yd ∈ PL := by
    rw [List.getD, List.getElem?_eq_getElem (by omega)]
    exact List.getElem_mem _
  have htake : d.L.take (j + 1) = d.L.take j ++ [(PL.getD j yd).x] := by
    have e : d.L[j]? = some (PL.getD j yd).x := by
      rw [← h.len, List.getElem?_map, List.getD, List.getElem?_eq_getElem (by omega)]
      rfl
    rw [List.take_add_one, e]
    rfl
  have hz := h.dk.seen.z_in
  have hz' : 64 ≤ d.z := hz.1
  have hw1 : (foldT d.z d.t (d.L.take j)).len d.z ≤ d.t.len d.z + wts (d.L.take j) := foldT_len (by omega) _ _
  have hw2 := wts_take_drop d.L (j + 1)
  rw [htake, wts_snoc] at hw2
  refine ⟨PL.getD j yd, b, off, hp, by rw [← Pw.val_eq]; exact hc, fun q => ?_⟩
  replace h := h.drewN q
  generalize wr.drewN q = wr at *
  have hsure : Pa wr col' (c + 4) A.Bv' A.T' d.s (foldV d.s d.V (d.L.take j)) d.a d.z (foldT d.z d.t (d.L.take j)) := h.dk.sure
  have h0 := h.dk.c0
  refine (whole_any hsure (by omega) _ (h.ok _ hmem) (by unfold DS.tot at hbig; omega)).mono ?_
  rintro e w' ⟨rfl, ⟨col'', he, hp'⟩, hch⟩
  have hch' : Chg (fun k => col'' k = c + 4 ∨ col'' k = c + 4 + 1) wr w' := hch.mono fun k hk h => by rw [he k hk]; exact h
  have g := h.dk.recol he
  refine ⟨rfl, col'', h.ext.trans he h.chg.size, ⟨g.c0, (hch'.block B (block_lt g.blk) (by have := g.cB; omega)).trans g.blk, g.cB, g.pe.keep hch' fun k hk => by omega, g.seen.keep hch' fun k hk => by omega, ?_, g.most⟩, ?_, ?_, ?_, h.len, ?_⟩
  · show Pa w' col'' (c + 4) A.Bv' A.T' d.s (foldV d.s d.V (d.L.take (j + 1))) d.a d.z (foldT d.z d.t (d.L.take (j + 1)))
    rw [htake, foldV_snoc, foldT_snoc]
    exact hp'
  · refine SlG.turn h.sl hch.size fun hn a ha hl => hch.block _ hl ?_
    have := h.at_ hn a ha
    omega
  · intro hn a ha
    obtain ⟨b2, off2, hp2, hlt2, _⟩ := h.sl.cell hn
    rw [hp2] at ha
    cases ha
    rw [he b2 hlt2]
    exact h.at_ hn _ hp2
  · exact fun y hy => ((h.ok y hy).recol he).keep hch' fun k hk => by omega
  · refine h.chg.trans hch fun k hk h2 => ?_
    have e1 := h.ext k hk
    rw [e1] at h2
    omega
/-- All are sure. -/
theorem Sy.done {w wr : World} {col col' : Nat → Nat} {c B : Nat} {A : Ad} {d : DS} {p : Option Addr} {n cp : Nat} {PL : List Pw} (h : Sy w wr col col' c B A d d.sV d.sT p n cp PL d.L.length) : Turned w col c B d.sync (wr.setCell ⟨B, 5, none⟩ (.slice none 0 0)) := by
  have hc : Chg (fun k => k = B) wr (wr.setCell ⟨B, 5, none⟩ (.slice none 0 0)) := (Chg.refl _ _).setCell _ _ fun _ => rfl
  have g := h.dk
  have hB := g.cB
  have h0 := g.c0
  refine ⟨col', h.ext, ⟨{ A with pv := .slice none 0 0 }, g.c0, block_put 5 _ g.blk, hB, Pe.nil _ _ _, ?_, ?_, g.most⟩, (h.chg.mono (T := own col c) fun k _ h => by unfold own; omega).trans hc fun k hk e => ?_⟩
  · exact g.seen.keep hc fun k hk e => by subst e; omega
  · have hsure : Pa wr col' (c + 4) A.Bv' A.T' d.s (foldV d.s d.V (d.L.take d.L.length)) d.a d.z (foldT d.z d.t (d.L.take d.L.length)) := g.sure
    rw [List.take_length] at hsure
    exact hsure.keep hc fun k hk e => by subst e; omega
  · subst e
    have := h.ext k hk
    unfold own
    omega
set_option maxHeartbeats 1000000 in
theorem disk_sync_h {w : World} {col : Nat → Nat} {c B : Nat} {A : Ad} {d : DS} {V : List (List Int)} {t : TS} (h : Dkh w col c B A d V t) (hbig : d.tot ≤ 1000000) (hL : d.L.length ≤ 1000000) :
    Calls Try.prog 17 #[.pointer (some ⟨B, 0, none⟩)] w fun e w' => e = .returned (.tuple #[]) ∧ ∃ col' wr p n cp PL, Sy w wr col col' c B A d V t p n cp PL d.L.length ∧ w' = wr.setCell ⟨B, 5, none⟩ (.slice none 0 0) := by
  obtain ⟨Bv, T, Bv', T', pv⟩ := A
  obtain ⟨p, cp, PL, hp, hPL, hsl, hok, hat⟩ := h.pe.sl
  simp only at hp
  subst hp
  have c5 : w.cell? ⟨B, 5, none⟩ = some (.slice p d.L.length cp) := block_cell h.blk rfl
  have HS := Lib.hid (Sy.start h hsl hat hok hPL)
  have hcap := hsl.cap
  have hmax := hsl.max
  clear hsl hok hat hPL h
  generalize hn : d.L.length = n at *
  have HN := Lib.hid hn
  clear hn
  go_enter Try.func17, Try.ntmps17
  go_wp2_with fail
  go_loopw [3, 11] (fun x i wr => ∃ (j : Nat) (col' : Nat → Nat) (x0 : Value), j ≤ n ∧ x = x0 ∧ i = .int .i64 (j : Nat) ∧ Hid (Sy w wr col col' c B ⟨Bv, T, Bv', T', .slice p n cp⟩ d V t p n cp PL j)) (fun _ i _ => n - (intOf i).toNat)
  case atStart => exact ⟨0, col, _, Nat.zero_le _, rfl, rfl, HS⟩
  case round =>
    obtain ⟨j, col', x0, hj, rfl, rfl, HF⟩ := hrel
    have b3 : wr.cell? ⟨B, 3, none⟩ = some (.pointer (some ⟨Bv', 0, none⟩)) := block_cell HF.out.dk.blk rfl
    have b4 : wr.cell? ⟨B, 4, none⟩ = some (.pointer (some ⟨T', 0, none⟩)) := block_cell HF.out.dk.blk rfl
    have b5 : wr.cell? ⟨B, 5, none⟩ = some (.slice p n cp) := block_cell HF.out.dk.blk rfl
    have g5 := block_free 5 HF.out.dk.blk
    by_cases hlt : j < n
    · have hlt' : (j : Int) < n := by omega
      obtain ⟨y, b, off, hpe, hcell, hcall⟩ := HF.out.next hlt hbig
      subst hpe
      have HCALL := Lib.hid hcall
      clear hcall
      have hah := whole_ahead y
      have hme := whole_meth y
      have hen := whole_enter y.x
      go_wp2_with fail
      go_region_law (first | (go_simp; refine (HCALL.out _).mono ?_; rintro e w2 ⟨rfl, col2, hsy⟩))
      all_goals
        have HSY := Lib.hid hsy
        clear hsy
        go_wp2_with fail
        go_roundw
        case rel => exact ⟨j + 1, col2, _, by omega, rfl, by go_num, HSY⟩
        case measure => simp [intOf]; omega
    · obtain rfl : n = j := by omega
      have hnn := HN.out
      go_wp2_with fail
      go_end0
      exact ⟨rfl, col', wr, p, n, cp, PL, HF.out, rfl⟩
theorem disk_sync {w : World} {col : Nat → Nat} {c B : Nat} {d : DS} (h : Dk w col c B d) (hbig : d.tot ≤ 1000000) (hL : d.L.length ≤ 1000000) :
    Calls Try.prog 17 #[.pointer (some ⟨B, 0, none⟩)] w fun e w' => e = .returned (.tuple #[]) ∧ Turned w col c B d.sync w' := by
  obtain ⟨A, h⟩ := h
  refine (disk_sync_h h.half hbig hL).mono ?_
  rintro e w' ⟨rfl, col', wr, p, n, cp, PL, hs, rfl⟩
  exact ⟨rfl, hs.done⟩
theorem disk_sync0 (w : World) : Calls Try.prog 17 #[.pointer none] w fun e w' => e = .returned (.tuple #[]) ∧ w' = w := by
  go_enter Try.func17, Try.ntmps17
  go_wp2_with fail
  refine bodyPost_ret (results_none rfl _ _ _) rfl ?_
  exact ⟨rfl, rfl⟩
end Go.Proofs.Ytnciihekbbmiaaa
