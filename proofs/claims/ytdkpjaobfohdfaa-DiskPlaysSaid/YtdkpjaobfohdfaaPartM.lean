/- Copies of both parts; New; Copy. -/
/- Copy. -/
import Derived.Test.YtdkpjaobfohdfaaDiskLeaf
import Derived.Test.YtdkpjaobfohdfaaDiskRow
import Derived.Deep.RegionLaw
import Derived.Deep.RegionHeld3
namespace Go.Proofs.Ytdkpjaobfohdfaa
open Go.RowKit Go.ChangeShapes Go.WideShapes
set_option linter.unusedVariables false
set_option maxRecDepth 10000
set_option linter.unusedSimpArgs false

theorem parts_two (w : World) (x y : Value) : ((w.alloc (.cells #[x, y] 55)).alloc (.cells #[.pointer none, .pointer none] 55)).heap[w.heap.size]? = some (.cells #[x, y] 55 (0, 0)) ∧
    ((w.alloc (.cells #[x, y] 55)).alloc (.cells #[.pointer none, .pointer none] 55)).heap[w.heap.size + 1]? = some (.cells #[.pointer none, .pointer none] 55 (0, 0)) ∧
    Below w.heap.size w ((w.alloc (.cells #[x, y] 55)).alloc (.cells #[.pointer none, .pointer none] 55)) := by
  have hs : (w.alloc (.cells #[x, y] 55)).heap.size = w.heap.size + 1 := by simp
  have h2 := alloc_block (w.alloc (.cells #[x, y] 55)) (.cells #[.pointer none, .pointer none] 55)
  rw [hs] at h2
  exact ⟨block_later (alloc_block w _) ((Below.refl _ _).alloc (Nat.le_refl _) _), h2, ((Below.refl _ _).alloc (Nat.le_refl _) _).alloc (by omega) _⟩
/-- A volume and a tape that the call made, whatever their colours are to be. -/
def Fresh (w w' : World) (Bv T s : Nat) (V : List (List Int)) (a : Int) (z : Nat) (t : TS) : Prop := ∀ col c, ∃ col', Ext w col col' ∧ Pa w' col' c Bv T s V a z t
theorem Fresh.of {w w' : World} {Bv G T s m : Nat} {mb : Option Nat} {V : List (List Int)} {a : Int} {z : Nat} {t : TS} (hv : Vo w' Bv G s V) (hB : w.heap.size ≤ Bv ∧ Bv < m) (hG : w.heap.size ≤ G ∧ G < m) (ht : Tp w' T mb (fun k => m ≤ k) a z t) : Fresh w w' Bv T s V a z t := by
  intro col c
  refine ⟨paint (paint col w.heap.size c) m (c + 1), fun k hk => ?_, ⟨G, hv, ?_⟩, ?_, mb, ht.mono fun k hk hl => paint_new hk⟩
  · rw [paint_old (by omega), paint_old hk]
  · rw [paint_old hG.2, paint_new hG.1]
  · rw [paint_old hB.2, paint_new hB.1]
theorem Fresh.later {w w' w1 : World} {Bv T s : Nat} {V : List (List Int)} {a : Int} {z : Nat} {t : TS} (h : Fresh w w' Bv T s V a z t) (hb : Below w'.heap.size w' w1) : Fresh w w1 Bv T s V a z t := fun col c => by
  obtain ⟨col', h1, h2⟩ := h col c
  exact ⟨col', h1, h2.later hb⟩
theorem both_any {w : World} {col : Nat → Nat} {c Bv T s z : Nat} {V : List (List Int)} {a : Int} {t : TS} (h : Pa w col c Bv T s V a z t) (hbig : t.len z ≤ 1000000) :
    Calls Try.prog 19 #[.agg #[.pointer (some ⟨Bv, 0, none⟩), .pointer (some ⟨T, 0, none⟩)]] w fun e w' => ∃ Bv' T', e = .returned (.agg #[.pointer (some ⟨Bv', 0, none⟩), .pointer (some ⟨T', 0, none⟩)]) ∧ Fresh w w' Bv' T' s V a z t ∧ Below w.heap.size w w' := by
  obtain ⟨h0, h1, hb⟩ := parts_two w (.pointer (some ⟨Bv, 0, none⟩)) (.pointer (some ⟨T, 0, none⟩))
  have H0 := Lib.hid h0
  have H1 := Lib.hid h1
  have HB := Lib.hid hb
  have H := Lib.hid h
  clear h h0 h1 hb
  go_enter Try.func19, Try.ntmps19
  go_wp2_with fail
  generalize hW : (w.alloc (.cells #[.pointer (some ⟨Bv, 0, none⟩), .pointer (some ⟨T, 0, none⟩)] 55)).alloc (.cells #[.pointer none, .pointer none] 55) = W at *
  clear hW
  have a0 := block_cell (j := 0) H0.out (v := .pointer (some ⟨Bv, 0, none⟩)) rfl
  have a1 := block_cell (j := 1) H0.out (v := .pointer (some ⟨T, 0, none⟩)) rfl
  have HV : Hid (∀ k, Calls Try.prog 43 #[.pointer (some ⟨Bv, 0, none⟩)] (W.drewN k) fun e w' => ∃ G, e = .returned (.pointer (some ⟨W.heap.size, 0, none⟩)) ∧ Vo w' W.heap.size G s V ∧ W.heap.size ≤ G ∧ Below W.heap.size W w') := Lib.hid fun k => by
    obtain ⟨⟨G, hv, _⟩, _, _⟩ := H.out.later HB.out
    refine (copy_any Bv G s V (W.drewN k) (hv.keep ((Chg.refl (fun _ => False) _).drewN k) (fun h => h) (fun h => h))).mono ?_
    rintro e w' ⟨rfl, h1, h2⟩
    exact ⟨_, rfl, h1, Nat.le_succ _, below_undrew h2⟩
  have HT : Hid (∀ w', Below W.heap.size W w' → Calls Try.prog 44 #[.pointer (some ⟨T, 0, none⟩)] w' fun e w'' => e = .returned (.pointer (some ⟨w'.heap.size, 0, none⟩)) ∧ (∃ mb', Tp w'' w'.heap.size mb' (fun k => w'.heap.size ≤ k) a z t) ∧ Below w'.heap.size w' w'') := Lib.hid fun w' hb' => by
    obtain ⟨_, _, mb, ht⟩ := (H.out.later HB.out).later hb'
    exact tape_copy ht hbig
  clear H
  go_region_law (first
    | (go_simp; go_at_call 43; refine (HV.out _).mono ?_; rintro e w5 ⟨G, rfl, hv5, hG, hb5⟩; have b1 := block_cell (j := 1) (block_later H0.out hb5) (v := .pointer (some ⟨T, 0, none⟩)) rfl)
    | (go_simp; go_at_call 44; refine (HT.out _ hb5).mono ?_; rintro e w6 ⟨rfl, ⟨mb6, ht6⟩, hb6⟩; have hb56 := hb5.trans (hb6.mono hb5.size); have hA := block_later H1.out hb56; have x0 := block_cell (j := 0) hA (v := .pointer none) rfl; have x1 := block_cell (j := 1) hA (v := .pointer none) rfl; have g0 := block_free 0 hA; have g1 := block_free 1 hA))
  all_goals
    have hc : Chg (fun k => k = w.heap.size + 1) w6 ((w6.setCell ⟨w.heap.size + 1, 0, none⟩ (.pointer (some ⟨W.heap.size, 0, none⟩))).setCell ⟨w.heap.size + 1, 1, none⟩ (.pointer (some ⟨w5.heap.size, 0, none⟩))) := ((Chg.refl (fun k => k = w.heap.size + 1) w6).setCell ⟨w.heap.size + 1, 0, none⟩ _ fun _ => rfl).setCell ⟨w.heap.size + 1, 1, none⟩ _ fun _ => rfl
    have HR : Hid (((w6.setCell ⟨w.heap.size + 1, 0, none⟩ (.pointer (some ⟨W.heap.size, 0, none⟩))).setCell ⟨w.heap.size + 1, 1, none⟩ (.pointer (some ⟨w5.heap.size, 0, none⟩))).heap[w.heap.size + 1]? = some (.cells #[.pointer (some ⟨W.heap.size, 0, none⟩), .pointer (some ⟨w5.heap.size, 0, none⟩)] 55 (0, 0))) := Lib.hid (block_put 1 _ (block_put 0 _ hA))
    have hRW : w.heap.size + 1 < W.heap.size := block_lt H1.out
    have h5s := hb5.size
    have hv8 := (hv5.later hb6).keep hc (by omega) (by omega)
    have ht8 := ht6.keep hc (by intro k hk; omega)
    have hbl := hc.below (HB.out.trans (hb56.mono HB.out.size)) (Nat.le_trans HB.out.size hb56.size) fun k hk => by omega
    have HBL := Lib.hid hbl
    have HF : Hid (Fresh w _ W.heap.size w5.heap.size s V a z t) := Lib.hid (Fresh.of hv8 ⟨HB.out.size, block_lt hv5.blk⟩ ⟨by have := HB.out.size; omega, block_lt hv5.row⟩ ht8)
    clear hc hA hv8 ht8 hbl hv5 ht6 x0 x1 g0 g1 b1
    go_wp2_with fail
    refine bodyPost_ret (v := .agg #[.pointer (some ⟨W.heap.size, 0, none⟩), .pointer (some ⟨w5.heap.size, 0, none⟩)]) ?_ rfl ⟨_, _, rfl, HF.out, HBL.out⟩
    exact results_cell_row rfl _ _ (w.heap.size + 1) 55 _ (0, 0) _ rfl HR.out Try.underlying55 rfl (by kernel_rfl)
/-- A disk out of its parts. -/
theorem Dka.made {w w5 w6 w7 w8 : World} {col : Nat → Nat} {c B : Nat} {A : Ad} {d : DS} (hc : 1 ≤ c) (hM : d.M ≤ 1048576) (b5 : Below w.heap.size w w5) (h5 : Fresh w w5 A.Bv A.T d.s d.sV d.a d.z d.sT) (b6 : Below w5.heap.size w5 w6) (h6 : Fresh w5 w6 A.Bv' A.T' d.s d.V d.a d.z d.t)
    (b7 : Below w6.heap.size w6 w7) (h7 : ∀ col', Ext w col col' → Pe w7 (paint col' w6.heap.size (c + 1)) (c + 1) A.pv d.L) (b8 : Below w7.heap.size w7 w8) (hB : w7.heap.size ≤ B) (hblk : w8.heap[B]? = some (.cells (dcells d.M A) 60 (0, 0))) : ∃ col', Ext w col col' ∧ Dka w8 col' c B A d := by
  obtain ⟨k1, e1, p1⟩ := h5 col (c + 2)
  obtain ⟨k2, e2, p2⟩ := h6 k1 (c + 4)
  have e12 := e1.trans e2 b5.size
  have e3 := Ext.paint w6 k2 (c + 1)
  have s6 := Nat.le_trans b5.size b6.size
  have e13 := e12.trans e3 s6
  have p3 := h7 k2 e12
  have e4 := Ext.paint w7 (paint k2 w6.heap.size (c + 1)) c
  have b68 := b7.trans (b8.mono b7.size)
  refine ⟨paint (paint k2 w6.heap.size (c + 1)) w7.heap.size c, e13.trans e4 (Nat.le_trans s6 b7.size), hc, hblk, paint_new hB, (p3.recol e4).later b8, ?_, ?_, hM⟩
  · refine Pa.later (w := w7) ?_ b8
    refine Pa.recol ?_ e4
    exact Pa.later (((p1.recol e2).later b6).recol e3) b7
  · refine Pa.later (w := w7) ?_ b8
    refine Pa.recol ?_ e4
    exact Pa.later (p2.recol e3) b7
def DS.new (blocks block seg most : Int) : DS := ⟨kp most 1048576, seg, cl seg 64 4096, kp block 4096, zeroV (kp blocks 1024) (kp block 4096), ⟨0, []⟩, []⟩
/-- A disk that the call made. -/
def Born (w w' : World) (B : Nat) (d : DS) : Prop := ∀ col c, 1 ≤ c → ∃ col', Ext w col col' ∧ Dk w' col' c B d
set_option maxHeartbeats 1000000 in
theorem disk_new (x y g m : Int) (w : World) : Calls Try.prog 6 #[.int .i64 x, .int .i64 y, .int .i64 g, .int .i64 m] w fun e w' => ∃ B, e = .returned (.pointer (some ⟨B, 0, none⟩)) ∧ Born w w' B (DS.new x y g m) ∧ w.heap.size ≤ B ∧ Below w.heap.size w w' := by
  have hn := new_any x y w
  have HT := Lib.hid fun w => tape_new g w
  have HK := Lib.hid fun w => disk_kept m 1048576 w (by omega)
  have HM : Hid (kp m 1048576 ≤ 1048576) := Lib.hid (by have := kp_le m 1048576 (by omega); omega)
  have HD : Hid (DS.new x y g m = ⟨kp m 1048576, g, cl g 64 4096, kp y 4096, zeroV (kp x 1024) (kp y 4096), ⟨0, []⟩, []⟩) := Lib.hid rfl
  generalize DS.new x y g m = D at *
  generalize kp m 1048576 = M at *
  generalize kp y 4096 = s at *
  generalize zeroV (kp x 1024) s = V at *
  go_enter Try.func6, Try.ntmps6
  go_wp2_with fail
  refine hn.mono ?_
  rintro e w1 ⟨rfl, hv, hb⟩
  have HB1 := Lib.hid hb
  have HV1 := Lib.hid hv
  have ht := HT.out w1
  clear hn hv hb HT
  go_wp2_with fail
  refine ht.mono ?_
  rintro e w2 ⟨rfl, hw2⟩
  have HT2 : Hid (Tp w2 w1.heap.size none (fun k => w1.heap.size ≤ k) g (cl g 64 4096) ⟨0, []⟩) := Lib.hid (hw2 ▸ new_tape w1 g)
  have HB2 : Hid (Below w1.heap.size w1 w2) := Lib.hid (hw2 ▸ (Below.refl _ _).alloc (Nat.le_refl _) _)
  clear ht hw2
  have hb3 : Below w2.heap.size w2 (w2.alloc (.cells #[.pointer (some ⟨w.heap.size, 0, none⟩), .pointer (some ⟨w1.heap.size, 0, none⟩)] 55)) := (Below.refl _ _).alloc (Nat.le_refl _) _
  have HA3 := Lib.hid (alloc_block w2 (.cells #[.pointer (some ⟨w.heap.size, 0, none⟩), .pointer (some ⟨w1.heap.size, 0, none⟩)] 55))
  have HB3 := Lib.hid hb3
  clear hb3
  go_wp2_with fail
  generalize w2.alloc (.cells #[.pointer (some ⟨w.heap.size, 0, none⟩), .pointer (some ⟨w1.heap.size, 0, none⟩)] 55) = W at *
  have HB13 := Lib.hid (HB2.out.trans (HB3.out.mono HB2.out.size))
  have HB03 := Lib.hid (HB1.out.trans (HB13.out.mono HB1.out.size))
  have HS : Hid (Fresh w W w.heap.size w1.heap.size s V g (cl g 64 4096) ⟨0, []⟩) := Lib.hid (Fresh.of (HV1.out.later HB13.out) ⟨Nat.le_refl _, block_lt HV1.out.blk⟩ ⟨Nat.le_succ _, block_lt HV1.out.row⟩ (HT2.out.later HB3.out))
  have HBO : Hid (∀ w', Below W.heap.size W w' → Calls Try.prog 19 #[.agg #[.pointer (some ⟨w.heap.size, 0, none⟩), .pointer (some ⟨w1.heap.size, 0, none⟩)]] w' fun e w'' => ∃ Bv' T', e = .returned (.agg #[.pointer (some ⟨Bv', 0, none⟩), .pointer (some ⟨T', 0, none⟩)]) ∧ Fresh w' w'' Bv' T' s V g (cl g 64 4096) ⟨0, []⟩ ∧ Below w'.heap.size w' w'') := Lib.hid fun w' hb' => by
    obtain ⟨k1, _, p1⟩ := HS.out (fun _ => 0) 1
    exact both_any (p1.later hb') (by simp [TS.len])
  have a0 := block_cell (j := 0) HA3.out (v := .pointer (some ⟨w.heap.size, 0, none⟩)) rfl
  have a1 := block_cell (j := 1) HA3.out (v := .pointer (some ⟨w1.heap.size, 0, none⟩)) rfl
  generalize w2.heap.size = X at *
  go_region_law (first
    | (go_simp; go_at_call 18; refine (HK.out _).mono ?_; rintro e w5 ⟨rfl, rfl⟩)
    | (go_simp; go_at_call 19; refine (HBO.out _ (by first | exact below_drewN (Below.refl _ _) _ | exact Below.refl _ _)).mono ?_; rintro e w6 ⟨Bv', T', rfl, hf6, hb6⟩; have hb6' : Below W.heap.size W w6 := (by first | exact below_undrew hb6 | exact hb6); have b0 := block_cell (j := 0) (block_later HA3.out hb6') (v := .pointer (some ⟨w.heap.size, 0, none⟩)) rfl; have b1 := block_cell (j := 1) (block_later HA3.out hb6') (v := .pointer (some ⟨w1.heap.size, 0, none⟩)) rfl))
  all_goals
    have hb7 : Below w6.heap.size w6 (w6.alloc (.cells (dcells M ⟨w.heap.size, w1.heap.size, Bv', T', .slice none 0 0⟩) 60)) := (Below.refl _ _).alloc (Nat.le_refl _) _
    have HX : Hid (Born w (w6.alloc (.cells (dcells M ⟨w.heap.size, w1.heap.size, Bv', T', .slice none 0 0⟩) 60)) w6.heap.size D ∧ w.heap.size ≤ w6.heap.size ∧ Below w.heap.size w (w6.alloc (.cells (dcells M ⟨w.heap.size, w1.heap.size, Bv', T', .slice none 0 0⟩) 60))) := Lib.hid (by
      have hD := HD.out
      subst hD
      have hb06 := HB03.out.trans (hb6'.mono HB03.out.size)
      refine ⟨fun col c hc => ?_, hb06.size, hb06.trans (hb7.mono hb06.size)⟩
      obtain ⟨col', h1, h2⟩ := Dka.made (col := col) (A := ⟨w.heap.size, w1.heap.size, Bv', T', .slice none 0 0⟩) (d := ⟨M, g, cl g 64 4096, s, V, ⟨0, []⟩, []⟩) hc HM.out HB03.out HS.out hb6' hf6 (Below.refl _ _) (fun col' _ => Pe.nil _ _ _) hb7 (Nat.le_refl _) (alloc_block _ _)
      exact ⟨col', h1, _, h2⟩)
    clear hf6 hb6 hb6' hb7 b0 b1
    go_wp2_with fail
    go_ret
    exact ⟨_, rfl, HX.out⟩
end Go.Proofs.Ytdkpjaobfohdfaa
namespace Go.Proofs.Ytdkpjaobfohdfaa
open Go.RowKit Go.ChangeShapes Go.WideShapes
set_option linter.unusedVariables false
set_option maxRecDepth 10000
set_option linter.unusedSimpArgs false

/-- A row of the same writes, of another colour. -/
theorem Pe.clone {w w6 w7 : World} {col : Nat → Nat} {c2 : Nat} {PL : List Pw} {L : List Dw} {v : Value} (hok : ∀ y ∈ PL, y.ok w col) (hm : PL.map (·.x) = L) (h6 : Below w.heap.size w w6) (h7 : Below w6.heap.size w6 w7) (hv : w7.ownsRow 0 82 1 v L.length (flatG ew PL)) (hn : ∀ k, v.ownBlock = some k → w6.heap.size ≤ k) :
    ∀ col', Ext w col col' → Pe w7 (paint col' w6.heap.size c2) c2 v L := fun col' he => by
  have hl : PL.length = L.length := by rw [← hm, List.length_map]
  refine ⟨⟨PL, hm, by rw [hl]; exact hv, fun y hy => ?_⟩, fun k hk => paint_new (hn k hk)⟩
  have h1 := ((hok y hy).recol he).keep (Chg.of_below (S := fun _ => False) h6) fun _ _ h => h
  exact (h1.recol (Ext.paint w6 col' c2)).keep (Chg.of_below (S := fun _ => False) h7) fun _ _ h => h
end Go.Proofs.Ytdkpjaobfohdfaa
