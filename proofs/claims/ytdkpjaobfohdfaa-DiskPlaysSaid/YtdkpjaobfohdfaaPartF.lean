/- Put, Append, Drop, Cut: what is seen turns, and one more write is pending. -/
/- Put, Append, Drop, Cut. -/
/- Sync. -/
/- Crash. -/
/- Acts: few; an act done to a disk. -/
import Derived.Test.YtdkpjaobfohdfaaDiskRow
import Derived.Test.YtdkpjaobfohdfaaDiskWrites
import Derived.StillTailTactics
import Derived.WalkSpells
import Derived.IntWalk
import Derived.LoopTactic
import Derived.Deep.RegionLaw
import Derived.Test.YtdkpjaobfohdfaaPartM
namespace Go.Proofs.Ytdkpjaobfohdfaa
open Go.RowKit Go.ChangeShapes Go.WideShapes
set_option linter.unusedVariables false
set_option maxRecDepth 10000
set_option linter.unusedSimpArgs false

/-- A disk of which just V and t are seen, whatever is pending. -/
structure Dkh (w : World) (col : Nat → Nat) (c B : Nat) (A : Ad) (d : DS) (V : List (List Int)) (t : TS) : Prop where
  c0 : 1 ≤ c
  blk : w.heap[B]? = some (.cells (dcells d.M A) 60 (0, 0))
  cB : col B = c
  pe : Pe w col (c + 1) A.pv d.L
  seen : Pa w col (c + 2) A.Bv A.T d.s V d.a d.z t
  sure : Pa w col (c + 4) A.Bv' A.T' d.s d.V d.a d.z d.t
  most : d.M ≤ 1048576
theorem Dka.half {w : World} {col : Nat → Nat} {c B : Nat} {A : Ad} {d : DS} (h : Dka w col c B A d) : Dkh w col c B A d d.sV d.sT := ⟨h.c0, h.blk, h.cB, h.pe, h.seen, h.sure, h.most⟩
theorem Dkh.whole {w : World} {col : Nat → Nat} {c B : Nat} {A : Ad} {d : DS} (h : Dkh w col c B A d d.sV d.sT) : Dka w col c B A d := ⟨h.c0, h.blk, h.cB, h.pe, h.seen, h.sure, h.most⟩
section
variable {w w' : World} {col col' : Nat → Nat} {c B : Nat} {A : Ad} {d : DS} {V V' : List (List Int)} {t t' : TS}
theorem Dkh.keep {S : Nat → Prop} (h : Dkh w col c B A d V t) (hc : Chg S w w') (hs : ∀ k, col k = 0 ∨ own col c k → ¬ S k) : Dkh w' col c B A d V t := by
  have hB : own col c B := by have := h.cB; unfold own; omega
  refine ⟨h.c0, (hc.block B (block_lt h.blk) (hs B (.inr hB))).trans h.blk, h.cB, h.pe.keep hc fun k hk => hs k ?_, h.seen.keep hc fun k hk => hs k (.inr (by unfold own; omega)), h.sure.keep hc fun k hk => hs k (.inr (by unfold own; omega)), h.most⟩
  rcases hk with hk | hk
  · exact .inl hk
  · exact .inr (by unfold own; omega)
theorem Dkh.later (h : Dkh w col c B A d V t) (hb : Below w.heap.size w w') : Dkh w' col c B A d V t := h.keep (Chg.of_below (S := fun _ => False) hb) fun _ _ h => h
theorem Dkh.recol (h : Dkh w col c B A d V t) (he : Ext w col col') : Dkh w col' c B A d V t := ⟨h.c0, h.blk, (he B (block_lt h.blk)).trans h.cB, h.pe.recol he, h.seen.recol he, h.sure.recol he, h.most⟩
theorem own_of {k : Nat} (h : col k = c + 2 ∨ col k = c + 2 + 1) : own col c k := by unfold own; omega
/-- What is seen was written. -/
theorem Dkh.set_seen (h : Dkh w col c B A d V t) (hw : (∃ col', Ext w col col' ∧ Pa w' col' (c + 2) A.Bv A.T d.s V' d.a d.z t') ∧ Chg (fun k => col k = c + 2 ∨ col k = c + 2 + 1) w w') : (∃ col', Ext w col col' ∧ Dkh w' col' c B A d V' t') ∧ Chg (own col c) w w' := by
  obtain ⟨⟨col', he, hp⟩, hc⟩ := hw
  have h0 := h.c0
  have g := h.recol he
  have hc' : Chg (fun k => col' k = c + 2 ∨ col' k = c + 2 + 1) w w' := hc.mono fun k hk h => by rw [he k hk]; exact h
  refine ⟨⟨col', he, g.c0, (hc'.block B (block_lt g.blk) (by have := g.cB; omega)).trans g.blk, g.cB, g.pe.keep hc' fun k hk => by omega, hp, g.sure.keep hc' fun k hk => by omega, g.most⟩, hc.mono fun k _ h => own_of h⟩
end
/-- Bytes of a row of their own. -/
theorem clone_b (p : Option Addr) (n c : Nat) (L : List Int) (w : World) (hL : BL w p n c L) (hn : n ≤ 1000000) :
    Calls Try.prog 39 #[.slice p n c] w fun e w' => ∃ p' c', e = .returned (.slice p' n c') ∧ BL w' p' n c' L ∧ (0 < n → ∀ a, p' = some a → w.heap.size ≤ a.block) ∧ Below w.heap.size w w' := by
  by_cases h0 : 0 < n
  · refine (clone_bytes p n c L w hL h0 hn).mono ?_
    rintro e w' ⟨g, c', rfl, hr, hg, hb⟩
    exact ⟨_, _, rfl, hr.bl, fun _ a ha => by cases ha; exact hg, hb⟩
  · obtain rfl : n = 0 := by omega
    obtain rfl : L = [] := List.eq_nil_of_length_eq_zero hL.len
    have hq := fun w => sl_nil p 0 c w
    cases p with
    | none =>
      go_enter Try.func39, Try.ntmps39
      go_wp2_with fail
      go_ret
      exact ⟨_, _, rfl, SlG.empty _, fun h => by omega, Below.refl _ _⟩
    | some ad =>
      have hb1 : Below w.heap.size w (w.alloc (.cells #[] 5)) := (Below.refl _ _).alloc (Nat.le_refl _) _
      have HB1 := Lib.hid hb1
      have HR1 : Hid (RowB (w.alloc (.cells #[] 5)) (.slice (some ⟨w.heap.size, 0, none⟩) 0 0) 0 []) := Lib.hid (RowB.fresh (alloc_block w _) rfl (Nat.zero_le _))
      have HL1 := Lib.hid (SlG.later hL hb1)
      clear hL hb1
      go_enter Try.func39, Try.ntmps39
      go_wp2_with (first | (at_builtin; refine wpList_append_rb rfl _ _ rfl _ _ _ rfl HR1.out _ 0 c [] rfl HL1.out (by omega) ?_; intro p' c' w3 hr3 hc3 hl3 hn3) | fail)
      go_ret
      have HBL := hc3.below HB1.out HB1.out.size fun k hk => by cases hk; exact Nat.le_refl _
      first | exact ⟨_, _, rfl, hr3.bl, (fun h => by omega), HBL⟩ | exact ⟨_, _, rfl, hr3.bl, HBL⟩
set_option maxHeartbeats 1000000 in
/-- One more write waits. -/
theorem wait_any {w : World} {col : Nat → Nat} {c B : Nat} {A : Ad} {d : DS} {V : List (List Int)} {t : TS} (h : Dkh w col c B A d V t) (y : Pw) (hy : y.ok w col) (T : TypeId) (v : Value) (hu : y.val = .iface T v) (hL : d.L.length < 1000000) :
    Calls Try.prog 38 #[.pointer (some ⟨B, 0, none⟩), .iface T v] w fun e w' => e = .returned (.tuple #[]) ∧ (∃ A' col', Ext w col col' ∧ Dkh w' col' c B A' (d.add y.x) V t) ∧ Chg (own col c) w w' := by
  obtain ⟨Bv, T1, Bv', T', pv⟩ := A
  obtain ⟨p, cp, PL, hp, hPL, hsl, hok, _⟩ := h.pe.sl
  simp only at hp
  subst hp
  have hlen : PL.length = d.L.length := by rw [← hPL, List.length_map]
  obtain ⟨⟨PL2, q1, q2, q3⟩, q4⟩ := h.pe
  have hl2 : PL2.length = d.L.length := by rw [← q1, List.length_map]
  rw [hl2] at q2
  have hb1 : Below w.heap.size w (w.alloc (.cells #[.iface T v] 82)) := (Below.refl _ _).alloc (Nat.le_refl _) _
  have hrow : (w.alloc (.cells #[.iface T v] 82)).ownsRow 0 82 1 (.slice p d.L.length cp) d.L.length (flatG ew PL2) := own_keep q2 (Chg.of_below (S := fun _ => False) hb1) fun _ _ h => h
  have hone : SlG ew 1 yd (w.alloc (.cells #[.iface T v] 82)) (some ⟨w.heap.size, 0, none⟩) 1 1 [y] := by
    refine ⟨rfl, Nat.le_refl _, by unfold maxLen; omega, (fun e => by cases e), fun _ => ⟨w.heap.size, 0, rfl, by simp, fun j hj i u hu' => ?_⟩⟩
    obtain rfl : j = 0 := by omega
    match i, hu' with
    | 0, hu' =>
      simp only [List.getD_cons_zero, ew, List.getElem?_cons_zero, Option.some.injEq] at hu'
      subst hu'
      rw [hu]
      exact block_cell (alloc_block w _) rfl
  have HROW := Lib.hid hrow
  have HONE := Lib.hid hone
  have HB1 := Lib.hid hb1
  have c5 : w.cell? ⟨B, 5, none⟩ = some (.slice p d.L.length cp) := block_cell h.blk rfl
  have hBlt := block_lt h.blk
  have HH := Lib.hid h
  have hne : ∀ k, (Value.slice p d.L.length cp).ownBlock = some k → ¬ k = B := fun k hk e => by
    have h1 := q4 k hk
    have h2 := h.cB
    subst e
    omega
  have HNE := Lib.hid hne
  have HQ4 := Lib.hid q4
  have HC3 : Hid (∀ w3, Chg (fun k => (Value.slice p d.L.length cp).ownBlock = some k) (w.alloc (.cells #[.iface T v] 82)) w3 → w3.cell? ⟨B, 5, none⟩ = some (.slice p d.L.length cp) ∧ w3.frozen? ⟨B, 5, none⟩ = false) := Lib.hid fun w3 g2 => by
    have h3 : w3.heap[B]? = some (.cells (dcells d.M ⟨Bv, T1, Bv', T', .slice p d.L.length cp⟩) 60 (0, 0)) := (((Chg.of_below hb1).trans (g2.mono (T := fun k => col k = c + 1) fun k _ hk => q4 k hk) fun k _ h => h).block B hBlt (by have := h.cB; omega)).trans h.blk
    exact ⟨block_cell h3 rfl, block_free 5 h3⟩
  have HFIN : Hid (∀ w3 w4 p' c', w3.ownsRow 0 82 1 (.slice p' (d.L.length + 1) c') (d.L.length + 1) (flatG ew (PL2 ++ [y])) → Chg (fun k => (Value.slice p d.L.length cp).ownBlock = some k) (w.alloc (.cells #[.iface T v] 82)) w3 →
      (∀ k, (Value.slice p' (d.L.length + 1) c').ownBlock = some k → (Value.slice p d.L.length cp).ownBlock = some k ∨ (w.alloc (.cells #[.iface T v] 82)).heap.size ≤ k) → w4 = w3.setCell ⟨B, 5, none⟩ (.slice p' (d.L.length + 1) c') →
      (∃ A' col', Ext w col col' ∧ Dkh w4 col' c B A' (d.add y.x) V t) ∧ Chg (own col c) w w4) := Lib.hid fun w3 w4 p' c' g1 g2 g3 g4 => by
    have hc3 : Chg (fun k => col k = c + 1) w w3 := (Chg.of_below hb1).trans (g2.mono (T := fun k => col k = c + 1) fun k _ hk => q4 k hk) fun k _ h => h
    have hc4 : Chg (fun k => k = B) w3 w4 := by rw [g4]; exact (Chg.refl _ _).setCell _ _ fun _ => rfl
    have hc : Chg (fun k => col k = c ∨ col k = c + 1) w w4 := (hc3.mono (T := fun k => col k = c ∨ col k = c + 1) fun k _ h => .inr h).trans hc4 fun k _ e => by subst e; exact .inl h.cB
    have hE := Ext.paint w col (c + 1)
    have h3 : w3.heap[B]? = some (.cells (dcells d.M ⟨Bv, T1, Bv', T', .slice p d.L.length cp⟩) 60 (0, 0)) := (hc3.block B hBlt (by have := h.cB; omega)).trans h.blk
    have g := h.recol hE
    have hcp : Chg (fun k => paint col w.heap.size (c + 1) k = c ∨ paint col w.heap.size (c + 1) k = c + 1) w w4 := hc.mono fun k hk h => by rw [paint_old hk]; exact h
    have h0 := h.c0
    refine ⟨⟨⟨Bv, T1, Bv', T', .slice p' (d.L.length + 1) c'⟩, paint col w.heap.size (c + 1), hE, h0, ?_, g.cB, ⟨⟨PL2 ++ [y], ?_, ?_, ?_⟩, fun k hk => ?_⟩, g.seen.keep hcp fun k hk => by omega, g.sure.keep hcp fun k hk => by omega, h.most⟩, hc.mono fun k _ h => by unfold own; omega⟩
    · rw [g4]
      exact block_put 5 _ h3
    · rw [List.map_append, q1]
      rfl
    · rw [List.length_append, hl2, List.length_singleton]
      refine own_keep g1 hc4 fun k hk e => ?_
      rcases g3 k hk with h5 | h5
      · exact hne k h5 e
      · have := hb1.size
        omega
    · intro z hz
      rcases List.mem_append.1 hz with hz | hz
      · exact ((q3 z hz).recol hE).keep hcp fun k hk => by omega
      · rw [List.mem_singleton] at hz
        subst hz
        exact (hy.recol hE).keep hcp fun k hk => by omega
    · rcases g3 k hk with h5 | h5
      · have hlt := (q2.lt k h5).2
        rw [paint_old hlt]
        exact q4 k h5
      · have := hb1.size
        exact paint_new (by omega)
  clear hrow hone hb1 q1 q2 q3 q4 hok hsl hPL hne h hlen hl2 hu hy
  generalize hn : d.L.length = n0 at *
  go_enter Try.func38, Try.ntmps38
  go_wp2_with (first | (at_builtin; refine wpList_append_w rfl _ _ rfl _ n0 PL2 rfl HROW.out _ 1 1 [y] rfl HONE.out (by omega) ?_; intro p' c' w3 hr3 hc3 hl3; obtain ⟨x5, g5⟩ := HC3.out w3 hc3) | fail)
  have HX := Lib.hid (HFIN.out w3 _ p' c' hr3 hc3 hl3 rfl)
  clear hr3 hc3 hl3
  go_end0
  exact ⟨rfl, HX.out.1, HX.out.2⟩
end Go.Proofs.Ytdkpjaobfohdfaa
namespace Go.Proofs.Ytdkpjaobfohdfaa
open Go.RowKit Go.ChangeShapes Go.WideShapes
set_option linter.unusedVariables false
set_option maxRecDepth 10000
set_option linter.unusedSimpArgs false

section
variable {w : World} {col : Nat → Nat} {c B : Nat} {d : DS}
/-- Bytes that were cloned wait. -/
theorem cloned_ok {w2 w3 : World} {A : Ad} {V : List (List Int)} {t : TS} {p' : Option Addr} {cp' : Nat} {b : List Int} {x : Dw} (hx : x.bytes = b) (h : Dkh w2 col c B A d V t) (hb : BL w3 p' b.length cp' b) (hn : 0 < b.length → ∀ a, p' = some a → w2.heap.size ≤ a.block) (hw : Below w2.heap.size w2 w3) :
    Ext w2 col (paint col w2.heap.size 0) ∧ Dkh w3 (paint col w2.heap.size 0) c B A d V t ∧ Pw.ok w3 (paint col w2.heap.size 0) ⟨x, p', cp'⟩ := by
  subst hx
  exact ⟨Ext.paint _ _ _, (h.recol (Ext.paint _ _ _)).later hw, hb, fun h0 a ha => paint_new (hn h0 a ha)⟩
set_option maxHeartbeats 2000000 in
theorem disk_put (h : Dk w col c B d) (hL : d.L.length < 1000000) (i : Int) (p : Option Addr) (m cp : Nat) (b : List Int) (hb : BL w p m cp b) (h0 : 0 < m → ∀ a, p = some a → ¬ own col c a.block) :
    Calls Try.prog 25 #[.pointer (some ⟨B, 0, none⟩), .int .i64 i, .slice p m cp] w fun e w' => e = .returned (.int .i64 (d.putE i b)) ∧ Turned w col c B (d.put i b) w' := by
  obtain rfl := hb.len
  obtain ⟨A, h⟩ := h
  have hl := look_any h
  have hpv := parts_vol
  have H := Lib.hid h
  have HB := Lib.hid hb
  have HN := Lib.hid h0
  have hE : tearE d.s d.sV i b = d.putE i b := putE_seen d i b
  have hsm : d.putE i b = 0 → b.length ≤ 4096 := by
    obtain ⟨G, hv, _⟩ := h.seen.vo
    have := hv.s
    unfold DS.putE tearE
    split
    · intro e; omega
    · split <;> intro e <;> omega
  have HP : Hid (d.putE i b = 0 → d.put i b = d.add (.put i b)) := Lib.hid fun h => if_pos h
  have HQ : Hid (d.putE i b ≠ 0 → d.put i b = d) := Lib.hid fun h => if_neg h
  generalize d.put i b = D at *
  generalize d.putE i b = e0 at *
  have HE := Lib.hid hE
  have HSM := Lib.hid hsm
  clear hE h hb h0 hsm
  go_enter Try.func25, Try.ntmps25
  go_wp2_with fail
  refine hl.mono ?_
  rintro e w1 ⟨rfl, hb1⟩
  have HB1 := Lib.hid hb1
  have h1 := H.out.later hb1
  obtain ⟨G, hv, hG⟩ := h1.seen.vo
  have hG6 : own col c G := by unfold own; omega
  have hbl1 := SlG.later HB.out hb1
  have hput := put_any A.Bv G d.s d.sV i p b.length cp b w1 hv hbl1 (fun hm a ha e => HN.out hm a ha (e ▸ hG6))
  rw [HE.out] at hput
  have H1 := Lib.hid h1
  have HG := Lib.hid hG
  clear hl hb1 h1 hv hG hG6 hbl1
  go_wp2_with fail
  refine hput.mono ?_
  rintro e w2 ⟨rfl, hv2, hc2⟩
  have HS := Lib.hid (H.out.half.set_seen (H.out.seen.vol HB1.out HG.out hv2 hc2))
  have HB2 : Hid (BL w2 p b.length cp b) := Lib.hid (BL.keep (SlG.later HB.out HB1.out) hc2 fun hm a ha e => HN.out hm a ha (by rw [e]; unfold own; have := HG.out; omega))
  clear hv2 hc2 hput
  by_cases he : e0 = 0
  · subst he
    have hcl := clone_b p b.length cp b w2 HB2.out (by have := HSM.out rfl; omega)
    go_wp2_with fail
    refine hcl.mono ?_
    rintro e w3 ⟨p', c', rfl, hbl3, hn3, hb3⟩
    obtain ⟨⟨col2, he2, hd2⟩, hc2⟩ := HS.out
    obtain ⟨he3, hd3, hok3⟩ := cloned_ok (x := .put i b) rfl hd2 hbl3 hn3 hb3
    have hwt := wait_any hd3 ⟨.put i b, p', c'⟩ hok3 _ _ rfl hL
    have HC2 := Lib.hid hc2
    have HE2 := Lib.hid he2
    have HE3 := Lib.hid he3
    have HB3 := Lib.hid hb3
    clear hbl3 hn3 hb3 he2 hd2 hc2 he3 hd3 hok3 hcl HS H1 HB2
    go_wp2_with fail
    refine hwt.mono ?_
    rintro e w4 ⟨rfl, ⟨A', col4, he4, hd4⟩, hc4⟩
    have HX : Hid (Turned w col c B D w4) := Lib.hid (by
      have hs2 := HC2.out.size
      have hs3 := HB3.out.size
      have e23 := HE2.out.trans HE3.out hs2
      refine ⟨col4, e23.trans he4 (Nat.le_trans hs2 hs3), ?_, ?_⟩
      · rw [HP.out (by trivial)]
        have e1 : dwV d.s d.sV (.put i b) = (d.add (.put i b)).sV := (add_sV d _).symm
        have e2 : d.sT = (d.add (.put i b)).sT := (add_sT d (.put i b)).symm
        refine ⟨A', Dkh.whole ?_⟩
        rw [← e1, ← e2]
        exact hd4
      · refine (HC2.out.trans (T := fun _ => False) (Chg.of_below HB3.out) fun k _ h => h.elim).trans hc4 fun k hk h => ?_
        unfold own at *
        rwa [e23 k hk] at h)
    clear he4 hd4 hc4 hwt
    go_wp2_with fail
    go_ret
    exact ⟨rfl, HX.out⟩
  · have hne : (e0 == 0) = false := by simpa using he
    have hne2 : (e0 != 0) = true := by simpa using he
    have HX : Hid (Turned w col c B D w2) := Lib.hid (by
      obtain ⟨⟨col2, he2, hd2⟩, hc2⟩ := HS.out
      refine ⟨col2, he2, ?_, hc2⟩
      rw [HQ.out he]
      have : tearV d.s d.sV i b d.s = d.sV := tearV_err (by rw [HE.out]; exact he)
      rw [this] at hd2
      exact ⟨A, hd2.whole⟩)
    go_wp2_with fail
    go_ret
    exact ⟨rfl, HX.out⟩
set_option maxHeartbeats 2000000 in
theorem disk_append (h : Dk w col c B d) (hbig : d.tot + 65536 ≤ 1000000) (hL : d.L.length < 1000000) (p : Option Addr) (m cp : Nat) (b : List Int) (hb : BL w p m cp b) (h0 : 0 < m → ∀ a, p = some a → ¬ own col c a.block) :
    Calls Try.prog 11 #[.pointer (some ⟨B, 0, none⟩), .slice p m cp] w fun e w' => e = .returned (.int .i64 (d.addE b)) ∧ Turned w col c B (d.app b) w' := by
  obtain rfl := hb.len
  by_cases hm : 65536 < b.length
  · have e1 : d.addE b = 7 := if_pos hm
    have e2 : d.app b = d := if_neg (by rw [e1]; omega)
    rw [e1, e2]
    have hm' : (65536 : Int) < (b.length : Int) := by omega
    have HX : Hid (Turned w col c B d w) := Lib.hid ⟨col, Ext.refl _ _, h, Chg.refl _ _⟩
    clear h hb h0
    generalize b.length = n at *
    go_enter Try.func11, Try.ntmps11
    go_wp2_with fail
    go_ret
    exact ⟨rfl, HX.out⟩
  · have hz := h.z_in
    have hsT := d.sT_len (by omega)
    have hf := fun w' (hb' : Below w.heap.size w w') => disk_first (h.later hb')
    have he := fun w' (hb' : Below w.heap.size w w') => disk_end (h.later hb')
    obtain ⟨A, h⟩ := h
    have H := Lib.hid h
    have HB := Lib.hid hb
    have HN := Lib.hid h0
    have HM : Hid (∀ p : After w, p.w.cell? ⟨B, 0, none⟩ = some (.int .i64 (d.M : Nat))) := Lib.hid fun p => cell_after p (block_cell h.blk rfl)
    have hMM := h.most
    have HE1 : Hid ((d.M : Int) < (d.sT.B.length : Int) + b.length → d.addE b = 4 ∧ d.app b = d) := Lib.hid fun h => by
      have e1 : d.addE b = 4 := by unfold DS.addE; rw [if_neg hm, if_pos h]
      exact ⟨e1, if_neg (by rw [e1]; omega)⟩
    have HE2 : Hid (¬ (d.M : Int) < (d.sT.B.length : Int) + b.length → d.addE b = 0 ∧ d.app b = d.add (.grow b)) := Lib.hid fun h => by
      have e1 : d.addE b = 0 := by unfold DS.addE; rw [if_neg hm, if_neg h]
      exact ⟨e1, if_pos e1⟩
    have HF : Hid (∀ p : After w, Calls Try.prog 32 #[.pointer (some ⟨B, 0, none⟩)] p.w fun e w' => e = .returned (.int .i64 (d.sT.f * d.z : Nat)) ∧ Below p.w.heap.size p.w w') := Lib.hid fun p => hf p.w p.h
    have HE : Hid (∀ p : After w, Calls Try.prog 33 #[.pointer (some ⟨B, 0, none⟩)] p.w fun e w' => e = .returned (.int .i64 (d.sT.f * d.z + d.sT.B.length : Nat)) ∧ Below p.w.heap.size p.w w') := Lib.hid fun p => he p.w p.h
    have hlen : d.sT.f * d.z + d.sT.B.length ≤ 1000000 := by have : d.sT.len d.z = d.sT.f * d.z + d.sT.B.length := rfl; omega
    have hbig2 : d.sT.len d.z + b.length ≤ 1000000 := by omega
    have HBIG := Lib.hid hbig2
    have hm' : ¬ (65536 : Int) < (b.length : Int) := by omega
    clear h hb h0 hf he hz hbig hbig2
    generalize hD : d.app b = D at *
    generalize hE0 : d.addE b = e0 at *
    obtain ⟨E, hEE⟩ : ∃ E, d.sT.f * d.z + d.sT.B.length = E := ⟨_, rfl⟩
    rw [hEE] at HE hlen
    generalize hF : d.sT.f * d.z = F at *
    generalize hT : d.sT.B.length = n0 at *
    generalize hn : b.length = n at *
    have x1 : (E : Int) - (F : Int) = (n0 : Int) := by omega
    have x2 : IntKind.i64.wrap (n0 : Int) = (n0 : Int) := IntWalk.i64_in _ (by omega)
    have x5 : IntKind.i64.wrap ((n0 : Int) + (n : Int)) = (n0 : Int) + (n : Int) := IntWalk.i64_in _ (by omega)
    have HM2 : ∀ p : After w, p.w.cell? ⟨B, 0, none⟩ = some (.int .i64 (d.M : Nat)) := HM.out
    have HMM : Hid (d.M = d.M) := Lib.hid rfl
    have HEE := Lib.hid hEE
    have HFF := Lib.hid hF
    have HTT := Lib.hid hT
    have HNN := Lib.hid hn
    have HDD := Lib.hid hD
    have HEZ := Lib.hid hE0
    clear hEE hF hT hn hD hE0
    by_cases hc : (d.M : Int) < (n0 : Int) + (n : Int)
    · obtain ⟨q1, q2⟩ := HE1.out hc
      subst q1
      have HX : Hid (∀ w', Below w.heap.size w w' → Turned w col c B D w') := Lib.hid fun w' hb' => by
        rw [q2]
        exact ⟨col, Ext.refl _ _, ⟨A, H.out.later hb'⟩, Chg.of_below hb'⟩
      clear HE1 HE2 q2
      generalize d.M = M at *
      go_enter Try.func11, Try.ntmps11
      go_wp2_with fail
      refine wp_region_after (by kernel_rfl) (by kernel_rfl) ?_
      repeat (go_big_quiet_step (first | (go_at_call 32; exact calls_after _ (HF.out _)) | (go_at_call 33; exact calls_after _ (HE.out _))))
      refine wpQuiet_nil ?_
      intro w3 hw
      obtain ⟨⟨wq, h6⟩, hw2⟩ := hw
      subst hw2
      have HX3 := Lib.hid (HX.out _ h6)
      clear h6
      go_wp2_with fail
      go_ret
      exact ⟨rfl, HX3.out⟩
    · obtain ⟨q1, q2⟩ := HE2.out hc
      subst q1
      have HD := Lib.hid q2
      clear HE1 HE2 q2
      have HMG : Hid (∃ M, M = d.M) := Lib.hid ⟨_, rfl⟩
      generalize hM : d.M = M at *
      have HMQ := Lib.hid hM
      clear hM
      go_enter Try.func11, Try.ntmps11
      go_wp2_with fail
      refine wp_region_after (by kernel_rfl) (by kernel_rfl) ?_
      repeat (go_big_quiet_step (first | (go_at_call 32; exact calls_after _ (HF.out _)) | (go_at_call 33; exact calls_after _ (HE.out _))))
      refine wpQuiet_nil ?_
      intro w3 hw
      obtain ⟨⟨wq, h6⟩, hw2⟩ := hw
      subst hw2
      have HB6 := Lib.hid h6
      have h1 := H.out.later h6
      have a2 : w3.cell? ⟨B, 2, none⟩ = some (.pointer (some ⟨A.T, 0, none⟩)) := block_cell h1.blk rfl
      obtain ⟨mb, ht⟩ := h1.seen.tp
      have hadd := tape_add ht p n cp b (SlG.later HB.out h6) (fun hm a ha e => HN.out hm a ha (by unfold own; rw [show col a.block = c + 2 + 1 from e]; omega)) (by have : d.sT.f * d.z + d.sT.B.length = d.sT.len d.z := rfl; have := HBIG.out; omega)
      have H1 := Lib.hid h1
      clear h6 h1 ht
      go_wp2_with fail
      refine hadd.mono ?_
      rintro e w2 ⟨rfl, ⟨mb', ht2⟩, hc2⟩
      have HS := Lib.hid (H1.out.half.set_seen (H1.out.seen.tape (Below.refl _ _) ht2 hc2))
      have HB2 : Hid (BL w2 p n cp b) := Lib.hid (BL.keep (SlG.later HB.out HB6.out) hc2 fun hm a ha e => HN.out hm a ha (by unfold own; rw [show col a.block = c + 2 + 1 from e]; omega))
      clear ht2 hc2 hadd
      have hcl := clone_b p n cp b w2 HB2.out (by omega)
      go_wp2_with fail
      refine hcl.mono ?_
      rintro e w4 ⟨p', c', rfl, hbl3, hn3, hb3⟩
      obtain ⟨⟨col2, he2, hd2⟩, hc2⟩ := HS.out
      have hnn := HNN.out
      subst hnn
      obtain ⟨he3, hd3, hok3⟩ := cloned_ok (x := .grow b) rfl hd2 hbl3 hn3 hb3
      have hwt := wait_any hd3 ⟨.grow b, p', c'⟩ hok3 _ _ rfl hL
      have HC2 := Lib.hid hc2
      have HE2 := Lib.hid he2
      have HE3 := Lib.hid he3
      have HB3 := Lib.hid hb3
      clear hbl3 hn3 hb3 he2 hd2 hc2 he3 hd3 hok3 hcl HS H1 HB2
      go_wp2_with fail
      refine hwt.mono ?_
      rintro e w5 ⟨rfl, ⟨A', col4, he4, hd4⟩, hc4⟩
      have HX : Hid (Turned w col c B D w5) := Lib.hid (by
        have hs6 := HB6.out.size
        have hs2 := HC2.out.size
        have hs3 := HB3.out.size
        have e02 : Ext w col col2 := (Ext.refl w col).trans HE2.out hs6
        have e23 := e02.trans HE3.out (Nat.le_trans hs6 hs2)
        refine ⟨col4, e23.trans he4 (Nat.le_trans hs6 (Nat.le_trans hs2 hs3)), ?_, ?_⟩
        · rw [HD.out]
          have e1 : d.sV = (d.add (.grow b)).sV := (add_sV d (.grow b)).symm
          have e2 : appT d.sT b = (d.add (.grow b)).sT := (add_sT d (.grow b)).symm
          refine ⟨A', Dkh.whole ?_⟩
          rw [← e1, ← e2]
          exact hd4
        · refine (((Chg.of_below HB6.out).trans HC2.out fun k _ h => h).trans (T := fun _ => False) (Chg.of_below HB3.out) fun k _ h => h.elim).trans hc4 fun k hk h => ?_
          unfold own at *
          rwa [e23 k hk] at h)
      clear he4 hd4 hc4 hwt
      go_wp2_with fail
      go_ret
      exact ⟨rfl, HX.out⟩
set_option maxHeartbeats 1000000 in
theorem disk_drop (h : Dk w col c B d) (hbig : d.tot ≤ 1000000) (hL : d.L.length < 1000000) (x : Int) :
    Calls Try.prog 26 #[.pointer (some ⟨B, 0, none⟩), .int .i64 x] w fun e w' => e = .returned (.tuple #[]) ∧ Turned w col c B (d.add (.drop x)) w' := by
  have hz := h.z_in
  have hsT := d.sT_len (by omega)
  obtain ⟨A, h⟩ := h
  have a2 : w.cell? ⟨B, 2, none⟩ = some (.pointer (some ⟨A.T, 0, none⟩)) := block_cell h.blk rfl
  obtain ⟨mb, ht⟩ := h.seen.tp
  have hdo := tape_drop ht x (by have : d.sT.f * d.z + d.sT.B.length = d.sT.len d.z := rfl; omega)
  have H := Lib.hid h
  clear h ht
  go_enter Try.func26, Try.ntmps26
  go_wp2_with fail
  refine hdo.mono ?_
  rintro e w2 ⟨rfl, ht2, hc2⟩
  have HS := Lib.hid (H.out.half.set_seen (H.out.seen.tape (Below.refl _ _) (ht2.mono fun k hk _ => .inl hk) hc2))
  obtain ⟨⟨col2, he2, hd2⟩, hc2'⟩ := HS.out
  have hwt := wait_any hd2 ⟨.drop x, none, 0⟩ ⟨SlG.empty _, fun h => absurd h (by simp [Dw.bytes])⟩ _ _ rfl hL
  have HC2 := Lib.hid hc2'
  have HE2 := Lib.hid he2
  clear ht2 hc2 hdo he2 hd2 hc2' HS
  go_wp2_with fail
  refine hwt.mono ?_
  rintro e w5 ⟨rfl, ⟨A', col4, he4, hd4⟩, hc4⟩
  have HX : Hid (Turned w col c B (d.add (.drop x)) w5) := Lib.hid (by
    have hs2 := HC2.out.size
    refine ⟨col4, HE2.out.trans he4 hs2, ?_, ?_⟩
    · have e1 : d.sV = (d.add (.drop x)).sV := (add_sV d (.drop x)).symm
      have e2 : dropT d.z d.sT x = (d.add (.drop x)).sT := (add_sT d (.drop x)).symm
      refine ⟨A', Dkh.whole ?_⟩
      rw [← e1, ← e2]
      exact hd4
    · refine HC2.out.trans hc4 fun k hk h => ?_
      unfold own at *
      rwa [HE2.out k hk] at h)
  clear he4 hd4 hc4 hwt
  go_wp2_with fail
  go_end0
  exact ⟨rfl, HX.out⟩
set_option maxHeartbeats 1000000 in
theorem disk_cut (h : Dk w col c B d) (hbig : d.tot ≤ 1000000) (hL : d.L.length < 1000000) (x : Int) :
    Calls Try.prog 27 #[.pointer (some ⟨B, 0, none⟩), .int .i64 x] w fun e w' => e = .returned (.tuple #[]) ∧ Turned w col c B (d.add (.cut x)) w' := by
  have hz := h.z_in
  have hsT := d.sT_len (by omega)
  obtain ⟨A, h⟩ := h
  have a2 : w.cell? ⟨B, 2, none⟩ = some (.pointer (some ⟨A.T, 0, none⟩)) := block_cell h.blk rfl
  obtain ⟨mb, ht⟩ := h.seen.tp
  have hdo := tape_cut ht x (by have : d.sT.f * d.z + d.sT.B.length = d.sT.len d.z := rfl; omega)
  have H := Lib.hid h
  clear h ht
  go_enter Try.func27, Try.ntmps27
  go_wp2_with fail
  refine hdo.mono ?_
  rintro e w2 ⟨rfl, ht2, hc2⟩
  have HS := Lib.hid (H.out.half.set_seen (H.out.seen.tape (Below.refl _ _) (ht2.mono fun k hk _ => .inl hk) hc2))
  obtain ⟨⟨col2, he2, hd2⟩, hc2'⟩ := HS.out
  have hwt := wait_any hd2 ⟨.cut x, none, 0⟩ ⟨SlG.empty _, fun h => absurd h (by simp [Dw.bytes])⟩ _ _ rfl hL
  have HC2 := Lib.hid hc2'
  have HE2 := Lib.hid he2
  clear ht2 hc2 hdo he2 hd2 hc2' HS
  go_wp2_with fail
  refine hwt.mono ?_
  rintro e w5 ⟨rfl, ⟨A', col4, he4, hd4⟩, hc4⟩
  have HX : Hid (Turned w col c B (d.add (.cut x)) w5) := Lib.hid (by
    have hs2 := HC2.out.size
    refine ⟨col4, HE2.out.trans he4 hs2, ?_, ?_⟩
    · have e1 : d.sV = (d.add (.cut x)).sV := (add_sV d (.cut x)).symm
      have e2 : cutT d.z d.sT x = (d.add (.cut x)).sT := (add_sT d (.cut x)).symm
      refine ⟨A', Dkh.whole ?_⟩
      rw [← e1, ← e2]
      exact hd4
    · refine HC2.out.trans hc4 fun k hk h => ?_
      unfold own at *
      rwa [HE2.out k hk] at h)
  clear he4 hd4 hc4 hwt
  go_wp2_with fail
  go_end0
  exact ⟨rfl, HX.out⟩
end
theorem disk_put0 (i : Int) (p : Option Addr) (m cp : Nat) (w : World) : Calls Try.prog 25 #[.pointer none, .int .i64 i, .slice p m cp] w fun e w' => e = .returned (.int .i64 1) ∧ Below w.heap.size w w' := by
  have hl := look_nil w
  have hpv := parts_vol
  go_enter Try.func25, Try.ntmps25
  go_wp2_with fail
  refine hl.mono ?_
  rintro e w1 ⟨rfl, hb⟩
  have HB := Lib.hid hb
  have hp := put_nil i p m cp w1
  clear hl hb
  go_wp2_with fail
  refine hp.mono ?_
  rintro e w2 ⟨rfl, rfl⟩
  go_wp2_with fail
  go_ret
  exact ⟨rfl, HB.out⟩
theorem disk_append0 (p : Option Addr) (m cp : Nat) (w : World) : Calls Try.prog 11 #[.pointer none, .slice p m cp] w fun e w' => e = .returned (.int .i64 1) ∧ w' = w := by
  go_enter Try.func11, Try.ntmps11
  go_wp2_with fail
  go_ret
  exact ⟨rfl, rfl⟩
theorem disk_drop0 (x : Int) (w : World) : Calls Try.prog 26 #[.pointer none, .int .i64 x] w fun e w' => e = .returned (.tuple #[]) ∧ w' = w := by
  go_enter Try.func26, Try.ntmps26
  go_wp2_with fail
  refine bodyPost_ret (results_none rfl _ _ _) rfl ?_
  exact ⟨rfl, rfl⟩
theorem disk_cut0 (x : Int) (w : World) : Calls Try.prog 27 #[.pointer none, .int .i64 x] w fun e w' => e = .returned (.tuple #[]) ∧ w' = w := by
  go_enter Try.func27, Try.ntmps27
  go_wp2_with fail
  refine bodyPost_ret (results_none rfl _ _ _) rfl ?_
  exact ⟨rfl, rfl⟩
end Go.Proofs.Ytdkpjaobfohdfaa
namespace Go.Proofs.Ytdkpjaobfohdfaa
open Go.RowKit Go.ChangeShapes Go.WideShapes
set_option linter.unusedVariables false
set_option maxRecDepth 10000
set_option linter.unusedSimpArgs false

/-- The first j writes are sure. -/
def DS.part (d : DS) (j : Nat) : DS := { d with V := foldV d.s d.V (d.L.take j), t := foldT d.z d.t (d.L.take j) }
structure Sy (w wr : World) (col col' : Nat → Nat) (c B : Nat) (A : Ad) (d : DS) (V : List (List Int)) (t : TS) (p : Option Addr) (n cp : Nat) (PL : List Pw) (j : Nat) : Prop where
  ext : Ext w col col'
  dk : Dkh wr col' c B A (d.part j) V t
  sl : SlG ew 1 yd wr p n cp PL
  at_ : 0 < n → ∀ a, p = some a → col' a.block = c + 1
  ok : ∀ y ∈ PL, y.ok wr col'
  len : PL.map (·.x) = d.L
  chg : Chg (fun k => col k = c + 4 ∨ col k = c + 5) w wr
theorem Sy.start {w : World} {col : Nat → Nat} {c B : Nat} {A : Ad} {d : DS} {V : List (List Int)} {t : TS} {p : Option Addr} {cp : Nat} {PL : List Pw} (h : Dkh w col c B A d V t) (hsl : SlG ew 1 yd w p d.L.length cp PL) (hat : 0 < d.L.length → ∀ a, p = some a → col a.block = c + 1) (hok : ∀ y ∈ PL, y.ok w col) (hl : PL.map (·.x) = d.L) : Sy w w col col c B A d V t p d.L.length cp PL 0 :=
  ⟨Ext.refl _ _, h, hsl, hat, hok, hl, Chg.refl _ _⟩
theorem Sy.drewN {w wr : World} {col col' : Nat → Nat} {c B : Nat} {A : Ad} {d : DS} {V : List (List Int)} {t : TS} {p : Option Addr} {n cp : Nat} {PL : List Pw} {j : Nat} (h : Sy w wr col col' c B A d V t p n cp PL j) (q : Nat) : Sy w (wr.drewN q) col col' c B A d V t p n cp PL j :=
  have hb := below_drewN (Below.refl wr.heap.size wr) q
  ⟨h.ext, h.dk.later hb, SlG.later h.sl hb, h.at_, fun y hy => (h.ok y hy).keep (Chg.of_below (S := fun _ => False) hb) fun _ _ h => h, h.len, h.chg.drewN q⟩
/-- The next write: what it is, and what it leaves. -/
theorem Sy.next {w wr : World} {col col' : Nat → Nat} {c B : Nat} {A : Ad} {d : DS} {V : List (List Int)} {t : TS} {p : Option Addr} {n cp : Nat} {PL : List Pw} {j : Nat} (h : Sy w wr col col' c B A d V t p n cp PL j) (hj : j < n) (hbig : d.tot ≤ 1000000) :
    ∃ y b off, p = some ⟨b, off, none⟩ ∧ wr.cell? ⟨b, off + j, none⟩ = some (.iface (wty y.x) (wval y)) ∧
      (∀ q, Calls Try.prog (wholeF y.x) #[wval y, .agg #[.pointer (some ⟨A.Bv', 0, none⟩), .pointer (some ⟨A.T', 0, none⟩)]] (wr.drewN q) fun e w' => e = .returned (.tuple #[]) ∧ ∃ col'', Sy w w' col col'' c B A d V t p n cp PL (j + 1)) := by
  obtain ⟨b, off, hp, hlt, hc⟩ := SlW_at h.sl hj
  have hl : PL.length = n := h.sl.len
  have hmem : PL.getD j yd ∈ PL := by
    rw [List.getD, List.getElem?_eq_getElem (by omega)]
    exact List.getElem_mem _
  have htake : d.L.take (j + 1) = d.L.take j ++ [(PL.getD j yd).x] := by
    have e : d.L[j]? = some (PL.getD j yd).x := by
      rw [← h.len, List.getElem?_map, List.getD, List.getElem?_eq_getElem (by omega)]
      rfl
    rw [List.take_add_one, e]
    rfl
  have hz := h.dk.seen.z_in
  have hz' : 64 ≤ d.z := hz.1
  have hw1 : (foldT d.z d.t (d.L.take j)).len d.z ≤ d.t.len d.z + wts (d.L.take j) := foldT_len (by omega) _ _
  have hw2 := wts_take_drop d.L (j + 1)
  rw [htake, wts_snoc] at hw2
  refine ⟨PL.getD j yd, b, off, hp, by rw [← Pw.val_eq]; exact hc, fun q => ?_⟩
  replace h := h.drewN q
  generalize wr.drewN q = wr at *
  have hsure : Pa wr col' (c + 4) A.Bv' A.T' d.s (foldV d.s d.V (d.L.take j)) d.a d.z (foldT d.z d.t (d.L.take j)) := h.dk.sure
  have h0 := h.dk.c0
  refine (whole_any hsure (by omega) _ (h.ok _ hmem) (by unfold DS.tot at hbig; omega)).mono ?_
  rintro e w' ⟨rfl, ⟨col'', he, hp'⟩, hch⟩
  have hch' : Chg (fun k => col'' k = c + 4 ∨ col'' k = c + 4 + 1) wr w' := hch.mono fun k hk h => by rw [he k hk]; exact h
  have g := h.dk.recol he
  refine ⟨rfl, col'', h.ext.trans he h.chg.size, ⟨g.c0, (hch'.block B (block_lt g.blk) (by have := g.cB; omega)).trans g.blk, g.cB, g.pe.keep hch' fun k hk => by omega, g.seen.keep hch' fun k hk => by omega, ?_, g.most⟩, ?_, ?_, ?_, h.len, ?_⟩
  · show Pa w' col'' (c + 4) A.Bv' A.T' d.s (foldV d.s d.V (d.L.take (j + 1))) d.a d.z (foldT d.z d.t (d.L.take (j + 1)))
    rw [htake, foldV_snoc, foldT_snoc]
    exact hp'
  · refine SlG.turn h.sl hch.size fun hn a ha hl => hch.block _ hl ?_
    have := h.at_ hn a ha
    omega
  · intro hn a ha
    obtain ⟨b2, off2, hp2, hlt2, _⟩ := h.sl.cell hn
    rw [hp2] at ha
    cases ha
    rw [he b2 hlt2]
    exact h.at_ hn _ hp2
  · exact fun y hy => ((h.ok y hy).recol he).keep hch' fun k hk => by omega
  · refine h.chg.trans hch fun k hk h2 => ?_
    have e1 := h.ext k hk
    rw [e1] at h2
    omega
/-- All are sure. -/
theorem Sy.done {w wr : World} {col col' : Nat → Nat} {c B : Nat} {A : Ad} {d : DS} {p : Option Addr} {n cp : Nat} {PL : List Pw} (h : Sy w wr col col' c B A d d.sV d.sT p n cp PL d.L.length) : Turned w col c B d.sync (wr.setCell ⟨B, 5, none⟩ (.slice none 0 0)) := by
  have hc : Chg (fun k => k = B) wr (wr.setCell ⟨B, 5, none⟩ (.slice none 0 0)) := (Chg.refl _ _).setCell _ _ fun _ => rfl
  have g := h.dk
  have hB := g.cB
  have h0 := g.c0
  refine ⟨col', h.ext, ⟨{ A with pv := .slice none 0 0 }, g.c0, block_put 5 _ g.blk, hB, Pe.nil _ _ _, ?_, ?_, g.most⟩, (h.chg.mono (T := own col c) fun k _ h => by unfold own; omega).trans hc fun k hk e => ?_⟩
  · exact g.seen.keep hc fun k hk e => by subst e; omega
  · have hsure : Pa wr col' (c + 4) A.Bv' A.T' d.s (foldV d.s d.V (d.L.take d.L.length)) d.a d.z (foldT d.z d.t (d.L.take d.L.length)) := g.sure
    rw [List.take_length] at hsure
    exact hsure.keep hc fun k hk e => by subst e; omega
  · subst e
    have := h.ext k hk
    unfold own
    omega
set_option maxHeartbeats 1000000 in
theorem disk_sync_h {w : World} {col : Nat → Nat} {c B : Nat} {A : Ad} {d : DS} {V : List (List Int)} {t : TS} (h : Dkh w col c B A d V t) (hbig : d.tot ≤ 1000000) (hL : d.L.length ≤ 1000000) :
    Calls Try.prog 12 #[.pointer (some ⟨B, 0, none⟩)] w fun e w' => e = .returned (.tuple #[]) ∧ ∃ col' wr p n cp PL, Sy w wr col col' c B A d V t p n cp PL d.L.length ∧ w' = wr.setCell ⟨B, 5, none⟩ (.slice none 0 0) := by
  obtain ⟨Bv, T, Bv', T', pv⟩ := A
  obtain ⟨p, cp, PL, hp, hPL, hsl, hok, hat⟩ := h.pe.sl
  simp only at hp
  subst hp
  have c5 : w.cell? ⟨B, 5, none⟩ = some (.slice p d.L.length cp) := block_cell h.blk rfl
  have HS := Lib.hid (Sy.start h hsl hat hok hPL)
  have hcap := hsl.cap
  have hmax := hsl.max
  clear hsl hok hat hPL h
  generalize hn : d.L.length = n at *
  have HN := Lib.hid hn
  clear hn
  go_enter Try.func12, Try.ntmps12
  go_wp2_with fail
  go_loopw [3, 11] (fun x i wr => ∃ (j : Nat) (col' : Nat → Nat) (x0 : Value), j ≤ n ∧ x = x0 ∧ i = .int .i64 (j : Nat) ∧ Hid (Sy w wr col col' c B ⟨Bv, T, Bv', T', .slice p n cp⟩ d V t p n cp PL j)) (fun _ i _ => n - (intOf i).toNat)
  case atStart => exact ⟨0, col, _, Nat.zero_le _, rfl, rfl, HS⟩
  case round =>
    obtain ⟨j, col', x0, hj, rfl, rfl, HF⟩ := hrel
    have b3 : wr.cell? ⟨B, 3, none⟩ = some (.pointer (some ⟨Bv', 0, none⟩)) := block_cell HF.out.dk.blk rfl
    have b4 : wr.cell? ⟨B, 4, none⟩ = some (.pointer (some ⟨T', 0, none⟩)) := block_cell HF.out.dk.blk rfl
    have b5 : wr.cell? ⟨B, 5, none⟩ = some (.slice p n cp) := block_cell HF.out.dk.blk rfl
    have g5 := block_free 5 HF.out.dk.blk
    by_cases hlt : j < n
    · have hlt' : (j : Int) < n := by omega
      obtain ⟨y, b, off, hpe, hcell, hcall⟩ := HF.out.next hlt hbig
      subst hpe
      have HCALL := Lib.hid hcall
      clear hcall
      have hah := whole_ahead y
      have hme := whole_meth y
      have hen := whole_enter y.x
      go_wp2_with fail
      go_region_law (first | (go_simp; refine (HCALL.out _).mono ?_; rintro e w2 ⟨rfl, col2, hsy⟩))
      all_goals
        have HSY := Lib.hid hsy
        clear hsy
        go_wp2_with fail
        go_roundw
        case rel => exact ⟨j + 1, col2, _, by omega, rfl, by go_num, HSY⟩
        case measure => simp [intOf]; omega
    · obtain rfl : n = j := by omega
      have hnn := HN.out
      go_wp2_with fail
      go_end0
      exact ⟨rfl, col', wr, p, n, cp, PL, HF.out, rfl⟩
theorem disk_sync {w : World} {col : Nat → Nat} {c B : Nat} {d : DS} (h : Dk w col c B d) (hbig : d.tot ≤ 1000000) (hL : d.L.length ≤ 1000000) :
    Calls Try.prog 12 #[.pointer (some ⟨B, 0, none⟩)] w fun e w' => e = .returned (.tuple #[]) ∧ Turned w col c B d.sync w' := by
  obtain ⟨A, h⟩ := h
  refine (disk_sync_h h.half hbig hL).mono ?_
  rintro e w' ⟨rfl, col', wr, p, n, cp, PL, hs, rfl⟩
  exact ⟨rfl, hs.done⟩
theorem disk_sync0 (w : World) : Calls Try.prog 12 #[.pointer none] w fun e w' => e = .returned (.tuple #[]) ∧ w' = w := by
  go_enter Try.func12, Try.ntmps12
  go_wp2_with fail
  refine bodyPost_ret (results_none rfl _ _ _) rfl ?_
  exact ⟨rfl, rfl⟩
end Go.Proofs.Ytdkpjaobfohdfaa
namespace Go.Proofs.Ytdkpjaobfohdfaa
open Go.RowKit Go.ChangeShapes Go.WideShapes
set_option linter.unusedVariables false
set_option maxRecDepth 10000
set_option linter.unusedSimpArgs false

/-- The first writes of a row. -/
theorem own_take_w {w : World} {p : Option Addr} {n cp k : Nat} {PL : List Pw} (h : w.ownsRow 0 82 1 (.slice p n cp) n (flatG ew PL)) (hk : k ≤ n) : w.ownsRow 0 82 1 (.slice p k cp) k (flatG ew (PL.take k)) := by
  have hl : PL.length = n := by
    have := h.1
    rwa [flatW_len, Nat.mul_one] at this
  have ht : ∀ L : List Pw, ∀ k, flatG ew (L.take k) = (flatG ew L).take k := by
    intro L
    induction L with
    | nil => intro k; simp [flatG]
    | cons x L ih =>
      intro k
      cases k with
      | zero => simp [flatG]
      | succ k =>
        have := ih k
        unfold flatG at *
        rw [List.take_succ_cons, List.flatMap_cons, List.flatMap_cons, this]
        rfl
  refine ⟨by rw [flatW_len, List.length_take]; omega, ?_⟩
  rcases h.2 with ⟨h1, h2⟩ | ⟨g, cap, cur, h1, h2, h3, h4, h5, h6, h7⟩
  · cases h1
    obtain rfl : k = 0 := by omega
    exact .inl ⟨rfl, rfl⟩
  · cases h1
    refine .inr ⟨g, cp, cur, rfl, h2, h3, by omega, h5, h6, ?_⟩
    rw [ht, ← h7, List.take_take]
    congr 1
    omega
section
variable {w : World} {col : Nat → Nat} {c B : Nat} {d : DS} {A : Ad} {V : List (List Int)} {t : TS}
def DS.cutL (d : DS) (k : Nat) : DS := { d with L := d.L.take k }
/-- Behind the store of the first k. -/
theorem Dkh.cut_pending {Bv T Bv' T' : Nat} {p : Option Addr} {cp : Nat} (h : Dkh w col c B ⟨Bv, T, Bv', T', .slice p d.L.length cp⟩ d V t) (k : Nat) (hk : k ≤ d.L.length) :
    Dkh (w.setCell ⟨B, 5, none⟩ (.slice p k cp)) col c B ⟨Bv, T, Bv', T', .slice p k cp⟩ (d.cutL k) V t ∧ Chg (fun x => x = B) w (w.setCell ⟨B, 5, none⟩ (.slice p k cp)) := by
  have hc : Chg (fun x => x = B) w (w.setCell ⟨B, 5, none⟩ (.slice p k cp)) := (Chg.refl _ _).setCell _ _ fun _ => rfl
  obtain ⟨⟨PL, q1, q2, q3⟩, q4⟩ := h.pe
  have hl : PL.length = d.L.length := by rw [← q1, List.length_map]
  have hB := h.cB
  have h0 := h.c0
  rw [hl] at q2
  refine ⟨⟨h.c0, block_put 5 _ h.blk, h.cB, ⟨⟨PL.take k, ?_, ?_, fun y hy => (q3 y (List.mem_of_mem_take hy)).keep hc fun x hx e => by subst e; omega⟩, fun x hx => ?_⟩, h.seen.keep hc fun x hx e => by subst e; omega, h.sure.keep hc fun x hx e => by subst e; omega, h.most⟩, hc⟩
  · show (PL.take k).map (·.x) = d.L.take k
    rw [← q1, List.map_take]
  · rw [List.length_take, Nat.min_eq_left (by omega)]
    refine own_keep (own_take_w q2 hk) hc fun x hx e => ?_
    subst e
    have : (Value.slice p d.L.length cp).ownBlock = some x := by cases p <;> exact hx
    have := q4 x this
    omega
  · have : (Value.slice p d.L.length cp).ownBlock = some x := by cases p <;> exact hx
    exact q4 x this
/-- Behind Sync, all that was to be done. -/
theorem Sy.end_ {w wr : World} {col col' : Nat → Nat} {c B : Nat} {A : Ad} {d : DS} {p : Option Addr} {n cp k : Nat} {PL : List Pw} (h : Sy w wr col col' c B A d V t p n cp PL k) (hk : k = d.L.length) :
    Dkh (wr.setCell ⟨B, 5, none⟩ (.slice none 0 0)) col' c B { A with pv := .slice none 0 0 } ⟨d.M, d.a, d.z, d.s, foldV d.s d.V d.L, foldT d.z d.t d.L, []⟩ V t ∧ Chg (fun k => col k = c ∨ col k = c + 4 ∨ col k = c + 5) w (wr.setCell ⟨B, 5, none⟩ (.slice none 0 0)) := by
  subst hk
  have hc : Chg (fun k => k = B) wr (wr.setCell ⟨B, 5, none⟩ (.slice none 0 0)) := (Chg.refl _ _).setCell _ _ fun _ => rfl
  have g := h.dk
  have hB := g.cB
  have h0 := g.c0
  have hsure : Pa wr col' (c + 4) A.Bv' A.T' d.s (foldV d.s d.V (d.L.take d.L.length)) d.a d.z (foldT d.z d.t (d.L.take d.L.length)) := g.sure
  rw [List.take_length] at hsure
  refine ⟨⟨g.c0, block_put 5 _ g.blk, hB, Pe.nil _ _ _, g.seen.keep hc fun k hk e => by subst e; omega, hsure.keep hc fun k hk e => by subst e; omega, g.most⟩, (h.chg.mono (T := fun k => col k = c ∨ col k = c + 4 ∨ col k = c + 5) fun k _ h => .inr h).trans hc fun k hk e => ?_⟩
  subst e
  have := h.ext k hk
  omega
/-- What is sure was written. -/
theorem Dkh.set_sure {w' : World} {V' : List (List Int)} {t' : TS} (h : Dkh w col c B A d V t) (hw : (∃ col', Ext w col col' ∧ Pa w' col' (c + 4) A.Bv' A.T' d.s V' d.a d.z t') ∧ Chg (fun k => col k = c + 4 ∨ col k = c + 4 + 1) w w') :
    (∃ col', Ext w col col' ∧ Dkh w' col' c B A { d with V := V', t := t' } V t) ∧ Chg (own col c) w w' := by
  obtain ⟨⟨col', he, hp⟩, hc⟩ := hw
  have h0 := h.c0
  have g := h.recol he
  have hc' : Chg (fun k => col' k = c + 4 ∨ col' k = c + 4 + 1) w w' := hc.mono fun k hk h => by rw [he k hk]; exact h
  refine ⟨⟨col', he, g.c0, (hc'.block B (block_lt g.blk) (by have := g.cB; omega)).trans g.blk, g.cB, g.pe.keep hc' fun k hk => by omega, g.seen.keep hc' fun k hk => by omega, hp, g.most⟩, hc.mono fun k _ h => by unfold own; omega⟩
/-- What is seen is what is sure, anew. -/
theorem Dkh.renew {w5 : World} {b2 t2 : Nat} (h : Dkh w col c B A d V t) (hL : d.L = []) (hb : Below w.heap.size w w5) (hf : Fresh w w5 b2 t2 d.s d.V d.a d.z d.t) :
    ∃ col', Ext w col col' ∧ Dk ((w5.setCell ⟨B, 1, none⟩ (.pointer (some ⟨b2, 0, none⟩))).setCell ⟨B, 2, none⟩ (.pointer (some ⟨t2, 0, none⟩))) col' c B d ∧ Chg (own col c) w ((w5.setCell ⟨B, 1, none⟩ (.pointer (some ⟨b2, 0, none⟩))).setCell ⟨B, 2, none⟩ (.pointer (some ⟨t2, 0, none⟩))) := by
  have hc : Chg (fun k => k = B) w5 ((w5.setCell ⟨B, 1, none⟩ (.pointer (some ⟨b2, 0, none⟩))).setCell ⟨B, 2, none⟩ (.pointer (some ⟨t2, 0, none⟩))) := ((Chg.refl (fun k => k = B) w5).setCell ⟨B, 1, none⟩ _ fun _ => rfl).setCell ⟨B, 2, none⟩ _ fun _ => rfl
  obtain ⟨col', he, hp⟩ := hf col (c + 2)
  have g := (h.recol he).later hb
  have hB := g.cB
  have h0 := g.c0
  obtain ⟨Bv, T, Bv', T', pv⟩ := A
  refine ⟨col', he, ⟨⟨b2, t2, Bv', T', pv⟩, g.c0, block_put 2 _ (block_put 1 _ g.blk), hB, g.pe.keep hc fun k hk e => by subst e; omega, ?_, g.sure.keep hc fun k hk e => by subst e; omega, g.most⟩, (Chg.of_below hb).trans hc fun k hk e => ?_⟩
  · have e1 : d.sV = d.V := by unfold DS.sV; rw [hL]; rfl
    have e2 : d.sT = d.t := by unfold DS.sT; rw [hL]; rfl
    rw [e1, e2]
    exact hp.keep hc fun k hk e => by subst e; omega
  · subst e
    have := he k hk
    unfold own
    omega
end
set_option maxHeartbeats 2000000 in
/-- All that is pending is kept. -/
theorem disk_crash_all {w : World} {col : Nat → Nat} {c B : Nat} {d : DS} (h : Dk w col c B d) (hbig : d.tot ≤ 1000000) (hL : d.L.length ≤ 1000000) (keep tear : Int) (hk : kp keep d.L.length = d.L.length) :
    Calls Try.prog 14 #[.pointer (some ⟨B, 0, none⟩), .int .i64 keep, .int .i64 tear] w fun e w' => e = .returned (.tuple #[]) ∧ Turned w col c B (d.crash keep tear) w' := by
  obtain ⟨⟨Bv, T, Bv', T', pv⟩, h⟩ := h
  obtain ⟨p, cp, PL, hp, hPL, hsl, hok, hat⟩ := h.pe.sl
  simp only at hp
  subst hp
  have hcap := hsl.cap
  have hd : d.crash keep tear = ⟨d.M, d.a, d.z, d.s, foldV d.s d.V d.L, foldT d.z d.t d.L, []⟩ := by
    unfold DS.crash crV crT
    rw [hk, List.drop_length, List.take_length]
  have HD := Lib.hid hd
  generalize d.crash keep tear = D at *
  have c5 : w.cell? ⟨B, 5, none⟩ = some (.slice p d.L.length cp) := block_cell h.blk rfl
  have g5 := block_free 5 h.blk
  have HK := Lib.hid fun w => disk_kept keep (d.L.length : Nat) w (by omega)
  rw [hk] at HK
  obtain ⟨hcut, hcc⟩ := h.half.cut_pending d.L.length (Nat.le_refl _)
  have hcl : d.cutL d.L.length = d := by unfold DS.cutL; rw [List.take_length]
  rw [hcl] at hcut
  have hsy := disk_sync_h hcut hbig hL
  have HC := Lib.hid hcc
  have HH := Lib.hid h
  clear hd hk hPL hsl hok hat h hcut hcc hcl
  generalize hn : d.L.length = n at *
  have HN := Lib.hid hn
  clear hn
  by_cases hcn : cp = n
  · subst hcn
    go_enter Try.func14, Try.ntmps14
    go_wp2_with fail
    refine (HK.out _).mono ?_
    rintro e w1 ⟨rfl, rfl⟩
    go_wp2_with fail
    refine hsy.mono ?_
    rintro e w2 ⟨rfl, col', wr, p1, n1, cp1, PL1, hs, hw2⟩
    obtain ⟨hd3, hc3⟩ := hs.end_ HN.out.symm
    have HE := Lib.hid hs.ext
    rw [← hw2] at hd3 hc3
    have hz := hd3.seen.z_in
    have hbo := both_any hd3.sure (by have h1 := foldT_len (z := d.z) (by have : 64 ≤ d.z := hz.1; omega) d.L d.t; unfold DS.tot at hbig; exact Nat.le_trans h1 hbig)
    have b3 : w2.cell? ⟨B, 3, none⟩ = some (.pointer (some ⟨Bv', 0, none⟩)) := block_cell hd3.blk rfl
    have b4 : w2.cell? ⟨B, 4, none⟩ = some (.pointer (some ⟨T', 0, none⟩)) := block_cell hd3.blk rfl
    have HD3 := Lib.hid hd3
    have HC3 := Lib.hid hc3
    clear hd3 hc3 hs hw2 hsy hz
    go_wp2_with fail
    refine hbo.mono ?_
    rintro e w5 ⟨b2, t2, rfl, hf5, hb5⟩
    obtain ⟨col6, he6, hd6, hc6⟩ := HD3.out.renew rfl hb5 hf5
    have hblk5 := block_later HD3.out.blk hb5
    have x1 := block_cell (j := 1) hblk5 (v := .pointer (some ⟨Bv, 0, none⟩)) rfl
    have x2 := block_cell (j := 2) hblk5 (v := .pointer (some ⟨T, 0, none⟩)) rfl
    have y1 := block_free 1 hblk5
    have y2 := block_free 2 hblk5
    have HX : Hid (Turned w1 col c B D ((w5.setCell ⟨B, 1, none⟩ (.pointer (some ⟨b2, 0, none⟩))).setCell ⟨B, 2, none⟩ (.pointer (some ⟨t2, 0, none⟩)))) := Lib.hid (by
      have s1 := HC.out.size
      have s3 := HC3.out.size
      have e1 : Ext w1 col col' := fun k hk => HE.out k (Nat.lt_of_lt_of_le hk s1)
      rw [HD.out]
      have h0 := HH.out.c0
      have hB := HH.out.cB
      refine ⟨col6, e1.trans he6 (Nat.le_trans s1 s3), hd6, ((HC.out.mono (T := own col c) fun k _ e => ?_).trans HC3.out fun k _ h => ?_).trans hc6 fun k hk h => ?_⟩
      · subst e; unfold own; omega
      · unfold own; omega
      · unfold own at *
        rwa [e1 k hk] at h)
    clear hf5 hb5 he6 hd6 hc6 hblk5 hbo
    go_wp2_with fail
    go_end0
    exact ⟨rfl, HX.out⟩
  · go_enter Try.func14, Try.ntmps14
    go_wp2_with fail
    refine (HK.out _).mono ?_
    rintro e w1 ⟨rfl, rfl⟩
    go_wp2_with fail
    refine hsy.mono ?_
    rintro e w2 ⟨rfl, col', wr, p1, n1, cp1, PL1, hs, hw2⟩
    obtain ⟨hd3, hc3⟩ := hs.end_ HN.out.symm
    have HE := Lib.hid hs.ext
    rw [← hw2] at hd3 hc3
    have hz := hd3.seen.z_in
    have hbo := both_any hd3.sure (by have h1 := foldT_len (z := d.z) (by have : 64 ≤ d.z := hz.1; omega) d.L d.t; unfold DS.tot at hbig; exact Nat.le_trans h1 hbig)
    have b3 : w2.cell? ⟨B, 3, none⟩ = some (.pointer (some ⟨Bv', 0, none⟩)) := block_cell hd3.blk rfl
    have b4 : w2.cell? ⟨B, 4, none⟩ = some (.pointer (some ⟨T', 0, none⟩)) := block_cell hd3.blk rfl
    have HD3 := Lib.hid hd3
    have HC3 := Lib.hid hc3
    clear hd3 hc3 hs hw2 hsy hz
    go_wp2_with fail
    refine hbo.mono ?_
    rintro e w5 ⟨b2, t2, rfl, hf5, hb5⟩
    obtain ⟨col6, he6, hd6, hc6⟩ := HD3.out.renew rfl hb5 hf5
    have hblk5 := block_later HD3.out.blk hb5
    have x1 := block_cell (j := 1) hblk5 (v := .pointer (some ⟨Bv, 0, none⟩)) rfl
    have x2 := block_cell (j := 2) hblk5 (v := .pointer (some ⟨T, 0, none⟩)) rfl
    have y1 := block_free 1 hblk5
    have y2 := block_free 2 hblk5
    have HX : Hid (Turned w1 col c B D ((w5.setCell ⟨B, 1, none⟩ (.pointer (some ⟨b2, 0, none⟩))).setCell ⟨B, 2, none⟩ (.pointer (some ⟨t2, 0, none⟩)))) := Lib.hid (by
      have s1 := HC.out.size
      have s3 := HC3.out.size
      have e1 : Ext w1 col col' := fun k hk => HE.out k (Nat.lt_of_lt_of_le hk s1)
      rw [HD.out]
      have h0 := HH.out.c0
      have hB := HH.out.cB
      refine ⟨col6, e1.trans he6 (Nat.le_trans s1 s3), hd6, ((HC.out.mono (T := own col c) fun k _ e => ?_).trans HC3.out fun k _ h => ?_).trans hc6 fun k hk h => ?_⟩
      · subst e; unfold own; omega
      · unfold own; omega
      · unfold own at *
        rwa [e1 k hk] at h)
    clear hf5 hb5 he6 hd6 hc6 hblk5 hbo
    go_wp2_with fail
    go_end0
    exact ⟨rfl, HX.out⟩
theorem cutL_tot (d : DS) (k : Nat) : (d.cutL k).tot ≤ d.tot := by
  have := wts_take_drop d.L k
  show d.t.len d.z + wts (d.L.take k) ≤ d.t.len d.z + wts d.L
  omega
set_option maxHeartbeats 2000000 in
/-- Something is lost. -/
theorem disk_crash_some {w : World} {col : Nat → Nat} {c B : Nat} {d : DS} (h : Dk w col c B d) (hbig : d.tot ≤ 1000000) (hL : d.L.length ≤ 1000000) (keep tear : Int) (k : Nat) (hk : kp keep d.L.length = k) (hkn : k < d.L.length) :
    Calls Try.prog 14 #[.pointer (some ⟨B, 0, none⟩), .int .i64 keep, .int .i64 tear] w fun e w' => e = .returned (.tuple #[]) ∧ Turned w col c B (d.crash keep tear) w' := by
  obtain ⟨⟨Bv, T, Bv', T', pv⟩, h⟩ := h
  obtain ⟨p, cp, PL, hp, hPL, hsl, hok, hat⟩ := h.pe.sl
  simp only at hp
  subst hp
  have hcap := hsl.cap
  have hlen : PL.length = d.L.length := hsl.len
  obtain ⟨b, off, hp, hbl, hcell⟩ := SlW_at hsl hkn
  subst hp
  have hbc : col b = c + 1 := hat (by omega) _ rfl
  have hLk : d.L[k]? = some (PL.getD k yd).x := by
    rw [← hPL, List.getElem?_map, List.getD, List.getElem?_eq_getElem (by omega)]
    rfl
  have hmem : PL.getD k yd ∈ PL := by
    rw [List.getD, List.getElem?_eq_getElem (by omega)]
    exact List.getElem_mem _
  have hoky := hok _ hmem
  have hd : d.crash keep tear = ⟨d.M, d.a, d.z, d.s, dwVn d.s tear (foldV d.s d.V (d.L.take k)) (PL.getD k yd).x, dwTn tear (foldT d.z d.t (d.L.take k)) (PL.getD k yd).x, []⟩ := by
    have hdr : d.L.drop k = (PL.getD k yd).x :: d.L.drop (k + 1) := by
      rw [List.drop_eq_getElem_cons hkn]
      congr 1
      rw [List.getElem?_eq_getElem hkn] at hLk
      exact Option.some.inj hLk
    unfold DS.crash crV crT
    rw [hk, hdr]
  have hwt : (foldT d.z d.t (d.L.take k)).len d.z + (PL.getD k yd).x.wt ≤ 1000000 := by
    have hz := h.seen.z_in
    have h1 := foldT_len (z := d.z) (by omega) (d.L.take k) d.t
    have h2 := wts_take_drop d.L (k + 1)
    rw [List.take_add_one, hLk] at h2
    simp only [Option.toList_some] at h2
    rw [wts_snoc] at h2
    unfold DS.tot at hbig
    omega
  generalize PL.getD k yd = y at *
  have HD := Lib.hid hd
  generalize d.crash keep tear = D at *
  have c5 : w.cell? ⟨B, 5, none⟩ = some (.slice (some ⟨b, off, none⟩) d.L.length cp) := block_cell h.blk rfl
  have g5 := block_free 5 h.blk
  have HK := Lib.hid fun w => disk_kept keep (d.L.length : Nat) w (by omega)
  rw [hk] at HK
  obtain ⟨hcut, hcc⟩ := h.half.cut_pending k (by omega)
  have hlk : k = (d.cutL k).L.length := by show k = (d.L.take k).length; rw [List.length_take]; omega
  have hsy := disk_sync_h hcut (Nat.le_trans (cutL_tot d k) hbig) (by rw [← hlk]; omega)
  rw [← hlk] at hsy
  have HC := Lib.hid hcc
  have HH := Lib.hid h
  have HLK := Lib.hid hlk
  have HOK := Lib.hid hoky
  have HCELL := Lib.hid hcell
  have HBL := Lib.hid hbl
  have HBC := Lib.hid hbc
  have HWT := Lib.hid hwt
  have hne : ¬ cp = k := by omega
  have hk1 : (k : Int) ≤ (d.L.length : Int) := by omega
  have hk2 : (k : Int) ≤ (cp : Int) := by omega
  have hk3 : ¬ (d.L.length : Int) ≤ (k : Int) := by omega
  have hk4 : k ≤ d.L.length := by omega
  have hk5 : k ≤ cp := by omega
  obtain ⟨m, hm⟩ : ∃ m, d.L.length - k = m := ⟨_, rfl⟩
  have hm0 : 0 < m := by omega
  have hm1 : (0 : Int) < (m : Int) := by omega
  have hm2 : decide ((0 : Int) < (m : Int)) = true := decide_eq_true hm1
  clear hd hk hPL hsl hok hat h hcut hcc hlk hoky hcell hbl hbc hwt hLk hmem hlen hkn
  generalize hn : d.L.length = n at *
  have HN := Lib.hid hn
  clear hn
  go_enter Try.func14, Try.ntmps14
  go_wp2_with fail
  refine (HK.out _).mono ?_
  rintro e w1 ⟨rfl, rfl⟩
  go_wp2_with fail
  refine hsy.mono ?_
  rintro e w2 ⟨rfl, col', wr, p1, n1, cp1, PL1, hs, hw2⟩
  obtain ⟨hd3, hc3⟩ := hs.end_ HLK.out
  have hext := hs.ext
  rw [← hw2] at hd3 hc3
  have s1 := HC.out.size
  have hb12 : w2.heap[b]? = w1.heap[b]? := (hc3.block b (Nat.lt_of_lt_of_le HBL.out s1) (by have := HBC.out; omega)).trans (HC.out.block b HBL.out (by have h1 := HBC.out; have h2 := HH.out.cB; rintro rfl; have h3 : col b = c := h2; omega))
  have he1 : Ext w1 col col' := fun x hx => hext x (Nat.lt_of_lt_of_le hx s1)
  have hoky2 : y.ok w2 col' := by
    have hB := HH.out.cB
    have h0 := HH.out.c0
    have g := (HOK.out.keep HC.out fun x hx e => by subst e; omega).keep hc3 fun x hx e => by omega
    refine ⟨g.bl, fun h0 a ha => ?_⟩
    obtain ⟨b', off', hp', hlt', _⟩ := BL.at HOK.out.bl h0
    rw [hp'] at ha
    cases ha
    rw [he1 b' hlt']
    exact HOK.out.c0 h0 _ hp'
  have hcell2 : w2.cell? ⟨b, off + k, none⟩ = some (.iface (wty y.x) (wval y)) := by
    rw [← Pw.val_eq]
    exact (World.cell?_of_block (a := ⟨b, off + k, none⟩) hb12).trans HCELL.out
  have b3 : w2.cell? ⟨B, 3, none⟩ = some (.pointer (some ⟨Bv', 0, none⟩)) := block_cell hd3.blk rfl
  have b4 : w2.cell? ⟨B, 4, none⟩ = some (.pointer (some ⟨T', 0, none⟩)) := block_cell hd3.blk rfl
  have HT : Hid (∀ q, Calls Try.prog (tornF y.x) #[wval y, .agg #[.pointer (some ⟨Bv', 0, none⟩), .pointer (some ⟨T', 0, none⟩)], .int .i64 tear] (w2.drewN q) (Wrote w2 col' (c + 4) Bv' T' d.s (dwVn d.s tear (foldV d.s d.V (d.L.take k)) y.x) d.a d.z (dwTn tear (foldT d.z d.t (d.L.take k)) y.x))) := Lib.hid fun q => by
    have hbq := below_drewN (Below.refl w2.heap.size w2) q
    refine (torn_any (hd3.sure.later hbq) (by have := hd3.c0; omega) y (hoky2.keep (Chg.of_below (S := fun _ => False) hbq) fun _ _ h => h) HWT.out tear).mono ?_
    rintro e w' ⟨h1, h2, h3⟩
    exact ⟨h1, h2, h3.undrew⟩
  have HD3 := Lib.hid hd3
  have HC3 := Lib.hid hc3
  have HE := Lib.hid he1
  clear hd3 hc3 hs hw2 hsy hext he1 hoky2 hb12
  have hme := torn_meth y
  have hen := torn_enter y.x
  go_wp2_with fail
  go_region_law (first | (go_simp; refine (HT.out _).mono ?_; rintro e w4 ⟨rfl, hw4, hc4⟩))
  all_goals
    obtain ⟨⟨col4, he4, hd4⟩, hc4'⟩ := HD3.out.set_sure ⟨hw4, hc4⟩
    have hbo := both_any hd4.sure (Nat.le_trans (dwTn_len _ _ _ _) HWT.out)
    have b3' : w4.cell? ⟨B, 3, none⟩ = some (.pointer (some ⟨Bv', 0, none⟩)) := block_cell hd4.blk rfl
    have b4' : w4.cell? ⟨B, 4, none⟩ = some (.pointer (some ⟨T', 0, none⟩)) := block_cell hd4.blk rfl
    have HD4 := Lib.hid hd4
    have HC4 := Lib.hid hc4'
    have HE4 := Lib.hid he4
    clear hd4 hc4 hc4' hw4 he4
    go_wp2_with fail
    refine hbo.mono ?_
    rintro e w5 ⟨b2, t2, rfl, hf5, hb5⟩
    obtain ⟨col6, he6, hd6, hc6⟩ := HD4.out.renew rfl hb5 hf5
    have hblk5 := block_later HD4.out.blk hb5
    have x1 := block_cell (j := 1) hblk5 (v := .pointer (some ⟨Bv, 0, none⟩)) rfl
    have x2 := block_cell (j := 2) hblk5 (v := .pointer (some ⟨T, 0, none⟩)) rfl
    have y1 := block_free 1 hblk5
    have y2 := block_free 2 hblk5
    have HX : Hid (Turned w1 col c B D ((w5.setCell ⟨B, 1, none⟩ (.pointer (some ⟨b2, 0, none⟩))).setCell ⟨B, 2, none⟩ (.pointer (some ⟨t2, 0, none⟩)))) := Lib.hid (by
      have s3 := HC3.out.size
      have s4 := HC4.out.size
      have e14 : Ext w1 col col4 := HE.out.trans HE4.out (Nat.le_trans s1 s3)
      rw [HD.out]
      have h0 := HH.out.c0
      have hB := HH.out.cB
      refine ⟨col6, e14.trans he6 (Nat.le_trans s1 (Nat.le_trans s3 s4)), hd6, (((HC.out.mono (T := own col c) fun k _ e => ?_).trans HC3.out fun k _ h => ?_).trans HC4.out fun k hk h => ?_).trans hc6 fun k hk h => ?_⟩
      · subst e; unfold own; omega
      · unfold own; omega
      · unfold own at *
        rwa [HE.out k hk] at h
      · unfold own at *
        rwa [e14 k hk] at h)
    clear hf5 hb5 he6 hd6 hc6 hblk5 hbo
    go_wp2_with fail
    go_end0
    exact ⟨rfl, HX.out⟩
theorem disk_crash {w : World} {col : Nat → Nat} {c B : Nat} {d : DS} (h : Dk w col c B d) (hbig : d.tot ≤ 1000000) (hL : d.L.length ≤ 1000000) (keep tear : Int) :
    Calls Try.prog 14 #[.pointer (some ⟨B, 0, none⟩), .int .i64 keep, .int .i64 tear] w fun e w' => e = .returned (.tuple #[]) ∧ Turned w col c B (d.crash keep tear) w' := by
  have h1 := kp_le keep (d.L.length : Nat) (by omega)
  rcases Nat.lt_or_ge (kp keep d.L.length) d.L.length with h2 | h2
  · exact disk_crash_some h hbig hL keep tear _ rfl h2
  · exact disk_crash_all h hbig hL keep tear (by omega)
theorem disk_crash0 (x y : Int) (w : World) : Calls Try.prog 14 #[.pointer none, .int .i64 x, .int .i64 y] w fun e w' => e = .returned (.tuple #[]) ∧ w' = w := by
  go_enter Try.func14, Try.ntmps14
  go_wp2_with fail
  refine bodyPost_ret (results_none rfl _ _ _) rfl ?_
  exact ⟨rfl, rfl⟩
end Go.Proofs.Ytdkpjaobfohdfaa
namespace Go.Proofs.Ytdkpjaobfohdfaa
open Go.RowKit Go.ChangeShapes Go.WideShapes
set_option linter.unusedVariables false
set_option maxRecDepth 10000
set_option linter.unusedSimpArgs false

/-- An act, its bytes among it. -/
structure Ac where
  k : Nat
  n : Int
  tear : Int
  x : Int
  q : Option Addr
  m : Nat
  cq : Nat
  b : List Int
def ac0 : Ac := ⟨0, 0, 0, 0, none, 0, 0, []⟩
/-- An act's cells. -/
def ac (a : Ac) : List Value := [.int .u8 (a.k : Nat), .int .i64 a.n, .int .i64 a.tear, .int .i64 a.x, .slice a.q a.m a.cq]
theorem ac_len (a : Ac) : (ac a).length = 5 := rfl
/-- A slice of acts, each act's bytes in their row. -/
structure AL (w : World) (p : Option Addr) (n c : Nat) (L : List Ac) : Prop where
  row : SlG ac 5 ac0 w p n c L
  each : ∀ y ∈ L, BL w y.q y.m y.cq y.b ∧ y.k < 256
theorem AL.later {w w' : World} {p : Option Addr} {n c : Nat} {L : List Ac} (h : AL w p n c L) (hb : Below w.heap.size w w') : AL w' p n c L := ⟨h.row.later hb, fun y hy => ⟨SlG.later (h.each y hy).1 hb, (h.each y hy).2⟩⟩
theorem AL.at {w : World} {p : Option Addr} {n c : Nat} {L : List Ac} (h : AL w p n c L) {j : Nat} (hj : j < n) : ∃ b off, p = some ⟨b, off, none⟩ ∧ b < w.heap.size ∧ (w.cell? ⟨b, off + j * 5, none⟩ = some (.int .u8 ((L.getD j ac0).k : Nat)) ∧ w.cell? ⟨b, off + j * 5 + 1, none⟩ = some (.int .i64 (L.getD j ac0).n) ∧ w.cell? ⟨b, off + j * 5 + 2, none⟩ = some (.int .i64 (L.getD j ac0).tear) ∧
    w.cell? ⟨b, off + j * 5 + 3, none⟩ = some (.int .i64 (L.getD j ac0).x) ∧ w.cell? ⟨b, off + j * 5 + 4, none⟩ = some (.slice (L.getD j ac0).q (L.getD j ac0).m (L.getD j ac0).cq)) ∧ BL w (L.getD j ac0).q (L.getD j ac0).m (L.getD j ac0).cq (L.getD j ac0).b ∧ (L.getD j ac0).k < 256 := by
  obtain ⟨b, off, rfl, hb, hc⟩ := h.row.cell (by omega)
  have hl : j < L.length := by rw [h.row.len]; exact hj
  have hm : L.getD j ac0 ∈ L := by
    rw [List.getD, List.getElem?_eq_getElem hl]
    exact List.getElem_mem hl
  exact ⟨b, off, rfl, hb, ⟨hc j hj 0 _ rfl, hc j hj 1 _ rfl, hc j hj 2 _ rfl, hc j hj 3 _ rfl, hc j hj 4 _ rfl⟩, (h.each _ hm).1, (h.each _ hm).2⟩
/-- What few says. -/
def FewSays (n : Nat) (L : List Ac) (w : World) (e : Ending) (w' : World) : Prop := (∃ t : Bool, e = .returned (.bool t) ∧ (t = true → n ≤ 40 ∧ ∀ j, j < n → (L.getD j ac0).m ≤ 300)) ∧ w' = w
set_option maxHeartbeats 1000000 in
theorem few_any (p : Option Addr) (n c : Nat) (L : List Ac) (w : World) (h : AL w p n c L) : Calls Try.prog 4 #[.slice p n c] w (FewSays n L w) := by
  have H := Lib.hid h
  clear h
  go_enter Try.func4, Try.ntmps4
  by_cases hn : 40 < n
  · have hn' : (40 : Int) < n := by omega
    go_wp2_with fail
    go_ret
    exact ⟨⟨false, rfl, fun h => by cases h⟩, rfl⟩
  · have hn' : ¬ (40 : Int) < n := by omega
    go_wp2_with fail
    go_loop [3] (fun i => ∃ k : Nat, k ≤ n ∧ i = .int .i64 k ∧ Hid (∀ j, j < k → (L.getD j ac0).m ≤ 300)) (fun i => n - (intOf i).toNat)
    case atStart => exact ⟨0, Nat.zero_le _, rfl, Lib.hid fun j hj => by omega⟩
    case round =>
      obtain ⟨k, hk, rfl, HK⟩ := hrel
      by_cases hlt : k < n
      · have hlt' : (k : Int) < n := by omega
        obtain ⟨b, off, rfl, _, ⟨_, _, _, _, c1⟩, _⟩ := H.out.at hlt
        have HM : Hid ((L.getD k ac0).m ≤ 300 → ∀ j, j < k + 1 → (L.getD j ac0).m ≤ 300) := Lib.hid fun h j hj => by
          rcases Nat.lt_or_ge j k with h' | h'
          · exact HK.out j h'
          · obtain rfl : j = k := by omega
            exact h
        generalize (L.getD k ac0).q = q at *
        generalize (L.getD k ac0).m = m at *
        generalize (L.getD k ac0).cq = cq at *
        by_cases hm : 300 < m
        · have hm' : (300 : Int) < m := by omega
          go_wp2_with fail
          go_ret
          exact ⟨⟨false, rfl, fun h => by cases h⟩, rfl⟩
        · have hm' : ¬ (300 : Int) < m := by omega
          go_wp2_with fail
          go_round
          case rel => exact ⟨k + 1, by omega, by go_num, Lib.hid (HM.out (by omega))⟩
          case measure => simp [intOf]; omega
      · obtain rfl : k = n := by omega
        go_wp2_with fail
        go_ret
        exact ⟨⟨true, rfl, fun _ => ⟨by omega, HK.out⟩⟩, rfl⟩
section
variable {w : World} {col : Nat → Nat} {c B : Nat} {d : DS}
theorem Turned.later {w1 : World} (hb : Below w.heap.size w w1) {w' : World} (h : Turned w1 col c B d w') : Turned w col c B d w' := by
  obtain ⟨col', he, hd, hc⟩ := h
  exact ⟨col', fun k hk => he k (Nat.lt_of_lt_of_le hk hb.size), hd, (Chg.of_below hb).trans hc fun k _ h => h⟩
/-- What do says. -/
def DidD (w : World) (col : Nat → Nat) (c B : Nat) (d : DS) (k : Nat) (n tear x : Int) (b : List Int) (e : Ending) (w' : World) : Prop := e = .returned (.int .i64 (actE d k n b)) ∧ Turned w col c B (actD d k n tear x b) w'
set_option maxHeartbeats 1000000 in
theorem do_put (h : Dk w col c B d) (hbig : d.tot + 70000 ≤ 1000000) (hL : d.L.length < 1000000) (k : Nat) (hk : k < 256) (n tear x : Int) (q : Option Addr) (m cq : Nat) (b : List Int) (hb : BL w q m cq b) (h0 : 0 < m → ∀ a, q = some a → ¬ own col c a.block) (hkind : k % 6 = 0) :
    Calls Try.prog 9 #[.pointer (some ⟨B, 0, none⟩), .agg #[.int .u8 (k : Nat), .int .i64 n, .int .i64 tear, .int .i64 x, .slice q m cq]] w fun e w' => e = .returned (.int .i64 (d.putE n b)) ∧ Turned w col c B (d.put n b) w' := by
  have hbw : Below w.heap.size w (w.alloc (.cells #[.int .u8 (k : Nat), .int .i64 n, .int .i64 tear, .int .i64 x, .slice q m cq] 41)) := (Below.refl _ _).alloc (Nat.le_refl _) _
  have hA := alloc_block w (.cells #[.int .u8 (k : Nat), .int .i64 n, .int .i64 tear, .int .i64 x, .slice q m cq] 41)
  have HC := Lib.hid (disk_put (h.later hbw) (by omega) n q m cq b (SlG.later hb hbw) h0)
  have HBW := Lib.hid hbw
  have y0 := block_cell (j := 0) hA (v := .int .u8 (k : Nat)) rfl
  have y1 := block_cell (j := 1) hA (v := .int .i64 n) rfl
  have y2 := block_cell (j := 2) hA (v := .int .i64 tear) rfl
  have y3 := block_cell (j := 3) hA (v := .int .i64 x) rfl
  have y4 := block_cell (j := 4) hA (v := .slice q m cq) rfl
  have hk4 : (k : Int) % 6 = ((k % 6 : Nat) : Int) := by omega
  have hk5 : (k : Int).tmod 6 = ((k % 6 : Nat) : Int) := by rw [Int.tmod_eq_emod_of_nonneg (by omega)]; exact hk4
  generalize hkk : k % 6 = kk at *
  have hw8 : IntKind.u8.wrap (kk : Int) = (kk : Int) := by rw [IntKind.wrap_u8]; omega
  clear hbw hA h hb h0 hkk
  generalize d.put n b = D at *
  generalize d.putE n b = e0 at *
  obtain rfl : kk = 0 := hkind
  go_enter Try.func9, Try.ntmps9
  go_wp2_with fail
  generalize w.alloc (.cells #[.int .u8 (k : Nat), .int .i64 n, .int .i64 tear, .int .i64 x, .slice q m cq] 41) = W at *
  refine HC.out.mono ?_
  rintro e w2 ⟨rfl, ht⟩
  have HT := Lib.hid (ht.later HBW.out)
  clear ht
  go_wp2_with fail
  go_ret
  exact ⟨rfl, HT.out⟩
set_option maxHeartbeats 1000000 in
theorem do_append (h : Dk w col c B d) (hbig : d.tot + 70000 ≤ 1000000) (hL : d.L.length < 1000000) (k : Nat) (hk : k < 256) (n tear x : Int) (q : Option Addr) (m cq : Nat) (b : List Int) (hb : BL w q m cq b) (h0 : 0 < m → ∀ a, q = some a → ¬ own col c a.block) (hkind : k % 6 = 1) :
    Calls Try.prog 9 #[.pointer (some ⟨B, 0, none⟩), .agg #[.int .u8 (k : Nat), .int .i64 n, .int .i64 tear, .int .i64 x, .slice q m cq]] w fun e w' => e = .returned (.int .i64 (d.addE b)) ∧ Turned w col c B (d.app b) w' := by
  have hbw : Below w.heap.size w (w.alloc (.cells #[.int .u8 (k : Nat), .int .i64 n, .int .i64 tear, .int .i64 x, .slice q m cq] 41)) := (Below.refl _ _).alloc (Nat.le_refl _) _
  have hA := alloc_block w (.cells #[.int .u8 (k : Nat), .int .i64 n, .int .i64 tear, .int .i64 x, .slice q m cq] 41)
  have HC := Lib.hid (disk_append (h.later hbw) (by omega) (by omega) q m cq b (SlG.later hb hbw) h0)
  have HBW := Lib.hid hbw
  have y0 := block_cell (j := 0) hA (v := .int .u8 (k : Nat)) rfl
  have y1 := block_cell (j := 1) hA (v := .int .i64 n) rfl
  have y2 := block_cell (j := 2) hA (v := .int .i64 tear) rfl
  have y3 := block_cell (j := 3) hA (v := .int .i64 x) rfl
  have y4 := block_cell (j := 4) hA (v := .slice q m cq) rfl
  have hk4 : (k : Int) % 6 = ((k % 6 : Nat) : Int) := by omega
  have hk5 : (k : Int).tmod 6 = ((k % 6 : Nat) : Int) := by rw [Int.tmod_eq_emod_of_nonneg (by omega)]; exact hk4
  generalize hkk : k % 6 = kk at *
  have hw8 : IntKind.u8.wrap (kk : Int) = (kk : Int) := by rw [IntKind.wrap_u8]; omega
  clear hbw hA h hb h0 hkk
  generalize d.app b = D at *
  generalize d.addE b = e0 at *
  obtain rfl : kk = 1 := hkind
  go_enter Try.func9, Try.ntmps9
  go_wp2_with fail
  generalize w.alloc (.cells #[.int .u8 (k : Nat), .int .i64 n, .int .i64 tear, .int .i64 x, .slice q m cq] 41) = W at *
  refine HC.out.mono ?_
  rintro e w2 ⟨rfl, ht⟩
  have HT := Lib.hid (ht.later HBW.out)
  clear ht
  go_wp2_with fail
  go_ret
  exact ⟨rfl, HT.out⟩
set_option maxHeartbeats 1000000 in
theorem do_drop (h : Dk w col c B d) (hbig : d.tot + 70000 ≤ 1000000) (hL : d.L.length < 1000000) (k : Nat) (hk : k < 256) (n tear x : Int) (q : Option Addr) (m cq : Nat) (b : List Int) (hb : BL w q m cq b) (h0 : 0 < m → ∀ a, q = some a → ¬ own col c a.block) (hkind : k % 6 = 2) :
    Calls Try.prog 9 #[.pointer (some ⟨B, 0, none⟩), .agg #[.int .u8 (k : Nat), .int .i64 n, .int .i64 tear, .int .i64 x, .slice q m cq]] w fun e w' => e = .returned (.int .i64 (0)) ∧ Turned w col c B (d.add (.drop x)) w' := by
  have hbw : Below w.heap.size w (w.alloc (.cells #[.int .u8 (k : Nat), .int .i64 n, .int .i64 tear, .int .i64 x, .slice q m cq] 41)) := (Below.refl _ _).alloc (Nat.le_refl _) _
  have hA := alloc_block w (.cells #[.int .u8 (k : Nat), .int .i64 n, .int .i64 tear, .int .i64 x, .slice q m cq] 41)
  have HC := Lib.hid (disk_drop (h.later hbw) (by omega) (by omega) x)
  have HBW := Lib.hid hbw
  have y0 := block_cell (j := 0) hA (v := .int .u8 (k : Nat)) rfl
  have y1 := block_cell (j := 1) hA (v := .int .i64 n) rfl
  have y2 := block_cell (j := 2) hA (v := .int .i64 tear) rfl
  have y3 := block_cell (j := 3) hA (v := .int .i64 x) rfl
  have y4 := block_cell (j := 4) hA (v := .slice q m cq) rfl
  have hk4 : (k : Int) % 6 = ((k % 6 : Nat) : Int) := by omega
  have hk5 : (k : Int).tmod 6 = ((k % 6 : Nat) : Int) := by rw [Int.tmod_eq_emod_of_nonneg (by omega)]; exact hk4
  generalize hkk : k % 6 = kk at *
  have hw8 : IntKind.u8.wrap (kk : Int) = (kk : Int) := by rw [IntKind.wrap_u8]; omega
  clear hbw hA h hb h0 hkk
  generalize d.add (.drop x) = D at *
  obtain rfl : kk = 2 := hkind
  go_enter Try.func9, Try.ntmps9
  go_wp2_with fail
  generalize w.alloc (.cells #[.int .u8 (k : Nat), .int .i64 n, .int .i64 tear, .int .i64 x, .slice q m cq] 41) = W at *
  refine HC.out.mono ?_
  rintro e w2 ⟨rfl, ht⟩
  have HT := Lib.hid (ht.later HBW.out)
  clear ht
  go_wp2_with fail
  go_ret
  exact ⟨rfl, HT.out⟩
set_option maxHeartbeats 1000000 in
theorem do_cut (h : Dk w col c B d) (hbig : d.tot + 70000 ≤ 1000000) (hL : d.L.length < 1000000) (k : Nat) (hk : k < 256) (n tear x : Int) (q : Option Addr) (m cq : Nat) (b : List Int) (hb : BL w q m cq b) (h0 : 0 < m → ∀ a, q = some a → ¬ own col c a.block) (hkind : k % 6 = 3) :
    Calls Try.prog 9 #[.pointer (some ⟨B, 0, none⟩), .agg #[.int .u8 (k : Nat), .int .i64 n, .int .i64 tear, .int .i64 x, .slice q m cq]] w fun e w' => e = .returned (.int .i64 (0)) ∧ Turned w col c B (d.add (.cut x)) w' := by
  have hbw : Below w.heap.size w (w.alloc (.cells #[.int .u8 (k : Nat), .int .i64 n, .int .i64 tear, .int .i64 x, .slice q m cq] 41)) := (Below.refl _ _).alloc (Nat.le_refl _) _
  have hA := alloc_block w (.cells #[.int .u8 (k : Nat), .int .i64 n, .int .i64 tear, .int .i64 x, .slice q m cq] 41)
  have HC := Lib.hid (disk_cut (h.later hbw) (by omega) (by omega) x)
  have HBW := Lib.hid hbw
  have y0 := block_cell (j := 0) hA (v := .int .u8 (k : Nat)) rfl
  have y1 := block_cell (j := 1) hA (v := .int .i64 n) rfl
  have y2 := block_cell (j := 2) hA (v := .int .i64 tear) rfl
  have y3 := block_cell (j := 3) hA (v := .int .i64 x) rfl
  have y4 := block_cell (j := 4) hA (v := .slice q m cq) rfl
  have hk4 : (k : Int) % 6 = ((k % 6 : Nat) : Int) := by omega
  have hk5 : (k : Int).tmod 6 = ((k % 6 : Nat) : Int) := by rw [Int.tmod_eq_emod_of_nonneg (by omega)]; exact hk4
  generalize hkk : k % 6 = kk at *
  have hw8 : IntKind.u8.wrap (kk : Int) = (kk : Int) := by rw [IntKind.wrap_u8]; omega
  clear hbw hA h hb h0 hkk
  generalize d.add (.cut x) = D at *
  obtain rfl : kk = 3 := hkind
  go_enter Try.func9, Try.ntmps9
  go_wp2_with fail
  generalize w.alloc (.cells #[.int .u8 (k : Nat), .int .i64 n, .int .i64 tear, .int .i64 x, .slice q m cq] 41) = W at *
  refine HC.out.mono ?_
  rintro e w2 ⟨rfl, ht⟩
  have HT := Lib.hid (ht.later HBW.out)
  clear ht
  go_wp2_with fail
  go_ret
  exact ⟨rfl, HT.out⟩
set_option maxHeartbeats 1000000 in
theorem do_sync (h : Dk w col c B d) (hbig : d.tot + 70000 ≤ 1000000) (hL : d.L.length < 1000000) (k : Nat) (hk : k < 256) (n tear x : Int) (q : Option Addr) (m cq : Nat) (b : List Int) (hb : BL w q m cq b) (h0 : 0 < m → ∀ a, q = some a → ¬ own col c a.block) (hkind : k % 6 = 4) :
    Calls Try.prog 9 #[.pointer (some ⟨B, 0, none⟩), .agg #[.int .u8 (k : Nat), .int .i64 n, .int .i64 tear, .int .i64 x, .slice q m cq]] w fun e w' => e = .returned (.int .i64 (0)) ∧ Turned w col c B (d.sync) w' := by
  have hbw : Below w.heap.size w (w.alloc (.cells #[.int .u8 (k : Nat), .int .i64 n, .int .i64 tear, .int .i64 x, .slice q m cq] 41)) := (Below.refl _ _).alloc (Nat.le_refl _) _
  have hA := alloc_block w (.cells #[.int .u8 (k : Nat), .int .i64 n, .int .i64 tear, .int .i64 x, .slice q m cq] 41)
  have HC := Lib.hid (disk_sync (h.later hbw) (by omega) (by omega))
  have HBW := Lib.hid hbw
  have y0 := block_cell (j := 0) hA (v := .int .u8 (k : Nat)) rfl
  have y1 := block_cell (j := 1) hA (v := .int .i64 n) rfl
  have y2 := block_cell (j := 2) hA (v := .int .i64 tear) rfl
  have y3 := block_cell (j := 3) hA (v := .int .i64 x) rfl
  have y4 := block_cell (j := 4) hA (v := .slice q m cq) rfl
  have hk4 : (k : Int) % 6 = ((k % 6 : Nat) : Int) := by omega
  have hk5 : (k : Int).tmod 6 = ((k % 6 : Nat) : Int) := by rw [Int.tmod_eq_emod_of_nonneg (by omega)]; exact hk4
  generalize hkk : k % 6 = kk at *
  have hw8 : IntKind.u8.wrap (kk : Int) = (kk : Int) := by rw [IntKind.wrap_u8]; omega
  clear hbw hA h hb h0 hkk
  generalize d.sync = D at *
  obtain rfl : kk = 4 := hkind
  go_enter Try.func9, Try.ntmps9
  go_wp2_with fail
  generalize w.alloc (.cells #[.int .u8 (k : Nat), .int .i64 n, .int .i64 tear, .int .i64 x, .slice q m cq] 41) = W at *
  refine HC.out.mono ?_
  rintro e w2 ⟨rfl, ht⟩
  have HT := Lib.hid (ht.later HBW.out)
  clear ht
  go_wp2_with fail
  go_ret
  exact ⟨rfl, HT.out⟩
set_option maxHeartbeats 1000000 in
theorem do_crash (h : Dk w col c B d) (hbig : d.tot + 70000 ≤ 1000000) (hL : d.L.length < 1000000) (k : Nat) (hk : k < 256) (n tear x : Int) (q : Option Addr) (m cq : Nat) (b : List Int) (hb : BL w q m cq b) (h0 : 0 < m → ∀ a, q = some a → ¬ own col c a.block) (hkind : k % 6 = 5) :
    Calls Try.prog 9 #[.pointer (some ⟨B, 0, none⟩), .agg #[.int .u8 (k : Nat), .int .i64 n, .int .i64 tear, .int .i64 x, .slice q m cq]] w fun e w' => e = .returned (.int .i64 (0)) ∧ Turned w col c B (d.crash n tear) w' := by
  have hbw : Below w.heap.size w (w.alloc (.cells #[.int .u8 (k : Nat), .int .i64 n, .int .i64 tear, .int .i64 x, .slice q m cq] 41)) := (Below.refl _ _).alloc (Nat.le_refl _) _
  have hA := alloc_block w (.cells #[.int .u8 (k : Nat), .int .i64 n, .int .i64 tear, .int .i64 x, .slice q m cq] 41)
  have HC := Lib.hid (disk_crash (h.later hbw) (by omega) (by omega) n tear)
  have HBW := Lib.hid hbw
  have y0 := block_cell (j := 0) hA (v := .int .u8 (k : Nat)) rfl
  have y1 := block_cell (j := 1) hA (v := .int .i64 n) rfl
  have y2 := block_cell (j := 2) hA (v := .int .i64 tear) rfl
  have y3 := block_cell (j := 3) hA (v := .int .i64 x) rfl
  have y4 := block_cell (j := 4) hA (v := .slice q m cq) rfl
  have hk4 : (k : Int) % 6 = ((k % 6 : Nat) : Int) := by omega
  have hk5 : (k : Int).tmod 6 = ((k % 6 : Nat) : Int) := by rw [Int.tmod_eq_emod_of_nonneg (by omega)]; exact hk4
  generalize hkk : k % 6 = kk at *
  have hw8 : IntKind.u8.wrap (kk : Int) = (kk : Int) := by rw [IntKind.wrap_u8]; omega
  clear hbw hA h hb h0 hkk
  generalize d.crash n tear = D at *
  obtain rfl : kk = 5 := hkind
  go_enter Try.func9, Try.ntmps9
  go_wp2_with fail
  generalize w.alloc (.cells #[.int .u8 (k : Nat), .int .i64 n, .int .i64 tear, .int .i64 x, .slice q m cq] 41) = W at *
  refine HC.out.mono ?_
  rintro e w2 ⟨rfl, ht⟩
  have HT := Lib.hid (ht.later HBW.out)
  clear ht
  go_wp2_with fail
  go_ret
  exact ⟨rfl, HT.out⟩
theorem do_any (h : Dk w col c B d) (hbig : d.tot + 70000 ≤ 1000000) (hL : d.L.length < 1000000) (k : Nat) (hk : k < 256) (n tear x : Int) (q : Option Addr) (m cq : Nat) (b : List Int) (hb : BL w q m cq b) (h0 : 0 < m → ∀ a, q = some a → ¬ own col c a.block) :
    Calls Try.prog 9 #[.pointer (some ⟨B, 0, none⟩), .agg #[.int .u8 (k : Nat), .int .i64 n, .int .i64 tear, .int .i64 x, .slice q m cq]] w (DidD w col c B d k n tear x b) := by
  unfold DidD actD actE
  have hlt := Nat.mod_lt k (show 0 < 6 by omega)
  by_cases h00 : k % 6 = 0
  · rw [if_pos h00, if_pos h00]; exact do_put h hbig hL k hk n tear x q m cq b hb h0 h00
  · rw [if_neg h00, if_neg h00]
    by_cases h1 : k % 6 = 1
    · rw [if_pos h1, if_pos h1]; exact do_append h hbig hL k hk n tear x q m cq b hb h0 h1
    · rw [if_neg h1, if_neg h1]
      by_cases h2 : k % 6 = 2
      · rw [if_pos h2]; exact do_drop h hbig hL k hk n tear x q m cq b hb h0 h2
      · rw [if_neg h2]
        by_cases h3 : k % 6 = 3
        · rw [if_pos h3]; exact do_cut h hbig hL k hk n tear x q m cq b hb h0 h3
        · rw [if_neg h3]
          by_cases h4 : k % 6 = 4
          · rw [if_pos h4]; exact do_sync h hbig hL k hk n tear x q m cq b hb h0 h4
          · rw [if_neg h4]; exact do_crash h hbig hL k hk n tear x q m cq b hb h0 (by omega)
end
end Go.Proofs.Ytdkpjaobfohdfaa
