/- Append: the walk. -/
import Derived.Test.YtdkpjaobfohdfaaTapeApp
namespace Go.Proofs.Ytdkpjaobfohdfaa
open Go.RowKit Go.ChangeShapes Go.WideShapes
set_option linter.unusedVariables false
set_option maxRecDepth 10000
set_option linter.unusedSimpArgs false

theorem tape_add0 (p : Option Addr) (m c : Nat) (w : World) : Calls Try.prog 37 #[.pointer none, .slice p m c] w fun e w' => e = .returned (.tuple #[]) ∧ w' = w := by
  go_enter Try.func37, Try.ntmps37
  go_wp2_with fail
  refine bodyPost_ret (results_none rfl _ _ _) rfl ?_
  exact ⟨rfl, rfl⟩
theorem wf_nat (n : Nat) (h : n ≤ 1000000) : (Lit.int .i64 (n : Int)).wf = true := WalkArith.wf_i64 (by omega)
/-- A map held against nil. -/
theorem map_nil_in (d : Nat) (q : Option Nat) (w : World) : (Op.equalIn (d + 1) 87 (.map q) (.map none)).run Try.prog w = .ok q.isNone w := by
  cases q <;> simp [Op.equalIn, run_underlying Try.underlying87]
theorem map_nil (q : Option Nat) (w : World) : (binOp .eql 87 (.map q) (.map none)).run Try.prog w = .ok (.bool q.isNone) w := by
  simp only [binOp]
  simp [show Op.equal 87 (.map q) (.map none) = Op.equalIn (9999 + 1) 87 (.map q) (.map none) from rfl, map_nil_in 9999 q w]
/-- A slice's length. -/
def lenV : Value → Nat
  | .slice _ n _ => n
  | _ => 0
/-- A new map in the tape's block. -/
theorem Tp.made {w : World} {T : Nat} {Q : Nat → Prop} {a : Int} {s : Nat} {t : TS} (h : Tp w T none Q a s t) : Tp ((w.alloc (.map #[] 0)).setCell ⟨T, 3, none⟩ (.map (some w.heap.size))) T (some w.heap.size) (fun k => Q k ∨ w.heap.size ≤ k) a s t ∧ Chg Q w ((w.alloc (.map #[] 0)).setCell ⟨T, 3, none⟩ (.map (some w.heap.size))) := by
  have hb1 : Below w.heap.size w (w.alloc (.map #[] 0)) := (Below.refl _ _).alloc (Nat.le_refl _) _
  have hT := block_later h.blk hb1
  have hlt := block_lt h.blk
  obtain ⟨h1, h2⟩ := h.no rfl
  have hc : Chg (fun k => k = T) (w.alloc (.map #[] 0)) ((w.alloc (.map #[] 0)).setCell ⟨T, 3, none⟩ (.map (some w.heap.size))) := (Chg.refl _ _).setCell _ _ fun _ => rfl
  have hn0 : nS s 0 = 0 := nS_eq (by have := h.s_in; omega) (by omega) (fun i hi => by omega)
  refine ⟨⟨h.seg, block_put 3 _ hT, fun e => (by cases e), fun b e => ?_, .inl h.q⟩, (Chg.of_below hb1).trans hc fun k _ e => by rw [e]; exact h.q⟩
  cases e
  rw [h1, h2]
  refine ⟨.inr (Nat.le_refl _), fun _ => (0, 0), .map [], ?_, ?_, Seg.zero _ _ _ _ _⟩
  · have := (World.ownsMap_made (H := Sv) w Try.prog 2 heldElem).setCell (a := ⟨T, 3, none⟩) (by show w.heap.size ≠ T; omega) (.map (some w.heap.size))
    rw [List.length_nil, hn0]
    exact this
  · rw [List.length_nil, hn0]
    exact Tm.empty.congr (fun y => by unfold So; rw [if_neg (by simp)]) rfl
section
variable {w : World} {T : Nat} {mb : Option Nat} {Q : Nat → Prop} {a : Int} {s : Nat} {t : TS}
set_option maxHeartbeats 2000000 in
set_option maxRecDepth 100000 in
theorem tape_add (h : Tp w T mb Q a s t) (p : Option Addr) (m c : Nat) (b : List Int) (hb : BL w p m c b) (hap : 0 < m → ∀ a, p = some a → ¬ Q a.block) (hbig : t.f * s + t.B.length + m ≤ 1000000) :
    Calls Try.prog 37 #[.pointer (some ⟨T, 0, none⟩), .slice p m c] w fun e w' => e = .returned (.tuple #[]) ∧ (∃ mb', Tp w' T mb' (fun k => Q k ∨ w.heap.size ≤ k) a s (appT t b)) ∧ Chg Q w w' := by
  have hs := h.s_in
  have HB : Hid (b.length = m) := Lib.hid hb.len
  have HSEG := Lib.hid h.seg
  have HBIG := Lib.hid hbig
  have hap2 : 0 < m → ∀ a, p = some a → ¬ (Q a.block ∨ w.heap.size ≤ a.block) := fun h0 ad ha => by
    obtain ⟨b0, off, he, hlt, _⟩ := BL.at hb h0
    rw [he] at ha
    cases ha
    rintro (e | e)
    · exact hap h0 _ he e
    · have : w.heap.size ≤ b0 := e
      omega
  have HAP := Lib.hid hap2
  have HLO := Lib.hid (Nat.le_refl w.heap.size)
  clear hap hap2 hbig
  cases mb with
  | some mb =>
    have HTP : Hid (Tp w T (some mb) (fun k => Q k ∨ w.heap.size ≤ k) a s t) := Lib.hid (h.mono fun k hk _ => .inl hk)
    have HCH := Lib.hid (Chg.refl Q w)
    have HBL := Lib.hid hb
    have c3 := h.cells.2.2.2
    have hq := map_nil (some mb)
    clear h hb
    go_enter Try.func37, Try.ntmps37
    go_wp2_with fail
    clear c3 hq
    obtain ⟨W1, hW1⟩ : ∃ W1, W1 = w := ⟨_, rfl⟩
    have HTP1 : Hid (Tp W1 T (some mb) (fun k => Q k ∨ w.heap.size ≤ k) a s t) := by rw [hW1]; exact HTP
    have HCH1 : Hid (Chg Q w W1) := by rw [hW1]; exact HCH
    have HBL1 : Hid (BL W1 p m c b) := by rw [hW1]; exact HBL
    rw [← hW1]
    clear hW1 HTP HCH HBL
    go_loopw [1] (fun bv wr => ∃ (j : Nat) (pj : Option Addr) (cj : Nat), j ≤ m ∧ bv = .slice pj (m - j) cj ∧ Hid (BL wr pj (m - j) cj (b.drop j)) ∧ Hid (0 < m - j → ∀ a, pj = some a → ¬ (Q a.block ∨ w.heap.size ≤ a.block)) ∧ Hid (Tp wr T (some mb) (fun k => Q k ∨ w.heap.size ≤ k) a s ⟨t.f, t.B ++ b.take j⟩) ∧ Hid (Chg Q w wr)) (fun bv _ => lenV bv)
    case atStart => exact ⟨0, p, c, Nat.zero_le _, rfl, HBL1, HAP, by simpa using HTP1, HCH1⟩
    case round =>
      obtain ⟨j, pj, cj, hj, rfl, HBJ, HAJ, HTJ, HCJ⟩ := hrel
      have HJ := Lib.hid hj
      obtain ⟨k, hk⟩ : ∃ k, m - j = k := ⟨_, rfl⟩
      rw [hk] at HBJ HAJ ⊢
      have HK := Lib.hid hk
      clear hk hj
      by_cases hk0 : 0 < k
      · have hk0' : (0 : Int) < (k : Int) := by omega
        obtain ⟨pb, po, rfl, _, _⟩ := HBJ.out.at hk0
        have hlj : (t.B ++ b.take j).length + k = t.B.length + m := by
          rw [List.length_append, List.length_take]
          have := HB.out; have := HK.out; have := HJ.out
          omega
        have HBX : Hid (t.B ++ b.take j ++ (b.drop j).take (min (s - (t.B ++ b.take j).length % s) k) = t.B ++ b.take (j + min (s - (t.B ++ b.take j).length % s) k)) := Lib.hid (by rw [List.append_assoc, ← List.take_add])
        have HDX : Hid (∀ n, (b.drop j).drop n = b.drop (j + n)) := Lib.hid fun n => List.drop_drop
        generalize t.B ++ b.take j = B at *
        generalize b.drop j = L at *
        obtain ⟨i1, i2⟩ := idx_div (by omega : 0 < s) t.f B.length
        have hmod := Nat.mod_lt B.length (by omega : 0 < s)
        have hcap := HBJ.out.cap
        have hmax : cj ≤ 9223372036854775807 := by have := HBJ.out.max; unfold maxLen at this; omega
        have hE2 : t.f * s + B.length ≤ 1000000 := by have := HBIG.out; omega
        have hdb := Nat.div_le_self B.length s
        have hfs : t.f ≤ t.f * s := Nat.le_mul_of_pos_right _ (by omega)
        have HTWO : Hid (t.f * s + B.length + k ≤ 1000000) := Lib.hid (by have := HBIG.out; omega)
        obtain ⟨c1, c2, c3, hsg⟩ := HTJ.out.at rfl rfl
        clear c1 c3
        have hlk : t.f + B.length / s ≤ 1000000 := by omega
        have q0 : ((s : Int) == 0) = false := by simp; omega
        have q1 : ¬ s = 0 := by omega
        dsimp only at c2
        generalize hyy : B.length / s = y at *
        generalize hrr : B.length % s = r at *
        generalize hEE : t.f * s + B.length = E at *
        have d1 : (E : Int).tdiv (s : Int) = ((t.f + y : Nat) : Int) := by rw [← i1]; rfl
        have d2 : (E : Int).tmod (s : Int) = (r : Int) := by rw [← i2]; rfl
        have d3 : IntKind.i64.wrap ((t.f + y : Nat) : Int) = ((t.f + y : Nat) : Int) := IntWalk.i64_in _ (by omega)
        have d4 : IntKind.i64.wrap (r : Int) = (r : Int) := IntWalk.i64_in _ (by omega)
        have d5 : IntKind.i64.wrap ((s : Int) - (r : Int)) = ((s : Int) - (r : Int)) := IntWalk.i64_in _ (by omega)
        have hnpos : 0 < min (s - r) k := by omega
        have hnk : min (s - r) k ≤ k := by omega
        have hnr : min (s - r) k ≤ s - r := by omega
        have n1 : min ((s : Int) - (r : Int)) (k : Int) = ((min (s - r) k : Nat) : Int) := by omega
        have n2 : (if (k : Int) < (s : Int) - (r : Int) then (k : Int) else (s : Int) - (r : Int)) = ((min (s - r) k : Nat) : Int) := by split <;> omega
        generalize hnn : min (s - r) k = n at *
        have hnc : n ≤ cj := by omega
        have HYY := Lib.hid hyy
        have HRR := Lib.hid hrr
        have HEE := Lib.hid hEE
        clear i1 i2 hyy hrr hEE hnn hdb hfs
        go_wp2_with fail
        go_quiet (first
          | (go_at_call 57; exact Calls.quiet_of_same (hsg _)))
        have HT2 := Lib.hid (HTJ.out.drewN nq)
        have HB2 := Lib.hid (SlG.later HBJ.out (below_drewN (Below.refl _ _) nq))
        have HC2 := Lib.hid (HCJ.out.drewN nq)
        clear HTJ HBJ HCJ c2 hsg d1 d2 d3 d4 d5
        generalize wr.drewN nq = W2 at *
        obtain ⟨hQb, z, D, hown, hT, hS⟩ := HT2.out.yes mb rfl
        dsimp only at hown hT hS
        have hblk := HT2.out.blk
        dsimp only at hblk
        obtain ⟨p0, c0, hv, hrow, hown0⟩ := last_row (by omega) hS
        have hlx : (L.take n).length = n := by rw [List.length_take, HB2.out.len]; omega
        have hone := fun (p' : Option Addr) (c' : Nat) (w1 : World) => app_one (x := L.take n) (by omega) hblk hQb hown hT hS (by omega) (by rw [HRR.out]; omega) rfl hv hown0 p' c' w1
        rw [hlx] at hone
        have wf : (Lit.int .i64 ((t.f + y : Nat) : Int)).wf = true := wf_nat _ hlk
        have hlook := look_at (w := W2.drew) (MapB.turn hown ((Chg.refl (fun _ => False) _).drewN 1) (fun h => h)) hT wf
        rw [HYY.out] at hv hrow hone
        rw [← hv, Int.natCast_add] at hlook
        have hnb : (sg s B y).length + n ≤ 1000000 := by
          rw [sg_len]
          have := HTWO.out
          omega
        have HNS := Lib.hid (show nS s B.length ≤ 1000000 from Nat.le_trans (nS_le (by omega)) (by have := HEE.out; omega))
        have HO := Lib.hid (MapB.turn hown ((Chg.refl (fun _ => False) W2).drewN 1) (fun h => h))
        have HONE := Lib.hid hone
        have HROW := Lib.hid (hrow.later (Below.refl _ _).drew)
        have HBT : Hid (BL W2.drew (some ⟨pb, po, none⟩) n cj (L.take n)) := Lib.hid (SlG.later (SlG.take HB2.out n hnk) (Below.refl _ _).drew)
        have HWF := Lib.hid wf
        have c3 : W2.drew.cell? ⟨T, 3, none⟩ = some (.map (some mb)) := HT2.out.cells.2.2.2
        clear hown hT hS hv hrow hown0 hone hlx hblk wf
        generalize (sg s B y).length = n0 at *
        go_wp2_with fail
        go_region_law (first
          | (refine step_append_rb rfl (.tmp 52) (.tmp 55) rfl (.slice p0 n0 c0) n0 (sg s B y) (by simp [Act.eval]) HROW.out (some ⟨pb, po, none⟩) n cj (L.take n) (by simp [Act.eval]) HBT.out hnb ?_; intro p' c' w1 hr1 hc1 hl1 _; obtain ⟨hT1, hM1, hS1⟩ := HONE.out p' c' w1 hr1 hc1 hl1; have e3 := block_cell (j := 3) hT1 (v := .map (some mb)) rfl; obtain ⟨w2, hrun2, hm2, hc2⟩ := upd_at hM1 HNS.out HWF.out p' (n0 + n) c'; rw [Int.natCast_add] at hrun2; have hF := Lib.hid (hS1 w2 hm2 hc2); clear hS1 hm2 hc2 hM1 hT1 hr1 hc1 hl1))
        all_goals
          obtain ⟨hT3, hS3, hC3⟩ := hF.out
          have HT3 := Lib.hid hT3
          have HS3 := Lib.hid hS3
          have HC3 := Lib.hid hC3
          have x2 := block_cell (j := 2) hT3 (v := .int .i64 (t.f * s + B.length : Nat)) rfl
          rw [HEE.out] at x2
          have g2 := block_free 2 hT3
          obtain ⟨E2, hE2⟩ : ∃ E2, E + n = E2 := ⟨_, rfl⟩
          have HE2 := Lib.hid hE2
          have hE2b : E2 ≤ 1000000 := by have := HTWO.out; have := HEE.out; omega
          have HBN : Hid (∀ v q, (n < k → q = some ⟨pb, po + n, none⟩) → (q = none → cj = n) → BL (w2.setCell ⟨T, 2, none⟩ v) q (k - n) (cj - n) (b.drop (j + n))) := Lib.hid fun v q h1 h2 => by
            have hb2 : BL w2 (some ⟨pb, po, none⟩) k cj L := BL.keep HB2.out HC3.out fun h0 ad ha hq => HAJ.out hk0 ad ha hq
            have hcT : Chg (fun k => k = T) w2 (w2.setCell ⟨T, 2, none⟩ v) := (Chg.refl _ _).setCell _ _ fun _ => rfl
            have hb3 : BL (w2.setCell ⟨T, 2, none⟩ v) (some ⟨pb, po, none⟩) k cj L := BL.keep hb2 hcT fun h0 ad ha hq => HAJ.out hk0 ad ha (by rw [show ad.block = T from hq]; exact HT2.out.q)
            rw [← HDX.out]
            exact BL.drop hb3 n hnk q (fun h0 b' off' he => by cases he; exact h1 h0) h2
          have HTN : Hid (Tp (w2.setCell ⟨T, 2, none⟩ (.int .i64 ((E2 : Nat) : Int))) T (some mb) (fun k => Q k ∨ w.heap.size ≤ k) a s ⟨t.f, t.B ++ b.take (j + n)⟩) := Lib.hid ⟨HSEG.out, by
              have hp := block_put 2 (.int .i64 ((E2 : Nat) : Int)) HT3.out
              have hl : t.f * s + (t.B ++ b.take (j + n)).length = E2 := by
                rw [← HBX.out, List.length_append, List.length_take, HB2.out.len]
                have := HEE.out
                have := HE2.out
                omega
              rw [hl]
              exact hp, fun e => (by cases e), fun b' e => by
              cases e
              have h1 := HS3.out.put HT3.out 2 (.int .i64 ((E2 : Nat) : Int))
              rw [HBX.out] at h1
              exact h1.mono fun k hk _ => by
                rcases hk with hk | hk
                · exact hk
                · have := HC2.out.size
                  exact .inr (by omega), HT2.out.q⟩
          have HCN : Hid (Chg Q w (w2.setCell ⟨T, 2, none⟩ (.int .i64 ((E2 : Nat) : Int)))) := Lib.hid (HC2.out.trans (HC3.out.trans (T := fun k => k = T) ((Chg.refl _ _).setCell _ _ fun _ => rfl) fun k _ e => by rw [e]; exact HT2.out.q) fun k hk hq => by
            rcases hq with hq | hq
            · exact hq
            · omega)
          have hen : (E : Int) + (n : Int) = (E2 : Int) := by omega
          have HAN : Hid (∀ q, (n < k → q = some (⟨pb, po + n, none⟩ : Addr)) → 0 < k - n → ∀ a, q = some a → ¬ (Q a.block ∨ w.heap.size ≤ a.block)) := Lib.hid fun q h1 h2 ad ha => by
            have := h1 (by omega)
            rw [this] at ha
            cases ha
            exact HAJ.out hk0 ⟨pb, po, none⟩ rfl
          have hkn : m - (j + n) = k - n := by have := HK.out; omega
          have hjn : j + n ≤ m := by have := HK.out; have := HJ.out; omega
          clear hT3 hS3 hC3 hE2 hF hrun2 e3 c3 hlook HT2 HB2 HC2 HAJ HROW HBT HONE HO
          go_wp2_with fail
          have hq1 : n < k → (if cj = n then some (⟨pb, po, none⟩ : Addr) else some ⟨pb, po + n, none⟩) = some ⟨pb, po + n, none⟩ := fun h => if_neg (by omega)
          refine ⟨⟨j + n, _, cj - n, hjn, by rw [hkn], ?_, ?_, HTN, HCN⟩, ?_⟩
          · rw [hkn]
            exact Lib.hid (HBN.out _ _ hq1 fun e => by split at e <;> cases e)
          · rw [hkn]
            exact Lib.hid (HAN.out _ hq1)
          · show k - n < k
            omega
      · obtain rfl : k = 0 := by omega
        go_wp2_with fail
        go_end0
        have e : j = m := by have := HK.out; have := HJ.out; omega
        subst e
        refine ⟨rfl, ⟨some mb, ?_⟩, HCJ.out⟩
        have h1 := HTJ.out
        rw [List.take_of_length_le (by rw [HB.out]; exact Nat.le_refl _)] at h1
        exact h1
  | none =>
    obtain ⟨htp, hch⟩ := h.made
    have hbl1 : BL ((w.alloc (.map #[] 0)).setCell ⟨T, 3, none⟩ (.map (some w.heap.size))) p m c b := BL.keep hb hch fun h0 ad ha hq => HAP.out h0 ad ha (.inl hq)
    have HTP1 := Lib.hid htp
    have HCH1 := Lib.hid hch
    have HBL1 := Lib.hid hbl1
    have c3 := h.cells.2.2.2
    have d3 := block_cell (j := 3) (block_later h.blk ((Below.refl _ _).alloc (Nat.le_refl _) (.map #[] 0))) (v := .map none) rfl
    have f3 := block_free 3 (block_later h.blk ((Below.refl _ _).alloc (Nat.le_refl _) (.map #[] 0)))
    have hq := map_nil none
    have hmm := @run_makeMap Try.prog
    clear h hb htp hch hbl1
    go_enter Try.func37, Try.ntmps37
    go_wp2_with fail
    clear c3 d3 f3 hq hmm
    generalize (w.alloc (.map #[] 0)).setCell ⟨T, 3, none⟩ (.map (some w.heap.size)) = W1 at *
    obtain ⟨mb, HTP1⟩ : ∃ mb, Hid (Tp W1 T (some mb) (fun k => Q k ∨ w.heap.size ≤ k) a s t) := ⟨_, HTP1⟩
    go_loopw [1] (fun bv wr => ∃ (j : Nat) (pj : Option Addr) (cj : Nat), j ≤ m ∧ bv = .slice pj (m - j) cj ∧ Hid (BL wr pj (m - j) cj (b.drop j)) ∧ Hid (0 < m - j → ∀ a, pj = some a → ¬ (Q a.block ∨ w.heap.size ≤ a.block)) ∧ Hid (Tp wr T (some mb) (fun k => Q k ∨ w.heap.size ≤ k) a s ⟨t.f, t.B ++ b.take j⟩) ∧ Hid (Chg Q w wr)) (fun bv _ => lenV bv)
    case atStart => exact ⟨0, p, c, Nat.zero_le _, rfl, HBL1, HAP, by simpa using HTP1, HCH1⟩
    case round =>
      obtain ⟨j, pj, cj, hj, rfl, HBJ, HAJ, HTJ, HCJ⟩ := hrel
      have HJ := Lib.hid hj
      obtain ⟨k, hk⟩ : ∃ k, m - j = k := ⟨_, rfl⟩
      rw [hk] at HBJ HAJ ⊢
      have HK := Lib.hid hk
      clear hk hj
      by_cases hk0 : 0 < k
      · have hk0' : (0 : Int) < (k : Int) := by omega
        obtain ⟨pb, po, rfl, _, _⟩ := HBJ.out.at hk0
        have hlj : (t.B ++ b.take j).length + k = t.B.length + m := by
          rw [List.length_append, List.length_take]
          have := HB.out; have := HK.out; have := HJ.out
          omega
        have HBX : Hid (t.B ++ b.take j ++ (b.drop j).take (min (s - (t.B ++ b.take j).length % s) k) = t.B ++ b.take (j + min (s - (t.B ++ b.take j).length % s) k)) := Lib.hid (by rw [List.append_assoc, ← List.take_add])
        have HDX : Hid (∀ n, (b.drop j).drop n = b.drop (j + n)) := Lib.hid fun n => List.drop_drop
        generalize t.B ++ b.take j = B at *
        generalize b.drop j = L at *
        obtain ⟨i1, i2⟩ := idx_div (by omega : 0 < s) t.f B.length
        have hmod := Nat.mod_lt B.length (by omega : 0 < s)
        have hcap := HBJ.out.cap
        have hmax : cj ≤ 9223372036854775807 := by have := HBJ.out.max; unfold maxLen at this; omega
        have hE2 : t.f * s + B.length ≤ 1000000 := by have := HBIG.out; omega
        have hdb := Nat.div_le_self B.length s
        have hfs : t.f ≤ t.f * s := Nat.le_mul_of_pos_right _ (by omega)
        have HTWO : Hid (t.f * s + B.length + k ≤ 1000000) := Lib.hid (by have := HBIG.out; omega)
        obtain ⟨c1, c2, c3, hsg⟩ := HTJ.out.at rfl rfl
        clear c1 c3
        have hlk : t.f + B.length / s ≤ 1000000 := by omega
        have q0 : ((s : Int) == 0) = false := by simp; omega
        have q1 : ¬ s = 0 := by omega
        dsimp only at c2
        generalize hyy : B.length / s = y at *
        generalize hrr : B.length % s = r at *
        generalize hEE : t.f * s + B.length = E at *
        have d1 : (E : Int).tdiv (s : Int) = ((t.f + y : Nat) : Int) := by rw [← i1]; rfl
        have d2 : (E : Int).tmod (s : Int) = (r : Int) := by rw [← i2]; rfl
        have d3 : IntKind.i64.wrap ((t.f + y : Nat) : Int) = ((t.f + y : Nat) : Int) := IntWalk.i64_in _ (by omega)
        have d4 : IntKind.i64.wrap (r : Int) = (r : Int) := IntWalk.i64_in _ (by omega)
        have d5 : IntKind.i64.wrap ((s : Int) - (r : Int)) = ((s : Int) - (r : Int)) := IntWalk.i64_in _ (by omega)
        have hnpos : 0 < min (s - r) k := by omega
        have hnk : min (s - r) k ≤ k := by omega
        have hnr : min (s - r) k ≤ s - r := by omega
        have n1 : min ((s : Int) - (r : Int)) (k : Int) = ((min (s - r) k : Nat) : Int) := by omega
        have n2 : (if (k : Int) < (s : Int) - (r : Int) then (k : Int) else (s : Int) - (r : Int)) = ((min (s - r) k : Nat) : Int) := by split <;> omega
        generalize hnn : min (s - r) k = n at *
        have hnc : n ≤ cj := by omega
        have HYY := Lib.hid hyy
        have HRR := Lib.hid hrr
        have HEE := Lib.hid hEE
        clear i1 i2 hyy hrr hEE hnn hdb hfs
        go_wp2_with fail
        go_quiet (first
          | (go_at_call 57; exact Calls.quiet_of_same (hsg _)))
        have HT2 := Lib.hid (HTJ.out.drewN nq)
        have HB2 := Lib.hid (SlG.later HBJ.out (below_drewN (Below.refl _ _) nq))
        have HC2 := Lib.hid (HCJ.out.drewN nq)
        clear HTJ HBJ HCJ c2 hsg d1 d2 d3 d4 d5
        generalize wr.drewN nq = W2 at *
        obtain ⟨hQb, z, D, hown, hT, hS⟩ := HT2.out.yes mb rfl
        dsimp only at hown hT hS
        have hblk := HT2.out.blk
        dsimp only at hblk
        obtain ⟨p0, c0, hv, hrow, hown0⟩ := last_row (by omega) hS
        have hlx : (L.take n).length = n := by rw [List.length_take, HB2.out.len]; omega
        have hone := fun (p' : Option Addr) (c' : Nat) (w1 : World) => app_one (x := L.take n) (by omega) hblk hQb hown hT hS (by omega) (by rw [HRR.out]; omega) rfl hv hown0 p' c' w1
        rw [hlx] at hone
        have wf : (Lit.int .i64 ((t.f + y : Nat) : Int)).wf = true := wf_nat _ hlk
        have hlook := look_at (w := W2.drew) (MapB.turn hown ((Chg.refl (fun _ => False) _).drewN 1) (fun h => h)) hT wf
        rw [HYY.out] at hv hrow hone
        rw [← hv, Int.natCast_add] at hlook
        have hnb : (sg s B y).length + n ≤ 1000000 := by
          rw [sg_len]
          have := HTWO.out
          omega
        have HNS := Lib.hid (show nS s B.length ≤ 1000000 from Nat.le_trans (nS_le (by omega)) (by have := HEE.out; omega))
        have HO := Lib.hid (MapB.turn hown ((Chg.refl (fun _ => False) W2).drewN 1) (fun h => h))
        have HONE := Lib.hid hone
        have HROW := Lib.hid (hrow.later (Below.refl _ _).drew)
        have HBT : Hid (BL W2.drew (some ⟨pb, po, none⟩) n cj (L.take n)) := Lib.hid (SlG.later (SlG.take HB2.out n hnk) (Below.refl _ _).drew)
        have HWF := Lib.hid wf
        have c3 : W2.drew.cell? ⟨T, 3, none⟩ = some (.map (some mb)) := HT2.out.cells.2.2.2
        clear hown hT hS hv hrow hown0 hone hlx hblk wf
        generalize (sg s B y).length = n0 at *
        go_wp2_with fail
        go_region_law (first
          | (refine step_append_rb rfl (.tmp 52) (.tmp 55) rfl (.slice p0 n0 c0) n0 (sg s B y) (by simp [Act.eval]) HROW.out (some ⟨pb, po, none⟩) n cj (L.take n) (by simp [Act.eval]) HBT.out hnb ?_; intro p' c' w1 hr1 hc1 hl1 _; obtain ⟨hT1, hM1, hS1⟩ := HONE.out p' c' w1 hr1 hc1 hl1; have e3 := block_cell (j := 3) hT1 (v := .map (some mb)) rfl; obtain ⟨w2, hrun2, hm2, hc2⟩ := upd_at hM1 HNS.out HWF.out p' (n0 + n) c'; rw [Int.natCast_add] at hrun2; have hF := Lib.hid (hS1 w2 hm2 hc2); clear hS1 hm2 hc2 hM1 hT1 hr1 hc1 hl1))
        all_goals
          obtain ⟨hT3, hS3, hC3⟩ := hF.out
          have HT3 := Lib.hid hT3
          have HS3 := Lib.hid hS3
          have HC3 := Lib.hid hC3
          have x2 := block_cell (j := 2) hT3 (v := .int .i64 (t.f * s + B.length : Nat)) rfl
          rw [HEE.out] at x2
          have g2 := block_free 2 hT3
          obtain ⟨E2, hE2⟩ : ∃ E2, E + n = E2 := ⟨_, rfl⟩
          have HE2 := Lib.hid hE2
          have hE2b : E2 ≤ 1000000 := by have := HTWO.out; have := HEE.out; omega
          have HBN : Hid (∀ v q, (n < k → q = some ⟨pb, po + n, none⟩) → (q = none → cj = n) → BL (w2.setCell ⟨T, 2, none⟩ v) q (k - n) (cj - n) (b.drop (j + n))) := Lib.hid fun v q h1 h2 => by
            have hb2 : BL w2 (some ⟨pb, po, none⟩) k cj L := BL.keep HB2.out HC3.out fun h0 ad ha hq => HAJ.out hk0 ad ha hq
            have hcT : Chg (fun k => k = T) w2 (w2.setCell ⟨T, 2, none⟩ v) := (Chg.refl _ _).setCell _ _ fun _ => rfl
            have hb3 : BL (w2.setCell ⟨T, 2, none⟩ v) (some ⟨pb, po, none⟩) k cj L := BL.keep hb2 hcT fun h0 ad ha hq => HAJ.out hk0 ad ha (by rw [show ad.block = T from hq]; exact HT2.out.q)
            rw [← HDX.out]
            exact BL.drop hb3 n hnk q (fun h0 b' off' he => by cases he; exact h1 h0) h2
          have HTN : Hid (Tp (w2.setCell ⟨T, 2, none⟩ (.int .i64 ((E2 : Nat) : Int))) T (some mb) (fun k => Q k ∨ w.heap.size ≤ k) a s ⟨t.f, t.B ++ b.take (j + n)⟩) := Lib.hid ⟨HSEG.out, by
              have hp := block_put 2 (.int .i64 ((E2 : Nat) : Int)) HT3.out
              have hl : t.f * s + (t.B ++ b.take (j + n)).length = E2 := by
                rw [← HBX.out, List.length_append, List.length_take, HB2.out.len]
                have := HEE.out
                have := HE2.out
                omega
              rw [hl]
              exact hp, fun e => (by cases e), fun b' e => by
              cases e
              have h1 := HS3.out.put HT3.out 2 (.int .i64 ((E2 : Nat) : Int))
              rw [HBX.out] at h1
              exact h1.mono fun k hk _ => by
                rcases hk with hk | hk
                · exact hk
                · have := HC2.out.size
                  exact .inr (by omega), HT2.out.q⟩
          have HCN : Hid (Chg Q w (w2.setCell ⟨T, 2, none⟩ (.int .i64 ((E2 : Nat) : Int)))) := Lib.hid (HC2.out.trans (HC3.out.trans (T := fun k => k = T) ((Chg.refl _ _).setCell _ _ fun _ => rfl) fun k _ e => by rw [e]; exact HT2.out.q) fun k hk hq => by
            rcases hq with hq | hq
            · exact hq
            · omega)
          have hen : (E : Int) + (n : Int) = (E2 : Int) := by omega
          have HAN : Hid (∀ q, (n < k → q = some (⟨pb, po + n, none⟩ : Addr)) → 0 < k - n → ∀ a, q = some a → ¬ (Q a.block ∨ w.heap.size ≤ a.block)) := Lib.hid fun q h1 h2 ad ha => by
            have := h1 (by omega)
            rw [this] at ha
            cases ha
            exact HAJ.out hk0 ⟨pb, po, none⟩ rfl
          have hkn : m - (j + n) = k - n := by have := HK.out; omega
          have hjn : j + n ≤ m := by have := HK.out; have := HJ.out; omega
          clear hT3 hS3 hC3 hE2 hF hrun2 e3 c3 hlook HT2 HB2 HC2 HAJ HROW HBT HONE HO
          go_wp2_with fail
          have hq1 : n < k → (if cj = n then some (⟨pb, po, none⟩ : Addr) else some ⟨pb, po + n, none⟩) = some ⟨pb, po + n, none⟩ := fun h => if_neg (by omega)
          refine ⟨⟨j + n, _, cj - n, hjn, by rw [hkn], ?_, ?_, HTN, HCN⟩, ?_⟩
          · rw [hkn]
            exact Lib.hid (HBN.out _ _ hq1 fun e => by split at e <;> cases e)
          · rw [hkn]
            exact Lib.hid (HAN.out _ hq1)
          · show k - n < k
            omega
      · obtain rfl : k = 0 := by omega
        go_wp2_with fail
        go_end0
        have e : j = m := by have := HK.out; have := HJ.out; omega
        subst e
        refine ⟨rfl, ⟨some mb, ?_⟩, HCJ.out⟩
        have h1 := HTJ.out
        rw [List.take_of_length_le (by rw [HB.out]; exact Nat.le_refl _)] at h1
        exact h1
end
end Go.Proofs.Ytdkpjaobfohdfaa
