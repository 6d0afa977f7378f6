import Derived.Test.YtmdldbchdnkfcaaPA36
namespace Go.Proofs.Ytmdldbchdnkfcaa
open Go.RowKit Go.ChangeShapes Go.WideShapes
set_option linter.unusedVariables false
set_option linter.unusedSimpArgs false
set_option maxRecDepth 10000
variable {Fu : World → Nat → List FW → (Nat → Prop) → Prop}
theorem cell_turn {S : Nat → Prop} {w w' : World} (hc : Turn S w w') {b o : Nat} {v : Value} (h : w.cell? ⟨b, o, none⟩ = some v) (hs : ¬ S b) : w'.cell? ⟨b, o, none⟩ = some v := by
 have hlt : b < w.heap.size := World.block_lt_of_cell? _ _ h
 have e := hc.block b hlt hs
 unfold World.cell? at h ⊢
 simp only [] at h ⊢
 rw [e]
 exact h
structure FUn (Fu : World → Nat → List FW → (Nat → Prop) → Prop) (w wr : World) (B : Nat) (M0 M : List FW) (G : List O) (Q : Nat → Prop) : Prop where
 fu : Fu wr B M Q
 ok : FOk M
 len : M.length ≤ 20
 low : ∀ j, Q j → w.heap.size ≤ j
 below : Below w.heap.size w wr
 fo : Fo M0 M G
 gok : ∀ x ∈ G, Ook x
theorem FUn.later (I : FundI Fu) {w wr w' : World} {B : Nat} {M0 M : List FW} {G : List O} {Q : Nat → Prop} (h : FUn Fu w wr B M0 M G Q) (hb : Below wr.heap.size wr w') : FUn Fu w w' B M0 M G Q :=
 ⟨I.later h.fu hb, h.ok, h.len, h.low, h.below.trans (hb.mono h.below.size), h.fo, h.gok⟩
theorem FUn.acted (I : FundI Fu) {w w1 w2 : World} {B : Nat} {M0 M N : List FW} {G G' : List O} {Q : Nat → Prop} (h : FUn Fu w w1 B M0 M G Q) (hok : FOk N) (hlen : N.length ≤ 20) (hfo : Fo M0 N G') (hg : ∀ x ∈ G', Ook x) (ha : Acted Fu w1 w2 B N Q) :
 ∃ Q', FUn Fu w w2 B M0 N G' Q' ∧ (∀ j, j < w1.heap.size → Q' j → Q j) ∧ Turn Q w1 w2 := by
 obtain ⟨Q', h1, h2, h3⟩ := ha
 refine ⟨Q', ⟨h1, hok, hlen, fun j hj => ?_, h.below.trans (h3.below h.below.size h.low), hfo, hg⟩, fun j hlt hj => ?_, h3⟩
 · rcases h2 j hj with e | e
   · exact h.low j e
   · exact Nat.le_trans h.below.size e
 · rcases h2 j hj with e | e
   · exact e
   · omega
theorem own_z {w : World} {B : Nat} {T : TypeId} {k : Nat} {v : Value} {n : Nat} {xs : List Value} (h : w.ownsRow B T k v n xs) : w.ownsRow 0 T k v n xs := by
 refine ⟨h.1, ?_⟩
 rcases h.2 with hn | ⟨g, cap, cur, rfl, h1, h2, h3⟩
 · exact .inl hn
 · exact .inr ⟨g, cap, cur, rfl, Nat.zero_le _, h2, h3⟩
theorem own_b {w : World} {N : Nat} {T : TypeId} {k : Nat} {v : Value} {n : Nat} {xs : List Value} (h : w.ownsRow 0 T k v n xs) (hb : ∀ b, v.ownBlock = some b → N ≤ b) : w.ownsRow N T k v n xs := by
 refine ⟨h.1, ?_⟩
 rcases h.2 with hn | ⟨g, cap, cur, rfl, h1, h2, h3⟩
 · exact .inl hn
 · exact .inr ⟨g, cap, cur, rfl, hb g rfl, h2, h3⟩
theorem own_turn {w w' : World} {B : Nat} {T : TypeId} {k : Nat} {v : Value} {n : Nat} {xs : List Value} {S : Nat → Prop} (h : w.ownsRow B T k v n xs) (ht : Turn S w w') (hs : ∀ b, v.ownBlock = some b → ¬ S b) : w'.ownsRow B T k v n xs := by
 refine ⟨h.1, ?_⟩
 rcases h.2 with hn | ⟨g, cap, cur, rfl, h1, h2, h3⟩
 · exact .inl hn
 · exact .inr ⟨g, cap, cur, rfl, h1, (ht.block g (Array.getElem?_eq_some_iff.1 h2).1 (hs g rfl)).trans h2, h3⟩
theorem fown_none (w : World) : (w.alloc (.cells #[] 34)).ownsRow 0 34 4 (.slice (some ⟨w.heap.size, 0, none⟩) 0 0) 0 (flatG oc []) :=
 ⟨rfl, .inr ⟨w.heap.size, 0, #[], rfl, Nat.zero_le _, alloc_block _ _, Nat.le_refl _, by unfold maxLen; omega, rfl, rfl⟩⟩
def lenV : Value → Nat
 | .slice _ n _ => n
 | _ => 0
theorem op_news2 {w : World} {p : Option Addr} {n c : Nat} {G : List O} (h : OL w p n c G) : (p = none → n = 0 ∧ c = 0) ∧ ∀ ad, p = some ad → ∀ j u, (flatG oc G)[j]? = some u → w.cell? (ad.add j) = some u := by
 refine ⟨fun e => ?_, fun ad ha j u hu => ?_⟩
 · have h1 := h.nil e
   have h2 := h.cap
   omega
 · have hl : (flatG oc G).length = n * 4 := by rw [flatG_len oc_len, h.len]
   have hj : j < n * 4 := by rw [← hl]; exact (List.getElem?_eq_some_iff.1 hu).1
   obtain ⟨b, off, rfl, _, hc⟩ := h.cell (by omega)
   cases ha
   have e : j = j / 4 * 4 + j % 4 := by omega
   rw [e, flatG_at oc_len G (j / 4) (j % 4) (by rw [h.len]; omega) (by omega) (d := o0)] at hu
   have := hc (j / 4) (by omega) (j % 4) u hu
   rw [Go.WideShapes.add_plain]
   rw [show off + j = off + j / 4 * 4 + j % 4 by omega]
   exact this
theorem OL.drop {w : World} {b off : Nat} {n c : Nat} {G : List O} (h : OL w (some ⟨b, off, none⟩) n c G) (k : Nat) (hk : k ≤ n) : OL w (some ⟨b, off + k * 4, none⟩) (n - k) (c - k) (G.drop k) := by
 have hcap := h.cap
 have hmax := h.max
 refine ⟨by rw [List.length_drop, h.len], by omega, by omega, (fun e => by cases e), fun h0 => ?_⟩
 obtain ⟨b', off', hp, hlt, hc⟩ := h.cell (by omega)
 cases hp
 refine ⟨b, off + k * 4, rfl, hlt, fun j hj i v hv => ?_⟩
 have e : (G.drop k).getD j o0 = G.getD (k + j) o0 := by rw [List.getD, List.getD, List.getElem?_drop]
 rw [e] at hv
 have := hc (k + j) (by omega) i v hv
 rw [show off + k * 4 + j * 4 + i = off + (k + j) * 4 + i by omega]
 exact this
theorem oc_flat_one (L : List O) : ∀ u ∈ flatG oc L, u.oneCell' = true := flatG_all oc_one L
set_option maxHeartbeats 8000000 in
theorem law_fundoes18 (I : FundI Fu) (p : Option Addr) (n c : Nat) (L : List FD) (q : Option Addr) (n2 c2 : Nat) (T : List O) (nn : Int) (w : World) (hL : FDL w p n c L) (hx : ∀ x ∈ L, FDok x) (hT : OL w q n2 c2 T) (hy : ∀ x ∈ T, Ook x) (hn0 : 0 ≤ nn) (hn1 : nn ≤ 255) :
 Calls Try.prog 6 #[.slice p n c, .slice q n2 c2, .int .u8 nn] w fun e w' => e = .returned (.bool true) ∧ Below w.heap.size w w' := by
 obtain ⟨k1, hk, hkn, hk20⟩ : ∃ k : Nat, min (n : Int) 20 = (k : Int) ∧ k ≤ n ∧ k ≤ 20 := fmin_of n 20
 obtain ⟨k2, hj, hjn, hj40⟩ : ∃ k : Nat, min (n2 : Int) 40 = (k : Int) ∧ k ≤ n2 ∧ k ≤ 40 := fmin_of n2 40
 have hki : (if (20 : Int) < (n : Int) then (20 : Int) else (n : Int)) = (k1 : Int) := by rw [← hk]; omega
 have hji : (if (40 : Int) < (n2 : Int) then (40 : Int) else (n2 : Int)) = (k2 : Int) := by rw [← hj]; omega
 have hcap := hL.cap
 have hdap := hT.cap
 have hmax := hL.max
 have hmax2 := hT.max
 unfold maxLen at hmax hmax2
 have hkc : (k1 : Int) ≤ (c : Int) := by omega
 have hjd : (k2 : Int) ≤ (c2 : Int) := by omega
 have HLW := Lib.hid (hL.take k1 hkn)
 have HTW := Lib.hid (hT.take k2 hjn)
 have HXL := Lib.hid (take_all hx k1)
 have HYT := Lib.hid (take_all hy k2)
 have HLL := Lib.hid (show (L.take k1).length ≤ 20 by rw [List.length_take]; omega)
 have HTN := Lib.hid (show (T.take k2).length = k2 by rw [List.length_take, hT.len]; omega)
 generalize L.take k1 = L1 at *
 generalize T.take k2 = T1 at *
 have HI := Lib.hid I
 clear hL hT hx hy
 have ewn : IntKind.i64.wrap nn = nn := i64w _ (by omega)
 go_enter Try.func6, Try.ntmps6
 go_wp2_with fail
 go_quiet (fail)
 have HB0 : Hid (Below w.heap.size w (w.drewN nq)) := Lib.hid (below_drewN (Below.refl _ _) nq)
 generalize w.drewN nq = w0 at *
 go_wp2_with fail
 refine (HI.out.new _ _ _ L1 _ (HLW.out.later HB0.out) (by omega) HXL.out).mono ?_
 rintro e1 w1 ⟨B, Q, rfl, hF, hQ, hb1⟩
 have HOK := Lib.hid (FOk.newL HXL.out)
 have HLN := Lib.hid (show (fnewL L1).length ≤ 20 by have := fnewL_len L1 []; simp only [List.length_nil] at this; have h2 := HLL.out; exact Nat.le_trans this (by omega))
 have HP1 : Hid (FUn Fu w w1 B (fnewL L1) (fnewL L1) [] Q) := Lib.hid ⟨hF, HOK.out, HLN.out, fun j hj => Nat.le_trans HB0.out.size (hQ j hj), HB0.out.trans (hb1.mono HB0.out.size), Fo.new HXL.out, fun x hx => by cases hx⟩
 have HNW := Lib.hid fun w' (hb : Below w.heap.size w w') => fwnew_any p k1 c L1 w' (HLW.out.later hb) (by omega)
 clear hF hQ hb1 HB0
 generalize fnewL L1 = M0 at *
 go_wp2_with fail
 go_loopw [8, 9] (fun v i wr => ∃ (j : Nat) (M : List FW) (G : List O) (Q : Nat → Prop), j ≤ k2 ∧ i = .int .i64 (j : Int) ∧ Hid (FUn Fu w wr B M0 M G Q) ∧ Hid (wr.ownsRow w.heap.size 34 4 v G.length (flatG oc G)) ∧ Hid (G.length ≤ j ∧ ∀ b, v.ownBlock = some b → ¬ Q b)) (fun _ i _ => k2 - (Go.RowKit.intOf i).toNat)
 case atStart => exact ⟨0, M0, [], Q, Nat.zero_le _, rfl, HP1, Lib.hid (World.ownsRow_nil _ _ _ _), Lib.hid ⟨Nat.le_refl _, fun b hb => by cases hb⟩⟩
 case round =>
  obtain ⟨j, M, G, Q, hjk, rfl, HP, HW, HA⟩ := hrel
  have HTT : Hid (OL w q k2 c2 T1) := HTW
  by_cases hlt : j < k2
  · have t1 : (j : Int) < k2 := by omega
    obtain ⟨b, off, rfl, hbl, c0, c1, c2', c3⟩ := op_cells (HTT.out.later HP.out.below) hlt
    have hok := HYT.out (T1.getD j o0) (by rw [List.getD, List.getElem?_eq_getElem (by rw [HTN.out]; exact hlt)]; exact List.getElem_mem _)
    have hbw : b < w.heap.size := by
     obtain ⟨b', off', hp, hl, _⟩ := HTT.out.cell (by omega)
     cases hp
     exact hl
    generalize T1.getD j o0 = x at *
    obtain ⟨k, dl⟩ := x
    have hact := HI.out.act _ _ ActFn.grant wr B M Q k dl HP.out.fu HP.out.ok (Nat.le_trans HP.out.len (by omega)) hok.1 hok.2
    have hN := HP.out.ok.doL 0 k dl hok.1
    have hl := fdoL_length HP.out.ok.up 0 k dl
    have hfo := fun h => HP.out.fo.grant HP.out.ok.up (k := k) (d := dl) h
    have hsame : fdoE 0 M k dl ≠ 0 → fdoL 0 M k dl = M := fun h => by
     cases hg : getG M k with
     | none => exact (fdoL_none hg).1
     | some f => rw [(fdoL_some hg).1]; exact if_neg (by rw [(fdoL_some hg).2] at h; exact h)
    generalize fdoL 0 M k dl = N at *
    generalize fdoE 0 M k dl = z at *
    have HACT := Lib.hid hact
    have HN := Lib.hid (And.intro hN (And.intro hl (And.intro hfo hsame)))
    have HKO := Lib.hid hok
    have HCC := Lib.hid (And.intro c0 (And.intro c1 (And.intro c2' c3)))
    have HBW := Lib.hid hbw
    clear hact hN hl hfo hsame hok hbw
    go_wp2_with fail
    clear c0 c1 c2' c3
    refine HACT.out.mono ?_
    rintro e4 w4 ⟨rfl, hac⟩
    by_cases hz : z = 0
    · obtain ⟨Q4, hp4, hq4, ht4⟩ := HP.out.acted HI.out HN.out.1 (by rw [HN.out.2.1]; exact HP.out.len) (HN.out.2.2.1 hz) (fun x hx => by
       rcases List.mem_append.1 hx with h | h
       · exact HP.out.gok x h
       · rw [List.mem_singleton.1 h]; exact HKO.out) hac
      have HP4 := Lib.hid hp4
      have HW4 := Lib.hid (own_turn HW.out ht4 HA.out.2)
      have HA4 : Hid (∀ b, u8.ownBlock = some b → ¬ Q4 b) := Lib.hid fun b hb h => HA.out.2 b hb (hq4 b (HW.out.lt b hb).2 h)
      have hqb : ¬ Q b := fun h => by have := HP.out.low b h; have := HBW.out; omega
      have c0 := cell_turn ht4 HCC.out.1 hqb
      have c1 := cell_turn ht4 HCC.out.2.1 hqb
      have c2' := cell_turn ht4 HCC.out.2.2.1 hqb
      have c3 := cell_turn ht4 HCC.out.2.2.2 hqb
      have hgl : G.length ≤ 40 := by have := HA.out.1; omega
      subst hz
      have HSZ : Hid (w.heap.size ≤ w4.heap.size) := Lib.hid HP4.out.below.size
      clear hac hp4 hq4 ht4 hqb HACT HW HP HCC
      go_wp2_with (at_builtin; refine wpList_append_vals (by decide) Try.underlying43 info_op rfl (by omega) rfl _ _ rfl u8 G.length (flatG oc G) rfl (own_z (HW4.out.alloc _)) (some ⟨w4.heap.size, 0, none⟩) 1 1 (oc (k, dl)) rfl rfl (fun h => by cases h) (fun ad had i u hu => by cases had; rw [Go.WideShapes.add_plain, Nat.zero_add]; exact op_news w4 (k, dl) i u hu) (oc_one _) (by omega) ?_; intro p5 c5 w5 g1 g2 g3)
      have HSA : Hid ((w4.alloc (.cells #[.int .u8 k.1, .int .u8 k.2.1, .int .u8 k.2.2, .int .i64 dl] 34)).heap.size = w4.heap.size + 1) := Lib.hid (by simp)
      have HNEW : Hid (∀ j, (Value.slice p5 (G.length + 1) c5).ownBlock = some j → u8.ownBlock = some j ∨ w4.heap.size ≤ j) := Lib.hid (fun j hj => (g3 j hj).imp id (fun h => by have := HSA.out; omega))
      have HW5 := Lib.hid (own_b g1 (fun j hj => by
       rcases HNEW.out j hj with e | e
       · exact (HW4.out.lt j e).1
       · exact Nat.le_trans HSZ.out e))
      have hb5 : Turn (fun j => u8.ownBlock = some j) w4 w5 := (Turn.of_below (S := fun j => u8.ownBlock = some j) ((Below.refl _ _).alloc (Nat.le_refl _) _)).trans ⟨g2.os, g2.tape, g2.output, g2.size, g2.block⟩ (fun _ _ h => h)
      have HP5 : Hid (FUn Fu w w5 B M0 N (G ++ [(k, dl)]) Q4) := Lib.hid ⟨HI.out.keep HP4.out.fu hb5 (fun j hj h => HA4.out j h hj), HP4.out.ok, HP4.out.len, HP4.out.low, HP4.out.below.trans (hb5.below HSZ.out (fun j hj => (HW4.out.lt j hj).1)), HP4.out.fo, HP4.out.gok⟩
      have HA5 : Hid (∀ j, (Value.slice p5 (G.length + 1) c5).ownBlock = some j → ¬ Q4 j) := Lib.hid fun j hj h => by
       rcases HNEW.out j hj with e | e
       · exact HA4.out j e h
       · have := HI.out.lt HP4.out.fu j h; omega
      clear g1 g2 g3 hb5 HP4 HW4 HA4 c0 c1 c2' c3
      go_wp2_with fail
      go_roundw
      case rel => exact ⟨j + 1, N, G ++ [(k, dl)], Q4, by omega, by go_num, HP5, Lib.hid (by
       have h := HW5.out
       have e : (G ++ [(k, dl)]).length = G.length + 1 := by simp
       have e2 : flatG oc (G ++ [(k, dl)]) = flatG oc G ++ oc (k, dl) := by rw [flatG_append, flatG_one]
       rw [e, e2]; exact h), Lib.hid ⟨by have := HA.out.1; simp; omega, HA5.out⟩⟩
      case measure =>
       simp [Go.RowKit.intOf]
       omega
    · have hNM := HN.out.2.2.2 hz
      have kz : (z == 0) = false := by simpa using hz
      subst hNM
      obtain ⟨Q4, hp4, hq4, ht4⟩ := HP.out.acted HI.out HP.out.ok HP.out.len HP.out.fo HP.out.gok hac
      have HP4 := Lib.hid hp4
      have HW4 := Lib.hid (own_turn HW.out ht4 HA.out.2)
      have HA4 : Hid (∀ b, u8.ownBlock = some b → ¬ Q4 b) := Lib.hid fun b hb h => HA.out.2 b hb (hq4 b (HW.out.lt b hb).2 h)
      have HZ := Lib.hid hz
      clear hac hp4 hq4 ht4 hz HACT
      go_wp2_with fail
      go_roundw
      case rel => exact ⟨j + 1, N, G, Q4, by omega, by go_num, HP4, HW4, Lib.hid ⟨by have := HA.out.1; omega, HA4.out⟩⟩
      case measure =>
       simp [Go.RowKit.intOf]
       omega
  · have t1 : ¬ (j : Int) < k2 := by omega
    obtain ⟨pg, cg, hvs, hog, hpg⟩ := SlG.of_own (d := o0) oc_len (by decide) HW.out
    have HOG := Lib.hid hog
    have hgl : G.length ≤ 40 := by have := HA.out.1; omega
    have HAG : Hid (0 < G.length → ∀ a, pg = some a → ¬ Q a.block) := Lib.hid (fun h0 a ha hq => HA.out.2 a.block (by rw [hvs, ha]; rfl) hq)
    have HVS := Lib.hid hvs
    subst hvs
    clear hog hpg HW HA
    go_wp2_with fail
    go_loopw [8] (fun v wr => ∃ (M : List FW) (G : List O) (Q : Nat → Prop) (r : Option Addr) (d gl : Nat), v = .slice r gl d ∧ gl ≤ 40 ∧ Hid (FUn Fu w wr B M0 M G Q) ∧ Hid (OL wr r gl d G) ∧ Hid (0 < gl → ∀ a, r = some a → ¬ Q a.block)) (fun v _ => lenV v)
    case atStart => exact ⟨M, G, Q, pg, cg, G.length, rfl, hgl, HP, HOG, HAG⟩
    case round =>
     obtain ⟨M, G, Q, r, d, gl, rfl, hgl, HP, HG, HA⟩ := hrel
     have HGL := Lib.hid HG.out.len
     by_cases hg0 : 0 < gl
     · obtain ⟨kk, hkk⟩ : ∃ kk : Nat, nn % (gl : Int) = (kk : Int) := ⟨(nn % (gl : Int)).toNat, by
        have := Int.emod_nonneg nn (show (gl : Int) ≠ 0 by omega)
        omega⟩
       have hkl : kk < gl := by
        have := Int.emod_lt_of_pos nn (show (0 : Int) < (gl : Int) by omega)
        omega
       have hkt : nn.tmod (gl : Int) = (kk : Int) := by rw [Int.tmod_eq_emod_of_nonneg hn0]; exact hkk
       have t2 : (0 : Int) < (gl : Int) := by omega
       have t3 : ((gl : Int) == 0) = false := by
        have : ¬ (gl : Int) = 0 := by omega
        simpa using this
       have t4 : ¬ (gl : Int) = 0 := by omega
       have t5 : (kk : Int) < (gl : Int) := by omega
       have hdc := HG.out.cap
       have hdm := HG.out.max
       unfold maxLen at hdm
       obtain ⟨b, off, rfl, hbl, c0, c1, c2', c3⟩ := op_cells HG.out hkl
       have hkG : kk < G.length := by rw [HGL.out]; exact hkl
       have hsplit : G = G.take kk ++ G.getD kk o0 :: G.drop (kk + 1) := by
        have e : G.getD kk o0 :: G.drop (kk + 1) = G.drop kk := by rw [List.drop_eq_getElem_cons hkG, List.getD, List.getElem?_eq_getElem hkG]; rfl
        rw [e, List.take_append_drop]
       have hok := ok_at HP.out.gok hkG
       have hfo := HP.out.fo
       rw [hsplit] at hfo
       generalize G.getD kk o0 = x at *
       obtain ⟨k, dl⟩ := x
       obtain ⟨hz, hfo2⟩ := hfo.undo HP.out.ok.up
       have hact := HI.out.act _ _ ActFn.undo wr B M Q k dl HP.out.fu HP.out.ok (Nat.le_trans HP.out.len (by omega)) hok.1 hok.2
       rw [hz] at hact
       have hN := HP.out.ok.doL 1 k dl hok.1
       have hl := fdoL_length HP.out.ok.up 1 k dl
       generalize fdoL 1 M k dl = N at *
       have HACT := Lib.hid hact
       have HFO := Lib.hid hfo2
       have HN := Lib.hid (And.intro hN hl)
       have HSP := Lib.hid hsplit
       have HZZ := Lib.hid (And.intro hz hfo)
       clear hact hfo2 hN hl hsplit hz hfo hok hkG
       go_wp2_with fail
       clear c0 c1 c2' c3
       refine HACT.out.mono ?_
       rintro e4 w4 ⟨rfl, hac⟩
       obtain ⟨Q4, hp4, hq4, ht4⟩ := HP.out.acted HI.out HN.out.1 (by rw [HN.out.2]; exact HP.out.len) HFO.out (fun x hx => HP.out.gok x (by
        rw [HSP.out]
        rcases List.mem_append.1 hx with h | h
        · exact List.mem_append.2 (.inl h)
        · exact List.mem_append.2 (.inr (List.mem_cons_of_mem _ h)))) hac
       have hqb : ¬ Q b := HA.out (by omega) ⟨b, off, none⟩ rfl
       have hg4 : OL w4 (some ⟨b, off, none⟩) gl d G := HG.out.turn ht4.size (fun h0 a ha hlt => by cases ha; exact ht4.block b hlt hqb)
       have HP4 := Lib.hid hp4
       clear hac hp4 hq4 ht4 hqb HACT
       go_wp2_with fail
       have e1 : (kk : Int) ≤ (d : Int) := by omega
       have e2 : (kk : Int) + 1 ≤ (gl : Int) := by omega
       have e3 : (kk : Int) + 1 ≤ (d : Int) := by omega
       have e4 : IntKind.i64.wrap ((kk : Int) + 1) = (kk : Int) + 1 := i64w _ (by omega)
       have hbd : Below w.heap.size w w4.drew := below_drewN HP4.out.below 1
       have hgd : OL w4.drew (some ⟨b, off, none⟩) gl d G := hg4.later (Below.refl _ _).drew
       have hpd : FUn Fu w w4.drew B M0 N (G.take kk ++ G.drop (kk + 1)) Q4 := HP4.out.later HI.out (Below.refl _ _).drew
       refine wp_region_held_drew (S := fun w' => Hid (Below w.heap.size w w')) (by kernel_rfl) (Lib.hid hbd) (fun hHeld => ?_)
       have HB5 := Lib.hid hbd
       have HG5 := Lib.hid hgd
       have HP5 := Lib.hid hpd
       clear hbd hgd hpd hg4 HP4
       generalize w4.drew = W5 at *
       by_cases hdk : d = kk + 1
       · have hgk : gl = kk + 1 := by omega
         have u1 : (d : Int) = (kk : Int) + 1 := by omega
         have u2 : (gl : Int) = (kk : Int) + 1 := by omega
         have u3 : ¬ (kk : Int) + 1 < (kk : Int) := by omega
         have u4 : ¬ (kk : Int) + 1 < 0 := by omega
         have u5 : (kk : Int) ≤ (kk : Int) + 1 := by omega
         have HTK := Lib.hid (HG5.out.take kk (by omega))
         have HDP := Lib.hid (HG5.out.drop (kk + 1) (by omega))
         have HLT := Lib.hid (show (G.take kk).length = kk by rw [List.length_take, HGL.out]; omega)
         have HLD := Lib.hid (show (G.drop (kk + 1)).length = gl - (kk + 1) by rw [List.length_drop, HGL.out])
         refine wpAnyH_take (i := 1) (oi := ⟨some 59, _, _, _, _, _⟩) (v := .slice (some ⟨b, off, none⟩) gl d) rfl (by kernel_rfl) (by kernel_rfl) (by kernel_rfl) (fun _ _ _ h => h) (Or.inl ⟨by rfl, fun w' hw' => ?_⟩) (by assumption) ?_
         · clear hHeld
           go_simp
         try simp only [Act.put, List.setIfInBounds_toArray, List.set_cons_zero, List.set_cons_succ]
         refine wpAnyH_take (i := 2) (oi := ⟨some 60, _, _, _, _, _⟩) (v := .int .i64 (kk : Int)) rfl (by kernel_rfl) (by kernel_rfl) (by kernel_rfl) (fun _ _ _ h => h) (Or.inl ⟨by rfl, fun w' hw' => ?_⟩) (by assumption) ?_
         · clear hHeld
           go_simp
         try simp only [Act.put, List.setIfInBounds_toArray, List.set_cons_zero, List.set_cons_succ]
         refine wpAnyH_take (i := 3) (oi := ⟨some 61, _, _, _, _, _⟩) (v := .slice (some ⟨b, off, none⟩) kk d) rfl (by kernel_rfl) (by kernel_rfl) (by kernel_rfl) (fun _ _ _ h => h) (Or.inl ⟨by rfl, fun w' hw' => ?_⟩) (by assumption) ?_
         · clear hHeld
           go_simp
         try simp only [Act.put, List.setIfInBounds_toArray, List.set_cons_zero, List.set_cons_succ]
         refine wpAnyH_take (i := 5) (oi := ⟨some 63, _, _, _, _, _⟩) (v := .slice (some ⟨b, off, none⟩) gl d) rfl (by kernel_rfl) (by kernel_rfl) (by kernel_rfl) (fun _ _ _ h => h) (Or.inl ⟨by rfl, fun w' hw' => ?_⟩) (by assumption) ?_
         · clear hHeld
           go_simp
         try simp only [Act.put, List.setIfInBounds_toArray, List.set_cons_zero, List.set_cons_succ]
         refine wpAnyH_take (i := 6) (oi := ⟨some 64, _, _, _, _, _⟩) (v := .int .i64 (kk : Int)) rfl (by kernel_rfl) (by kernel_rfl) (by kernel_rfl) (fun _ _ _ h => h) (Or.inl ⟨by rfl, fun w' hw' => ?_⟩) (by assumption) ?_
         · clear hHeld
           go_simp
         try simp only [Act.put, List.setIfInBounds_toArray, List.set_cons_zero, List.set_cons_succ]
         refine wpAnyH_take (i := 7) (oi := ⟨some 65, _, _, _, _, _⟩) (v := .int .i64 ((kk : Int) + 1)) rfl (by kernel_rfl) (by kernel_rfl) (by kernel_rfl) (fun _ _ _ h => h) (Or.inl ⟨by rfl, fun w' hw' => ?_⟩) (by assumption) ?_
         · clear hHeld
           go_simp
         try simp only [Act.put, List.setIfInBounds_toArray, List.set_cons_zero, List.set_cons_succ]
         refine wpAnyH_take (i := 8) (oi := ⟨some 66, _, _, _, _, _⟩) (v := .slice (some ⟨b, off, none⟩) 0 0) rfl (by kernel_rfl) (by kernel_rfl) (by kernel_rfl) (fun _ _ _ h => h) (Or.inl ⟨by rfl, fun w' hw' => ?_⟩) (by assumption) ?_
         · clear hHeld
           go_simp
         try simp only [Act.put, List.setIfInBounds_toArray, List.set_cons_zero, List.set_cons_succ]
         refine wpAnyH_ready (rs := [0]) (by kernel_rfl) (by simp) (AllReadyH.cons rfl (fun K hK => ?_) AllReadyH.nil)
         go_simp
         have hba : Below W5.heap.size W5 (W5.alloc (.cells #[] 34)) := (Below.refl _ _).alloc (Nat.le_refl _) _
         refine hK.out _ _ (Lib.hid (HB5.out.trans (hba.mono HB5.out.size))) (fun hHeld2 => ?_)
         clear hK K hHeld
         have hHeld := hHeld2
         clear hHeld2
         try simp only [Act.put, List.setIfInBounds_toArray, List.set_cons_zero, List.set_cons_succ]
         have HOWN := Lib.hid (fown_none W5)
         have HTA := Lib.hid (HTK.out.later hba)
         have HBA := Lib.hid hba
         clear hba
         refine wpAnyH_ready (rs := [4]) (by kernel_rfl) (by simp) (AllReadyH.cons rfl (fun K hK => ?_) AllReadyH.nil)
         refine step_append_vals (by decide) Try.underlying43 info_op rfl (by omega) rfl (.tmp 58) (.tmp 61) rfl (.slice (some ⟨W5.heap.size, 0, none⟩) 0 0) 0 (flatG oc []) (by first | (simp [Act.eval]; done) | (simp [Act.eval]; omega)) HOWN.out (some ⟨b, off, none⟩) kk d (flatG oc (G.take kk)) (by first | (simp [Act.eval]; done) | (simp [Act.eval]; omega)) (by rw [flatG_len oc_len, HLT.out]) (op_news2 HTA.out).1 (op_news2 HTA.out).2 (oc_flat_one _) (by omega) ?_
         intro p6 c6 W6 g1 g2 g3
         have hb6 : Below W5.heap.size W5 W6 := g2.below HBA.out HBA.out.size fun j hj => by cases hj; exact Nat.le_refl _
         refine hK.out _ _ (Lib.hid (HB5.out.trans (hb6.mono HB5.out.size))) (fun hHeld2 => ?_)
         clear hK K hHeld
         have hHeld := hHeld2
         clear hHeld2
         try simp only [Act.put, List.setIfInBounds_toArray, List.set_cons_zero, List.set_cons_succ]
         have HR6 := Lib.hid g1
         have HK6 : Hid (∀ j, (Value.slice p6 (0 + kk) c6).ownBlock = some j → W5.heap.size ≤ j) := Lib.hid fun j hj => by
          rcases g3 j hj with h | h
          · cases h; exact Nat.le_refl _
          · exact Nat.le_trans HBA.out.size h
         have HDA := Lib.hid (HDP.out.later hb6)
         have HB6 := Lib.hid hb6
         clear g1 g2 g3 hb6 HTA HBA HOWN
         refine wpAnyH_ready (rs := [9]) (by kernel_rfl) (by simp) (AllReadyH.cons rfl (fun K hK => ?_) AllReadyH.nil)
         refine step_append_vals (by decide) Try.underlying43 info_op rfl (by omega) rfl (.tmp 62) (.tmp 66) rfl (.slice p6 (0 + kk) c6) (0 + kk) (flatG oc [] ++ flatG oc (G.take kk)) (by first | (simp [Act.eval]; done) | (simp [Act.eval]; omega)) HR6.out (some ⟨b, off, none⟩) 0 0 [] (by first | (simp [Act.eval]; done) | (simp [Act.eval]; omega)) rfl (fun h => by cases h) (fun ad had i u hu => by simp at hu) (fun u hu => by cases hu) (by omega) ?_
         intro p7 c7 W7 g1 g2 g3
         have hb7 : Below W5.heap.size W5 W7 := g2.below HB6.out HB6.out.size fun j hj => HK6.out j hj
         refine hK.out _ _ (Lib.hid (HB5.out.trans (hb7.mono HB5.out.size))) (fun hHeld2 => ?_)
         clear hK K hHeld
         have hHeld := hHeld2
         clear hHeld2
         try simp only [Act.put, List.setIfInBounds_toArray, List.set_cons_zero, List.set_cons_succ]
         refine wpAnyH_take (i := 10) (oi := ⟨some 8, _, _, _, _, _⟩) (v := .slice p7 (0 + kk + 0) c7) rfl (by kernel_rfl) (by kernel_rfl) (by kernel_rfl) (fun _ _ _ h => h) (Or.inl ⟨by rfl, fun w' hw' => ?_⟩) (by assumption) ?_
         · clear hHeld
           go_simp
         try simp only [Act.put, List.setIfInBounds_toArray, List.set_cons_zero, List.set_cons_succ]
         refine wpAnyH_done (by kernel_rfl) ?_ _
         clear hHeld
         have hlen : (G.take kk ++ G.drop (kk + 1)).length = 0 + kk + 0 := by rw [List.length_append, HLT.out, HLD.out]; omega
         have hk7 : ∀ j, (Value.slice p7 (0 + kk + 0) c7).ownBlock = some j → W5.heap.size ≤ j := fun j hj => by
          rcases g3 j hj with h | h
          · exact HK6.out j h
          · exact Nat.le_trans HB6.out.size h
         have hfl : flatG oc (G.take kk ++ G.drop (kk + 1)) = flatG oc [] ++ flatG oc (G.take kk) ++ [] := by rw [List.drop_of_length_le (by rw [HGL.out]; omega), List.append_nil, List.append_nil]; rfl
         rw [← hfl] at g1
         obtain ⟨p8, c8, he8, hs8, _⟩ := SlG.of_own (d := o0) oc_len (by decide) g1
         cases he8
         have HS8 := Lib.hid hs8
         have HK7 := Lib.hid hk7
         have HP7 := Lib.hid (HP5.out.later HI.out hb7)
         have HLQ := Lib.hid (fun j hj => HI.out.lt HP5.out.fu j hj)
         have HLN2 := Lib.hid hlen
         clear g1 g2 g3 hb7 hs8 hk7 hlen hfl
         go_wp2_with fail
         go_roundw
         case rel => exact ⟨N, G.take kk ++ G.drop (kk + 1), Q4, p7, c7, 0 + kk + 0, by simp, by omega, HP7, HS8, Lib.hid (fun h0 a ha hq => by
          have h1 := HLQ.out a.block hq
          have h2 := HK7.out a.block (by rw [ha]; rfl)
          omega)⟩
         case measure =>
          simp only [lenV]
          omega
       · have hdk2 : ¬ (d : Int) = (kk : Int) + 1 := by omega
         have u4 : ¬ (kk : Int) + 1 < 0 := by omega
         have HTK := Lib.hid (HG5.out.take kk (by omega))
         have HDP := Lib.hid (HG5.out.drop (kk + 1) (by omega))
         have HLT := Lib.hid (show (G.take kk).length = kk by rw [List.length_take, HGL.out]; omega)
         have HLD := Lib.hid (show (G.drop (kk + 1)).length = gl - (kk + 1) by rw [List.length_drop, HGL.out])
         refine wpAnyH_take (i := 1) (oi := ⟨some 59, _, _, _, _, _⟩) (v := .slice (some ⟨b, off, none⟩) gl d) rfl (by kernel_rfl) (by kernel_rfl) (by kernel_rfl) (fun _ _ _ h => h) (Or.inl ⟨by rfl, fun w' hw' => ?_⟩) (by assumption) ?_
         · clear hHeld
           go_simp
         try simp only [Act.put, List.setIfInBounds_toArray, List.set_cons_zero, List.set_cons_succ]
         refine wpAnyH_take (i := 2) (oi := ⟨some 60, _, _, _, _, _⟩) (v := .int .i64 (kk : Int)) rfl (by kernel_rfl) (by kernel_rfl) (by kernel_rfl) (fun _ _ _ h => h) (Or.inl ⟨by rfl, fun w' hw' => ?_⟩) (by assumption) ?_
         · clear hHeld
           go_simp
         try simp only [Act.put, List.setIfInBounds_toArray, List.set_cons_zero, List.set_cons_succ]
         refine wpAnyH_take (i := 3) (oi := ⟨some 61, _, _, _, _, _⟩) (v := .slice (some ⟨b, off, none⟩) kk d) rfl (by kernel_rfl) (by kernel_rfl) (by kernel_rfl) (fun _ _ _ h => h) (Or.inl ⟨by rfl, fun w' hw' => ?_⟩) (by assumption) ?_
         · clear hHeld
           go_simp
         try simp only [Act.put, List.setIfInBounds_toArray, List.set_cons_zero, List.set_cons_succ]
         refine wpAnyH_take (i := 5) (oi := ⟨some 63, _, _, _, _, _⟩) (v := .slice (some ⟨b, off, none⟩) gl d) rfl (by kernel_rfl) (by kernel_rfl) (by kernel_rfl) (fun _ _ _ h => h) (Or.inl ⟨by rfl, fun w' hw' => ?_⟩) (by assumption) ?_
         · clear hHeld
           go_simp
         try simp only [Act.put, List.setIfInBounds_toArray, List.set_cons_zero, List.set_cons_succ]
         refine wpAnyH_take (i := 6) (oi := ⟨some 64, _, _, _, _, _⟩) (v := .int .i64 (kk : Int)) rfl (by kernel_rfl) (by kernel_rfl) (by kernel_rfl) (fun _ _ _ h => h) (Or.inl ⟨by rfl, fun w' hw' => ?_⟩) (by assumption) ?_
         · clear hHeld
           go_simp
         try simp only [Act.put, List.setIfInBounds_toArray, List.set_cons_zero, List.set_cons_succ]
         refine wpAnyH_take (i := 7) (oi := ⟨some 65, _, _, _, _, _⟩) (v := .int .i64 ((kk : Int) + 1)) rfl (by kernel_rfl) (by kernel_rfl) (by kernel_rfl) (fun _ _ _ h => h) (Or.inl ⟨by rfl, fun w' hw' => ?_⟩) (by assumption) ?_
         · clear hHeld
           go_simp
         try simp only [Act.put, List.setIfInBounds_toArray, List.set_cons_zero, List.set_cons_succ]
         refine wpAnyH_take (i := 8) (oi := ⟨some 66, _, _, _, _, _⟩) (v := .slice (some ⟨b, off + (kk + 1) * 4, none⟩) (gl - (kk + 1)) (d - (kk + 1))) rfl (by kernel_rfl) (by kernel_rfl) (by kernel_rfl) (fun _ _ _ h => h) (Or.inl ⟨by rfl, fun w' hw' => ?_⟩) (by assumption) ?_
         · clear hHeld
           go_simp
         try simp only [Act.put, List.setIfInBounds_toArray, List.set_cons_zero, List.set_cons_succ]
         refine wpAnyH_ready (rs := [0]) (by kernel_rfl) (by simp) (AllReadyH.cons rfl (fun K hK => ?_) AllReadyH.nil)
         go_simp
         have hba : Below W5.heap.size W5 (W5.alloc (.cells #[] 34)) := (Below.refl _ _).alloc (Nat.le_refl _) _
         refine hK.out _ _ (Lib.hid (HB5.out.trans (hba.mono HB5.out.size))) (fun hHeld2 => ?_)
         clear hK K hHeld
         have hHeld := hHeld2
         clear hHeld2
         try simp only [Act.put, List.setIfInBounds_toArray, List.set_cons_zero, List.set_cons_succ]
         have HOWN := Lib.hid (fown_none W5)
         have HTA := Lib.hid (HTK.out.later hba)
         have HBA := Lib.hid hba
         clear hba
         refine wpAnyH_ready (rs := [4]) (by kernel_rfl) (by simp) (AllReadyH.cons rfl (fun K hK => ?_) AllReadyH.nil)
         refine step_append_vals (by decide) Try.underlying43 info_op rfl (by omega) rfl (.tmp 58) (.tmp 61) rfl (.slice (some ⟨W5.heap.size, 0, none⟩) 0 0) 0 (flatG oc []) (by first | (simp [Act.eval]; done) | (simp [Act.eval]; omega)) HOWN.out (some ⟨b, off, none⟩) kk d (flatG oc (G.take kk)) (by first | (simp [Act.eval]; done) | (simp [Act.eval]; omega)) (by rw [flatG_len oc_len, HLT.out]) (op_news2 HTA.out).1 (op_news2 HTA.out).2 (oc_flat_one _) (by omega) ?_
         intro p6 c6 W6 g1 g2 g3
         have hb6 : Below W5.heap.size W5 W6 := g2.below HBA.out HBA.out.size fun j hj => by cases hj; exact Nat.le_refl _
         refine hK.out _ _ (Lib.hid (HB5.out.trans (hb6.mono HB5.out.size))) (fun hHeld2 => ?_)
         clear hK K hHeld
         have hHeld := hHeld2
         clear hHeld2
         try simp only [Act.put, List.setIfInBounds_toArray, List.set_cons_zero, List.set_cons_succ]
         have HR6 := Lib.hid g1
         have HK6 : Hid (∀ j, (Value.slice p6 (0 + kk) c6).ownBlock = some j → W5.heap.size ≤ j) := Lib.hid fun j hj => by
          rcases g3 j hj with h | h
          · cases h; exact Nat.le_refl _
          · exact Nat.le_trans HBA.out.size h
         have HDA := Lib.hid (HDP.out.later hb6)
         have HB6 := Lib.hid hb6
         clear g1 g2 g3 hb6 HTA HBA HOWN
         refine wpAnyH_ready (rs := [9]) (by kernel_rfl) (by simp) (AllReadyH.cons rfl (fun K hK => ?_) AllReadyH.nil)
         refine step_append_vals (by decide) Try.underlying43 info_op rfl (by omega) rfl (.tmp 62) (.tmp 66) rfl (.slice p6 (0 + kk) c6) (0 + kk) (flatG oc [] ++ flatG oc (G.take kk)) (by first | (simp [Act.eval]; done) | (simp [Act.eval]; omega)) HR6.out (some ⟨b, off + (kk + 1) * 4, none⟩) (gl - (kk + 1)) (d - (kk + 1)) (flatG oc (G.drop (kk + 1))) (by first | (simp [Act.eval]; done) | (simp [Act.eval]; omega)) (by rw [flatG_len oc_len, HLD.out]) (op_news2 HDA.out).1 (op_news2 HDA.out).2 (oc_flat_one _) (by omega) ?_
         intro p7 c7 W7 g1 g2 g3
         have hb7 : Below W5.heap.size W5 W7 := g2.below HB6.out HB6.out.size fun j hj => HK6.out j hj
         refine hK.out _ _ (Lib.hid (HB5.out.trans (hb7.mono HB5.out.size))) (fun hHeld2 => ?_)
         clear hK K hHeld
         have hHeld := hHeld2
         clear hHeld2
         try simp only [Act.put, List.setIfInBounds_toArray, List.set_cons_zero, List.set_cons_succ]
         refine wpAnyH_take (i := 10) (oi := ⟨some 8, _, _, _, _, _⟩) (v := .slice p7 (0 + kk + (gl - (kk + 1))) c7) rfl (by kernel_rfl) (by kernel_rfl) (by kernel_rfl) (fun _ _ _ h => h) (Or.inl ⟨by rfl, fun w' hw' => ?_⟩) (by assumption) ?_
         · clear hHeld
           go_simp
         try simp only [Act.put, List.setIfInBounds_toArray, List.set_cons_zero, List.set_cons_succ]
         refine wpAnyH_done (by kernel_rfl) ?_ _
         clear hHeld
         have hlen : (G.take kk ++ G.drop (kk + 1)).length = 0 + kk + (gl - (kk + 1)) := by rw [List.length_append, HLT.out, HLD.out]; omega
         have hk7 : ∀ j, (Value.slice p7 (0 + kk + (gl - (kk + 1))) c7).ownBlock = some j → W5.heap.size ≤ j := fun j hj => by
          rcases g3 j hj with h | h
          · exact HK6.out j h
          · exact Nat.le_trans HB6.out.size h
         have hfl : flatG oc (G.take kk ++ G.drop (kk + 1)) = flatG oc [] ++ flatG oc (G.take kk) ++ (flatG oc (G.drop (kk + 1))) := by rw [flatG_append]; rfl
         rw [← hfl] at g1
         obtain ⟨p8, c8, he8, hs8, _⟩ := SlG.of_own (d := o0) oc_len (by decide) g1
         cases he8
         have HS8 := Lib.hid hs8
         have HK7 := Lib.hid hk7
         have HP7 := Lib.hid (HP5.out.later HI.out hb7)
         have HLQ := Lib.hid (fun j hj => HI.out.lt HP5.out.fu j hj)
         have HLN2 := Lib.hid hlen
         clear g1 g2 g3 hb7 hs8 hk7 hlen hfl
         generalize hnl : 0 + kk + (gl - (kk + 1)) = nl at *
         have HNL := Lib.hid hnl
         clear hnl
         go_wp2_with fail
         go_roundw
         case rel => exact ⟨N, G.take kk ++ G.drop (kk + 1), Q4, p7, c7, nl, by first | rfl | simp, by have := HNL.out; omega, HP7, HS8, Lib.hid (fun h0 a ha hq => by
          have h1 := HLQ.out a.block hq
          have h2 := HK7.out a.block (by rw [ha]; rfl)
          omega)⟩
         case measure =>
          simp only [lenV]
          have := HNL.out
          omega
     · have t2 : ¬ (0 : Int) < (gl : Int) := by omega
       have hgn : G = [] := List.eq_nil_of_length_eq_zero (by have := HGL.out; omega)
       subst hgn
       have hMM := HP.out.fo.over HP.out.ok.up
       subst hMM
       have HZ := Lib.hid hg0
       clear hg0
       go_wp2_with fail
       refine (HNW.out _ HP.out.below).mono ?_
       rintro e5 w5 ⟨r5, m5, d5, rfl, hr5, hb5, _⟩
       have HP5 := Lib.hid (HP.out.later HI.out hb5)
       have HR5 := Lib.hid hr5
       clear hr5 hb5
       go_wp2_with fail
       refine (HI.out.same HP5.out.fu HP5.out.ok (Nat.le_trans HP5.out.len (by omega)) _ _ _ HR5.out).mono ?_
       rintro e6 w6 ⟨rfl, hb6⟩
       have HB6 := Lib.hid (HP5.out.below.trans (hb6.mono HP5.out.below.size))
       clear hb6
       go_wp2_with fail
       refine (fund_works HI.out _).mono ?_
       rintro e7 w7 ⟨rfl, hb7⟩
       have HB7 := Lib.hid (HB6.out.trans (hb7.mono HB6.out.size))
       clear hb7
       go_wp2_with fail
       go_ret
       exact ⟨rfl, HB7.out⟩
end Go.Proofs.Ytmdldbchdnkfcaa
