/- The document's Scan: what it answers. -/
import Derived.Test.YtmadneedeheekaaDoorFrameRefFirst
import Derived.Test.YtmadneedeheekaaDoorFrameList
import Derived.LoopTactic
namespace Go.Proofs.YtmadneedeheekaaDoor
open Go.RowKit Go.ChangeShapes Go.WideShapes
set_option linter.unusedVariables false

/-- A call that hands back a list of bytes, a number and an error. -/
def GivesS (W : World) (S : List (List Nat) × Nat × Int) (e : Ending) (w' : World) : Prop := ∃ p c H, e = .returned (.tuple #[.slice p S.1.length c, .int .i64 (S.2.1 : Nat), .int .i64 S.2.2]) ∧ LS w' p S.1.length c H S.1 ∧ Below W.heap.size W w'
theorem FL.gives {W w : World} {p : Option Addr} {n c : Nat} {H : List Hd} {Ls : List (List Nat)} {S : List (List Nat) × Nat × Int} {z : Nat} {x : Int} (h : FL W w (.slice p n c) H Ls) (hn : Ls.length = n) (hS : S = (Ls, z, x)) : GivesS W S (.returned (.tuple #[.slice p n c, .int .i64 (z : Nat), .int .i64 x])) w := by
  subst hS
  obtain ⟨p', c', hv, hl⟩ := h.done
  cases hv
  exact ⟨_, _, H, rfl, hl, h.below⟩
/-- A list grows by what Next hands back. -/
theorem scan_push {W wr w1 : World} {pv p1 : Option Addr} {m cv k c1 b off : Nat} {H : List Hd} {out : List (List Nat)} {P : List Nat} (hP : P.length = k) (hM : out.length = m) (hF : FL W wr (.slice pv m cv) H out) (hbl : b < W.heap.size) (hs : Sl w1 p1 P.length c1 P) (hb : Below wr.heap.size wr w1) (hm : c1 ≤ maxLen)
    (hq : ∀ a, p1 = some a → wr.heap.size ≤ a.block ∨ ∃ a', (some ⟨b, off, none⟩ : Option Addr) = some a' ∧ a.block = a'.block) :
    (∀ c t mk, (w1.alloc (.cells c t mk)).ownsRow 0 22 1 (.slice pv m cv) m (flatG eh H)) ∧
    ∀ c t mk v' w2, w2.ownsRow 0 22 1 v' (m + 1) (flatG eh (H ++ [(p1, k, c1)])) → Chg (fun k => (Value.slice pv m cv).ownBlock = some k) (w1.alloc (.cells c t mk)) w2 → (∀ k, v'.ownBlock = some k → (Value.slice pv m cv).ownBlock = some k ∨ w1.heap.size + 1 ≤ k) →
      ∃ p2 c2, v' = .slice p2 (m + 1) c2 ∧ FL W w2 (.slice p2 (m + 1) c2) (H ++ [(p1, k, c1)]) (out ++ [P]) := by
  subst hP hM
  have hA : ∀ o, FL W (w1.alloc o) (.slice pv out.length cv) H out := fun o => (hF.later hb).later ((Below.refl _ _).alloc (Nat.le_refl _) _)
  refine ⟨fun c t mk => (hA _).own, fun c t mk v' w2 ho hc hk => ?_⟩
  have hn := (hA (.cells c t mk)).push (p1, P.length, c1) P (hs.later ((Below.refl _ _).alloc (Nat.le_refl _) _)) hm (fun h0 a ha e => ?_) ho hc (by simpa using hk)
  · obtain ⟨p2, c2, hv, _⟩ := hn.done
    rw [List.length_append, List.length_singleton] at hv
    exact ⟨p2, c2, hv, hv ▸ hn⟩
  · rcases hq a ha with h | ⟨a', h1, h2⟩
    · have := (hF.own.lt _ e).2
      omega
    · cases h1
      have := hF.new _ e
      rw [h2] at this
      exact absurd hbl (Nat.not_lt.2 this)
theorem rscan_any (p : Option Addr) (n c : Nat) (B : List Nat) (w : World) (hS : Sl w p n c B) (hc : c ≤ maxLen) (hn : n ≤ 100000) :
    Calls Tryd.prog 14 #[.slice p n c] w (GivesS w (scan B)) := by
  have HS := Lib.hid hS
  have hl := hS.len
  have hcap := hS.cap
  have hc0 := hc
  have HNIL : Hid (FL w w (.slice none 0 0) [] []) := Lib.hid (FL.nil w w (Below.refl _ _))
  have HSC := Lib.hid (Sc.start B)
  unfold maxLen at hc
  clear hS
  go_enter Tryd.func14, Tryd.ntmps14
  go_wp2_with fail
  go_loopw [5, 6] (fun v i wr => ∃ (j m cv : Nat) (pv : Option Addr) (H : List Hd) (out : List (List Nat)), v = .slice pv m cv ∧ i = .int .i64 (j : Nat) ∧ j ≤ n ∧ m ≤ j ∧ Hid (out.length = m) ∧ Hid (Sc B out j) ∧ Hid (FL w wr (.slice pv m cv) H out)) (fun _ i _ => n - (intOf i).toNat)
  case atStart => exact ⟨0, 0, 0, none, [], [], rfl, rfl, Nat.zero_le _, Nat.le_refl _, Lib.hid rfl, HSC, HNIL⟩
  case round =>
    obtain ⟨j, m, cv, pv, H, out, rfl, rfl, hj, hmj, HM, HJ, HF⟩ := hrel
    by_cases hlt : j < n
    · obtain ⟨b, off, hp, hbl, _⟩ := HS.out.blk (by omega)
      subst hp
      have HD : Hid (Sl wr (some ⟨b, off + j, none⟩) (n - j) (c - j) (B.drop j)) := Lib.hid (by
        have := sl_mid (HS.out.later HF.out.below) j (n - j) (by omega)
        rwa [List.take_of_length_le (by rw [List.length_drop]; omega)] at this)
      have HN : Hid (Calls Tryd.prog 12 #[.slice (some ⟨b, off + j, none⟩) (n - j) (c - j)] wr (GivesN wr (some ⟨b, off + j, none⟩) (nextL (B.drop j)) (nextZ (B.drop j)) (nE (B.drop j)))) := Lib.hid (rnext_any _ _ _ (B.drop j) wr HD.out (by omega) (by omega))
      clear HD
      by_cases he : nE (B.drop j) = 0
      · have hst := HJ.out.step he
        have hz := nE_zero he
        rw [List.length_drop] at hz
        have hd := next_ok he
        rw [hd.1, hd.2, he] at HN
        have HST := Lib.hid hst
        have hfew : 7 * (m + 1) ≤ j + (6 + nN (B.drop j)) := by
          have := hst.few
          rw [List.length_append, HM.out, List.length_singleton] at this
          exact this
        have HPL := Lib.hid (nP_len he)
        have hP1 : Hid ((nP (B.drop j)).length = nN (B.drop j)) := HPL
        clear hst hd he HJ
        generalize nN (B.drop j) = k at *
        generalize nP (B.drop j) = P at *
        go_wp2_with fail
        refine HN.out.mono ?_
        rintro e w1 ⟨p1, c1, rfl, hs1, hb1, hm1, hq1⟩
        have HG := Lib.hid (scan_push hP1.out HM.out HF.out (b := b) (off := off + j) hbl hs1 hb1 hm1 hq1)
        rw [hP1.out]
        clear hs1 hb1 hq1
        go_wp2_with (at_builtin; refine wpList_append_hd rfl _ _ rfl _ _ H rfl (HG.out.1 _ _ _) (by omega) (p1, k, c1) _ rfl (by first | (rw [World.cell?_alloc_mark]; rfl) | simp) ?_)
        intro v' w2 ho hc2 hk2
        obtain ⟨p2, c2, hv2, HF2⟩ := HG.out.2 _ _ _ v' w2 ho hc2 hk2
        subst hv2
        replace HF2 := Lib.hid HF2
        clear ho hc2 hk2 HG
        go_wp2_with fail
        go_roundw
        case rel => exact ⟨j + (6 + k), m + 1, c2, p2, _, _, by go_num, by go_num, by omega, by omega, Lib.hid (by rw [List.length_append, HM.out, List.length_singleton]), HST, HF2⟩
        case measure => simp [intOf]; omega
      · have hw := HJ.out.wrong (by omega) he
        have hd := next_bad he
        rw [hd.1, hd.2] at HN
        have HW := Lib.hid hw
        have he1 : (nE (B.drop j) != 0) = true := by simpa using he
        clear hw hd HJ
        generalize nE (B.drop j) = x at *
        go_wp2_with fail
        refine HN.out.mono ?_
        rintro e w1 ⟨p1, c1, rfl, _, hb1, _, _⟩
        have HF1 := Lib.hid ((HF.out.later hb1).gives HM.out HW.out)
        clear hb1
        go_wp2_with fail
        go_ret3
        exact HF1.out
    · obtain rfl : j = n := by omega
      have hsc : scan B = (out, j, 0) := by
        have h1 := HJ.out
        rw [← hl] at h1
        rw [h1.done, hl]
      have HF1 := Lib.hid (HF.out.gives HM.out hsc)
      clear hsc
      go_wp2_with fail
      go_ret3
      exact HF1.out
end Go.Proofs.YtmadneedeheekaaDoor
