/- Frames as lists of bytes: one frame, the first one of some bytes, all of them; cut off; spoilt. -/
import Derived.Test.YtppmokkbepihhaaDoorCrcMath
import Derived.Test.YtppmokkbepihhaaDoorWireMath
namespace Go.Proofs.YtppmokkbepihhaaDoor
set_option linter.unusedVariables false

/-- The sum of bytes. -/
def sumL (P : List Nat) : Nat := sumF (fun j => P.getD j 0) P.length
theorem sumL_lt (P : List Nat) : sumL P < 4294967296 := sumF_lt _ _
/-- A frame. -/
def frm (P : List Nat) : List Nat := le P.length 2 ++ (le (sumL P) 4 ++ P)
/-- A payload that may be framed. -/
def good (P : List Nat) : Bool := decide (1 ≤ P.length ∧ P.length ≤ 512)
theorem good_iff (P : List Nat) : good P = true ↔ 1 ≤ P.length ∧ P.length ≤ 512 := by simp [good]
theorem frm_len (P : List Nat) : (frm P).length = 6 + P.length := by
  unfold frm
  rw [List.length_append, List.length_append, le_len, le_len]
  omega
/-- The first frame of some bytes: its payload's length, its sum, its payload, what is wrong with it. -/
def nN (B : List Nat) : Nat := un (B.take 2)
def nS (B : List Nat) : Nat := un ((B.drop 2).take 4)
def nP (B : List Nat) : List Nat := (B.drop 6).take (nN B)
def nE (B : List Nat) : Int := if B.length < 6 then 6 else if nN B = 0 ∨ 512 < nN B then 8 else if B.length < 6 + nN B then 6 else if sumL (nP B) = nS B then 0 else 9
theorem nE_short {B : List Nat} (h : B.length < 6) : nE B = 6 := if_pos h
theorem nE_form {B : List Nat} (h : ¬ B.length < 6) (h2 : nN B = 0 ∨ 512 < nN B) : nE B = 8 := by unfold nE; rw [if_neg h, if_pos h2]
theorem nE_less {B : List Nat} (h : ¬ B.length < 6) (h2 : ¬ (nN B = 0 ∨ 512 < nN B)) (h3 : B.length < 6 + nN B) : nE B = 6 := by unfold nE; rw [if_neg h, if_neg h2, if_pos h3]
theorem nE_ok {B : List Nat} (h : ¬ B.length < 6) (h2 : ¬ (nN B = 0 ∨ 512 < nN B)) (h3 : ¬ B.length < 6 + nN B) (h4 : sumL (nP B) = nS B) : nE B = 0 := by unfold nE; rw [if_neg h, if_neg h2, if_neg h3, if_pos h4]
theorem nE_sum {B : List Nat} (h : ¬ B.length < 6) (h2 : ¬ (nN B = 0 ∨ 512 < nN B)) (h3 : ¬ B.length < 6 + nN B) (h4 : ¬ sumL (nP B) = nS B) : nE B = 9 := by unfold nE; rw [if_neg h, if_neg h2, if_neg h3, if_neg h4]
theorem nE_zero {B : List Nat} (h : nE B = 0) : 6 ≤ B.length ∧ 1 ≤ nN B ∧ nN B ≤ 512 ∧ 6 + nN B ≤ B.length := by
  unfold nE at h
  split at h
  · omega
  · split at h
    · omega
    · split at h
      · omega
      · omega
theorem nE_cases (B : List Nat) : nE B = 0 ∨ nE B = 6 ∨ nE B = 8 ∨ nE B = 9 := by
  unfold nE
  split
  · omega
  · split
    · omega
    · split
      · omega
      · split <;> omega
theorem nP_len {B : List Nat} (h : nE B = 0) : (nP B).length = nN B := by
  have := nE_zero h
  unfold nP
  rw [List.length_take, List.length_drop]
  omega
/-- The payloads of all frames, how many bytes they have, and what is wrong behind them. -/
def scanF : Nat → List Nat → List (List Nat) × Nat × Int
  | 0, _ => ([], 0, 0)
  | f + 1, B => if B.length = 0 then ([], 0, 0) else if nE B = 0 then (nP B :: (scanF f (B.drop (6 + nN B))).1, 6 + nN B + (scanF f (B.drop (6 + nN B))).2.1, (scanF f (B.drop (6 + nN B))).2.2) else ([], 0, nE B)
def scan (B : List Nat) : List (List Nat) × Nat × Int := scanF B.length B
theorem scanF_same : ∀ (f g : Nat) (B : List Nat), B.length ≤ f → B.length ≤ g → scanF f B = scanF g B
  | 0, 0, _, _, _ => rfl
  | 0, g + 1, B, h, _ => by
    unfold scanF
    rw [if_pos (by omega)]
  | f + 1, 0, B, _, h => by
    unfold scanF
    rw [if_pos (by omega)]
  | f + 1, g + 1, B, hf, hg => by
    unfold scanF
    by_cases h0 : B.length = 0
    · rw [if_pos h0, if_pos h0]
    · rw [if_neg h0, if_neg h0]
      have e := scanF_same f g (B.drop (6 + nN B)) (by rw [List.length_drop]; omega) (by rw [List.length_drop]; omega)
      rw [e]
theorem scan_nil : scan [] = ([], 0, 0) := rfl
theorem scan_bad {B : List Nat} (h0 : B.length ≠ 0) (h : nE B ≠ 0) : scan B = ([], 0, nE B) := by
  unfold scan
  obtain ⟨n, hn⟩ : ∃ n, B.length = n + 1 := ⟨B.length - 1, by omega⟩
  rw [hn]
  unfold scanF
  rw [if_neg h0, if_neg h]
theorem scan_ok {B : List Nat} (h : nE B = 0) : scan B = (nP B :: (scan (B.drop (6 + nN B))).1, 6 + nN B + (scan (B.drop (6 + nN B))).2.1, (scan (B.drop (6 + nN B))).2.2) := by
  have h1 := nE_zero h
  obtain ⟨n, hn⟩ : ∃ n, B.length = n + 1 := ⟨B.length - 1, by omega⟩
  have e : scanF n (B.drop (6 + nN B)) = scan (B.drop (6 + nN B)) := scanF_same _ _ _ (by rw [List.length_drop]; omega) (Nat.le_refl _)
  conv => lhs; unfold scan
  rw [hn]
  unfold scanF
  rw [if_neg (by omega), if_pos h, e]
/-- How far a scan is: what is out, and where it stands. -/
structure Sc (B : List Nat) (out : List (List Nat)) (at_ : Nat) : Prop where
  le : at_ ≤ B.length
  eq : scan B = (out ++ (scan (B.drop at_)).1, at_ + (scan (B.drop at_)).2.1, (scan (B.drop at_)).2.2)
  few : 7 * out.length ≤ at_
theorem Sc.start (B : List Nat) : Sc B [] 0 := ⟨Nat.zero_le _, by simp, Nat.zero_le _⟩
theorem Sc.step {B : List Nat} {out : List (List Nat)} {i : Nat} (h : Sc B out i) (he : nE (B.drop i) = 0) : Sc B (out ++ [nP (B.drop i)]) (i + (6 + nN (B.drop i))) := by
  have h1 := nE_zero he
  have h2 := h.le
  rw [List.length_drop] at h1
  refine ⟨by omega, ?_, ?_⟩
  · rw [h.eq, scan_ok he, List.drop_drop]
    simp only [List.append_assoc, List.singleton_append, Nat.add_assoc]
  · have := h.few
    rw [List.length_append, List.length_singleton]
    omega
theorem Sc.done {B : List Nat} {out : List (List Nat)} (h : Sc B out B.length) : scan B = (out, B.length, 0) := by
  have e := h.eq
  rw [List.drop_length, scan_nil] at e
  simpa using e
theorem Sc.wrong {B : List Nat} {out : List (List Nat)} {i : Nat} (h : Sc B out i) (hi : i < B.length) (he : nE (B.drop i) ≠ 0) : scan B = (out, i, nE (B.drop i)) := by
  have e := h.eq
  rw [scan_bad (by rw [List.length_drop]; omega) he] at e
  simpa using e

/-- A frame with any sum and any payload, and what lies behind it. -/
def fr (n s : Nat) (Q X : List Nat) : List Nat := le n 2 ++ (le s 4 ++ (Q ++ X))
theorem fr_frm (P X : List Nat) : frm P ++ X = fr P.length (sumL P) P X := by simp [frm, fr]
theorem fr_len (n s : Nat) (Q X : List Nat) : (fr n s Q X).length = 6 + Q.length + X.length := by
  unfold fr
  rw [List.length_append, List.length_append, List.length_append, le_len, le_len]
  omega
theorem fr_nN (n s : Nat) (Q X : List Nat) (hn : n < 65536) : nN (fr n s Q X) = n := by
  unfold nN fr
  rw [List.take_append_of_le_length (by rw [le_len]; omega), List.take_of_length_le (by rw [le_len]; omega), un_le]
  omega
theorem fr_drop2 (n s : Nat) (Q X : List Nat) : (fr n s Q X).drop 2 = le s 4 ++ (Q ++ X) := by
  unfold fr
  exact List.drop_left' (le_len _ _)
theorem fr_drop6 (n s : Nat) (Q X : List Nat) : (fr n s Q X).drop 6 = Q ++ X := by
  rw [show 6 = 2 + 4 by rfl, ← List.drop_drop, fr_drop2]
  exact List.drop_left' (le_len _ _)
theorem fr_nS (n s : Nat) (Q X : List Nat) (hs : s < 4294967296) : nS (fr n s Q X) = s := by
  unfold nS
  rw [fr_drop2, List.take_append_of_le_length (by rw [le_len]; omega), List.take_of_length_le (by rw [le_len]; omega), un_le]
  omega
theorem fr_nP (s : Nat) (Q X : List Nat) (hn : Q.length < 65536) : nP (fr Q.length s Q X) = Q := by
  unfold nP
  rw [fr_nN _ _ _ _ hn, fr_drop6, List.take_left]
theorem fr_rest (s : Nat) (Q X : List Nat) (hn : Q.length < 65536) : (fr Q.length s Q X).drop (6 + nN (fr Q.length s Q X)) = X := by
  rw [fr_nN _ _ _ _ hn, ← List.drop_drop, fr_drop6, List.drop_left]
theorem fr_nE (s : Nat) (Q X : List Nat) (h1 : 1 ≤ Q.length) (h2 : Q.length ≤ 512) (hs : s < 4294967296) : nE (fr Q.length s Q X) = if sumL Q = s then 0 else 9 := by
  have e1 := fr_nN Q.length s Q X (by omega)
  have e2 := fr_nS Q.length s Q X hs
  have e3 := fr_nP s Q X (by omega)
  have e4 := fr_len Q.length s Q X
  unfold nE
  rw [e1, e2, e3, e4, if_neg (by omega), if_neg (by omega), if_neg (by omega)]
/-- Of a frame that is cut off there is too little. -/
theorem frm_cut (P X : List Nat) (hP : good P = true) (n : Nat) (hn : n < 6 + P.length) : nE ((frm P ++ X).take n) = 6 := by
  have h1 := (good_iff P).1 hP
  have hl : ((frm P ++ X).take n).length = n := by rw [List.length_take, List.length_append, frm_len]; omega
  by_cases h6 : n < 6
  · exact nE_short (by rw [hl]; exact h6)
  · have e : nN ((frm P ++ X).take n) = P.length := by
      unfold nN
      rw [List.take_take, Nat.min_eq_left (by omega), fr_frm]
      exact fr_nN _ _ _ _ (by omega)
    exact nE_less (by rw [hl]; exact h6) (by rw [e]; omega) (by rw [hl, e]; exact hn)

/-- Frames one behind another. -/
def flat (G : List (List Nat)) : List Nat := G.flatMap frm
theorem flat_cons (P : List Nat) (G : List (List Nat)) : flat (P :: G) = frm P ++ flat G := rfl
theorem flat_append (F G : List (List Nat)) : flat (F ++ G) = flat F ++ flat G := List.flatMap_append ..
theorem flat_one (P : List Nat) : flat [P] = frm P := by simp [flat]
/-- Where the frame ahead of number k ends. -/
def endAt (G : List (List Nat)) (k : Nat) : Nat := (flat (G.take k)).length
theorem endAt_zero (G : List (List Nat)) : endAt G 0 = 0 := rfl
theorem endAt_cons (P : List Nat) (G : List (List Nat)) (k : Nat) : endAt (P :: G) (k + 1) = 6 + P.length + endAt G k := by
  unfold endAt
  rw [List.take_succ_cons, flat_cons, List.length_append, frm_len]
theorem endAt_succ (G : List (List Nat)) (k : Nat) (h : k < G.length) : endAt G (k + 1) = endAt G k + (6 + (G.getD k []).length) := by
  unfold endAt
  rw [List.take_succ_eq_append_getElem h, flat_append, List.length_append, flat_one, frm_len, List.getD, List.getElem?_eq_getElem h]
  rfl
theorem endAt_mono (G : List (List Nat)) : ∀ i j, i ≤ j → endAt G i ≤ endAt G j := by
  intro i j h
  induction j with
  | zero => rw [Nat.le_zero.1 h]; exact Nat.le_refl _
  | succ j ih =>
    rcases Nat.lt_or_ge j i with h1 | h1
    · rw [show i = j + 1 by omega]; exact Nat.le_refl _
    · refine Nat.le_trans (ih h1) ?_
      by_cases hj : j < G.length
      · rw [endAt_succ G j hj]; omega
      · unfold endAt
        rw [List.take_of_length_le (by omega), List.take_of_length_le (by omega)]
        exact Nat.le_refl _
theorem endAt_all (G : List (List Nat)) : endAt G G.length = (flat G).length := by unfold endAt; rw [List.take_length]
theorem endAt_few (G : List (List Nat)) (hg : ∀ P ∈ G, good P = true) (k : Nat) : endAt G k ≤ 518 * k := by
  induction k with
  | zero => exact Nat.le_refl _
  | succ k ih =>
    by_cases hk : k < G.length
    · rw [endAt_succ G k hk]
      have : (G.getD k []).length ≤ 512 := by
        rw [List.getD, List.getElem?_eq_getElem hk]
        exact ((good_iff _).1 (hg _ (List.getElem_mem hk))).2
      omega
    · unfold endAt at *
      rw [List.take_of_length_le (by omega)] at *
      omega
/-- Of frames that are cut off just the whole ones are scanned. -/
theorem scan_cut : ∀ (G : List (List Nat)), (∀ P ∈ G, good P = true) → ∀ n, n ≤ (flat G).length → ∃ k, k ≤ G.length ∧ endAt G k ≤ n ∧ (k < G.length → n < endAt G (k + 1)) ∧ scan ((flat G).take n) = (G.take k, endAt G k, if endAt G k < n then 6 else 0)
  | [], _, n, hn => by
    obtain rfl : n = 0 := Nat.le_zero.1 hn
    exact ⟨0, Nat.le_refl _, Nat.le_refl _, fun h => absurd h (Nat.lt_irrefl _), rfl⟩
  | P :: G, hg, n, hn => by
    have hP := hg P (List.mem_cons_self ..)
    have hb := (good_iff P).1 hP
    by_cases hlt : n < 6 + P.length
    · refine ⟨0, Nat.zero_le _, Nat.zero_le _, fun _ => ?_, ?_⟩
      · rw [endAt_cons]; omega
      · rw [flat_cons]
        by_cases h0 : n = 0
        · subst h0; rfl
        · have hl : ((frm P ++ flat G).take n).length = n := by rw [List.length_take, List.length_append, frm_len]; omega
          rw [scan_bad (by rw [hl]; exact h0) (by rw [frm_cut P _ hP n hlt]; omega), frm_cut P _ hP n hlt, endAt_zero, if_pos (by omega)]
          rfl
    · obtain ⟨m, rfl⟩ : ∃ m, n = 6 + P.length + m := ⟨n - (6 + P.length), by omega⟩
      rw [flat_cons, List.length_append, frm_len] at hn
      obtain ⟨k, h1, h2, h3, h4⟩ := scan_cut G (fun Q hQ => hg Q (List.mem_cons_of_mem _ hQ)) m (by omega)
      refine ⟨k + 1, by simpa using h1, by rw [endAt_cons]; omega, fun hk => ?_, ?_⟩
      · rw [endAt_cons]
        have := h3 (by simpa using hk)
        omega
      · have e : (flat (P :: G)).take (6 + P.length + m) = frm P ++ (flat G).take m := by
          rw [flat_cons, ← frm_len, List.take_length_add_append]
        have ok : nE (frm P ++ (flat G).take m) = 0 := by rw [fr_frm, fr_nE _ _ _ hb.1 hb.2 (sumL_lt P), if_pos rfl]
        rw [e, scan_ok ok]
        have e2 : (frm P ++ (flat G).take m).drop (6 + nN (frm P ++ (flat G).take m)) = (flat G).take m := by rw [fr_frm]; exact fr_rest _ _ _ (by omega)
        have e3 : nP (frm P ++ (flat G).take m) = P := by rw [fr_frm]; exact fr_nP _ _ _ (by omega)
        have e4 : nN (frm P ++ (flat G).take m) = P.length := by rw [fr_frm]; exact fr_nN _ _ _ _ (by omega)
        rw [e2, e3, e4, h4, endAt_cons, List.take_succ_cons]
        refine Prod.ext rfl (Prod.ext rfl ?_)
        show (if endAt G k < m then (6 : Int) else 0) = if 6 + P.length + endAt G k < 6 + P.length + m then 6 else 0
        by_cases h : endAt G k < m
        · rw [if_pos h, if_pos (by omega)]
        · rw [if_neg h, if_neg (by omega)]
/-- There is one such number. -/
theorem cut_one (G : List (List Nat)) (n i j : Nat) (hi : i ≤ G.length) (hj : j ≤ G.length) (h1 : endAt G i ≤ n) (h2 : i < G.length → n < endAt G (i + 1)) (h3 : endAt G j ≤ n) (h4 : j < G.length → n < endAt G (j + 1)) : i = j := by
  rcases Nat.lt_trichotomy i j with h | h | h
  · have := h2 (by omega)
    have := endAt_mono G (i + 1) j h
    omega
  · exact h
  · have := h4 (by omega)
    have := endAt_mono G (j + 1) i h
    omega
/-- All frames are scanned. -/
theorem scan_flat (G : List (List Nat)) (hg : ∀ P ∈ G, good P = true) : scan (flat G) = (G, (flat G).length, 0) := by
  obtain ⟨k, h1, h2, h3, h4⟩ := scan_cut G hg (flat G).length (Nat.le_refl _)
  rw [List.take_length] at h4
  have hk : k = G.length := by
    rcases Nat.lt_or_ge k G.length with h | h
    · have := h3 h
      have := endAt_mono G (k + 1) G.length h
      rw [endAt_all] at this
      omega
    · omega
  subst hk
  rw [h4, List.take_length, endAt_all, if_neg (Nat.lt_irrefl _)]
/-- Behind frames that are whole one is spoilt. -/
theorem scan_spoilt : ∀ (G : List (List Nat)), (∀ P ∈ G, good P = true) → ∀ (s : Nat) (Q X : List Nat), 1 ≤ Q.length → Q.length ≤ 512 → s < 4294967296 → sumL Q ≠ s → scan (flat G ++ fr Q.length s Q X) = (G, (flat G).length, 9)
  | [], _, s, Q, X, h1, h2, hs, hne => by
    have e : nE (fr Q.length s Q X) = 9 := by rw [fr_nE _ _ _ h1 h2 hs, if_neg hne]
    show scan (fr Q.length s Q X) = ([], 0, 9)
    rw [scan_bad (by rw [fr_len]; omega) (by rw [e]; omega), e]
  | P :: G, hg, s, Q, X, h1, h2, hs, hne => by
    have hP := hg P (List.mem_cons_self ..)
    have hb := (good_iff P).1 hP
    have ih := scan_spoilt G (fun Q hQ => hg Q (List.mem_cons_of_mem _ hQ)) s Q X h1 h2 hs hne
    rw [flat_cons, List.append_assoc]
    have ok : nE (frm P ++ (flat G ++ fr Q.length s Q X)) = 0 := by rw [fr_frm, fr_nE _ _ _ hb.1 hb.2 (sumL_lt P), if_pos rfl]
    have e2 : (frm P ++ (flat G ++ fr Q.length s Q X)).drop (6 + nN (frm P ++ (flat G ++ fr Q.length s Q X))) = flat G ++ fr Q.length s Q X := by rw [fr_frm]; exact fr_rest _ _ _ (by omega)
    have e3 : nP (frm P ++ (flat G ++ fr Q.length s Q X)) = P := by rw [fr_frm]; exact fr_nP _ _ _ (by omega)
    have e4 : nN (frm P ++ (flat G ++ fr Q.length s Q X)) = P.length := by rw [fr_frm]; exact fr_nN _ _ _ _ (by omega)
    rw [scan_ok ok, e2, e3, e4, ih, List.length_append, frm_len]
/-- What can be framed of the first i payloads. -/
def put (Ls : List (List Nat)) (i : Nat) : List (List Nat) := (Ls.take i).filter good
theorem put_zero (Ls : List (List Nat)) : put Ls 0 = [] := rfl
theorem put_good (Ls : List (List Nat)) (i : Nat) : ∀ P ∈ put Ls i, good P = true := fun P h => (List.mem_filter.1 h).2
theorem put_yes (Ls : List (List Nat)) (i : Nat) (hi : i < Ls.length) (h : good (Ls.getD i []) = true) : put Ls (i + 1) = put Ls i ++ [Ls.getD i []] := by
  unfold put
  rw [List.getD, List.getElem?_eq_getElem hi] at h ⊢
  replace h : good Ls[i] = true := h
  rw [List.take_succ_eq_append_getElem hi, List.filter_append]
  simp [h]
theorem put_no (Ls : List (List Nat)) (i : Nat) (hi : i < Ls.length) (h : good (Ls.getD i []) = false) : put Ls (i + 1) = put Ls i := by
  unfold put
  rw [List.getD, List.getElem?_eq_getElem hi] at h
  replace h : good Ls[i] = false := h
  rw [List.take_succ_eq_append_getElem hi, List.filter_append]
  simp [h]
theorem put_few (Ls : List (List Nat)) (i : Nat) : (put Ls i).length ≤ i := by
  unfold put
  exact Nat.le_trans (List.length_filter_le _ _) (by rw [List.length_take]; omega)
end Go.Proofs.YtppmokkbepihhaaDoor
