/- What is encoded is decoded as it was, and the other way round: records as plain data. Nothing of the program's text. -/
import Derived.Test.YtdcanppiiikjgaaDoorGrReca
import Derived.Test.YtdcanppiiikjgaaDoorGrRecd
namespace Go.Proofs.YtdcanppiiikjgaaDoor
open Go.RowKit Go.ChangeShapes Go.WideShapes
set_option linter.unusedVariables false
set_option linter.unusedSimpArgs false
set_option maxRecDepth 10000

theorem le_byte {x : Nat} (h : x < 256) : le x 1 = [x] := by simp [le, Nat.mod_eq_of_lt h]
theorem pt1 {x : Int} (h : 0 ≤ x ∧ x ≤ 255) (r : List Nat) : numR (0, le x.toNat 1 ++ r) 1 = ((0, r), x.toNat) := numR_put x.toNat 1 r (by omega) (by omega) (by omega)
theorem pt4 {x : Int} (h : 0 ≤ x ∧ x ≤ 4294967295) (r : List Nat) : numR (0, le x.toNat 4 ++ r) 4 = ((0, r), x.toNat) := numR_put x.toNat 4 r (by omega) (by omega) (by omega)
theorem pt8 (x : Nat) (h : x < 18446744073709551616) (r : List Nat) : numR (0, le x 8 ++ r) 8 = ((0, r), x) := numR_put x 8 r (by omega) (by omega) h
theorem ptb (b : Bool) (r : List Nat) : boolR (0, [bitN b] ++ r) = ((0, r), b) := boolR_bit b r
theorem pty {Y : List Nat} (h : Y.length ≤ 512) (r : List Nat) : bytesR (0, le Y.length 2 ++ (Y ++ r)) 512 = ((0, r), Y) := by
  unfold bytesR
  have h2 : numR (0, le Y.length 2 ++ (Y ++ r)) 2 = ((0, Y ++ r), Y.length) := numR_put Y.length 2 (Y ++ r) (by omega) (by omega) (by omega)
  rw [h2]
  dsimp only
  rw [if_neg (by omega)]
  exact takeR_app Y r
theorem u8_toNat {x : Int} (h : 0 ≤ x ∧ x ≤ 255) : ((x.toNat : Nat) : Int) = x := by omega
theorem u32_toNat {x : Int} (h : 0 ≤ x ∧ x ≤ 4294967295) : ((x.toNat : Nat) : Int) = x := by omega
theorem decX_of {Bs : List Nat} {k : Int} {S : St} {X : Rx} (h0 : numR (0, Bs) 1 = (S, k.toNat)) (hk0 : 0 ≤ k) (ho : kOk k = true) (hr : rdX k S = ⟨(0, []), X, 0⟩) (hg : goodX X = true) : decX Bs = (0, X) := by
  unfold decX
  dsimp only
  rw [h0]
  dsimp only
  rw [Int.toNat_of_nonneg hk0, if_pos ho, hr]
  simp [rdE, endR, hg]
theorem keyB_le {k : K} (h : Kok k) : keyB k = le k.1.toNat 1 ++ (le k.2.1.toNat 1 ++ le k.2.2.toNat 1) := by
  obtain ⟨a, b, c⟩ := k
  obtain ⟨h1, h2, h3⟩ := h
  dsimp only at h1 h2 h3
  unfold keyB
  dsimp only
  rw [le_byte (x := a.toNat) (by omega), le_byte (x := b.toNat) (by omega), le_byte (x := c.toNat) (by omega)]
  rfl
/-- What is encoded is decoded as it was. -/
theorem decX_enc {X : Rx} (hg : goodX X = true) (hok : Rxok X) : decX (bytesX X) = (0, X) := by
  have hk := goodX_kOk hg
  obtain ⟨k, sg, tx, st, cp, key, d, o, pg⟩ := X
  have hkk : 0 ≤ k ∧ k ≤ 255 := hok.k
  dsimp only at hk
  rcases kOk_cases hk with h | h | h | h | h | h | h | h | h <;> subst h
  · have h2 := hg
    rw [gk1] at h2
    simp only [Bool.and_eq_true, decide_eq_true_eq] at h2
    obtain ⟨⟨_, hp⟩, he⟩ := h2
    rw [he] at hg hok ⊢
    clear he
    refine decX_of (S := (0, le sg.toNat 4 ++ (le (bytesP pg).length 2 ++ (bytesP pg ++ [])))) (k := 1) ?_ (by omega) hk ?_ hg
    · rw [← pt1 hkk]
      simp [bytesX, kS, kT, kB, kA, kO, kP]
    · rw [show rdX 1 (0, le sg.toNat 4 ++ (le (bytesP pg).length 2 ++ (bytesP pg ++ []))) = rd1 (0, le sg.toNat 4 ++ (le (bytesP pg).length 2 ++ (bytesP pg ++ []))) from rfl]
      unfold rd1
      rw [pt4 hok.sg]
      dsimp only
      rw [pty (by have := pg_few hp; omega)]
      dsimp only
      rw [if_pos rfl, dec_enc hp hok.pg, u32_toNat hok.sg]
      rfl
  · have h2 := hg
    rw [gk2] at h2
    simp only [Bool.and_eq_true, decide_eq_true_eq] at h2
    obtain ⟨_, he⟩ := h2
    rw [he] at hg hok ⊢
    clear he
    refine decX_of (S := (0, le sg.toNat 4 ++ (le tx.toNat 4 ++ (le st.toNat 1 ++ ([bitN cp] ++ []))))) (k := 2) ?_ (by omega) hk ?_ hg
    · rw [← pt1 hkk]
      simp [bytesX, kS, kT, kB, kA, kO, kP]
    · rw [show rdX 2 (0, le sg.toNat 4 ++ (le tx.toNat 4 ++ (le st.toNat 1 ++ ([bitN cp] ++ [])))) = rd2 (0, le sg.toNat 4 ++ (le tx.toNat 4 ++ (le st.toNat 1 ++ ([bitN cp] ++ [])))) from rfl]
      unfold rd2
      rw [pt4 hok.sg]
      dsimp only
      rw [pt4 hok.tx]
      dsimp only
      rw [pt1 hok.st]
      dsimp only
      rw [ptb]
      dsimp only
      rw [u32_toNat hok.sg, u32_toNat hok.tx, u8_toNat hok.st]
      rfl
  · have h2 := hg
    rw [gk3 _ _ _ _ _ _ _ _ hok.d] at h2
    simp only [Bool.and_eq_true, decide_eq_true_eq] at h2
    obtain ⟨_, he⟩ := h2
    rw [he] at hg hok ⊢
    clear he
    refine decX_of (S := (0, le tx.toNat 4 ++ (le key.1.toNat 1 ++ (le key.2.1.toNat 1 ++ (le key.2.2.toNat 1 ++ (le (u64 d) 8 ++ [])))))) (k := 3) ?_ (by omega) hk ?_ hg
    · rw [← pt1 hkk]
      have hky : Kok key := hok.key
      simp [bytesX, kS, kT, kB, kA, kO, kP, keyB_le hky]
    · rw [show rdX 3 (0, le tx.toNat 4 ++ (le key.1.toNat 1 ++ (le key.2.1.toNat 1 ++ (le key.2.2.toNat 1 ++ (le (u64 d) 8 ++ []))))) = rd3 3 (0, le tx.toNat 4 ++ (le key.1.toNat 1 ++ (le key.2.1.toNat 1 ++ (le key.2.2.toNat 1 ++ (le (u64 d) 8 ++ []))))) from rfl]
      unfold rd3 keyR
      rw [pt4 hok.tx]
      dsimp only
      rw [pt1 hok.key.1]
      dsimp only
      rw [pt1 hok.key.2.1]
      dsimp only
      rw [pt1 hok.key.2.2]
      dsimp only
      rw [pt8 _ (u64_lt d)]
      dsimp only
      rw [u32_toNat hok.tx, u8_toNat hok.key.1, u8_toNat hok.key.2.1, u8_toNat hok.key.2.2, sgn_u64 hok.d]
      rfl
  · have h2 := hg
    rw [gk4 _ _ _ _ _ _ _ _ _ (Or.inl rfl)] at h2
    simp only [Bool.and_eq_true, decide_eq_true_eq] at h2
    obtain ⟨_, he⟩ := h2
    rw [he] at hg hok ⊢
    clear he
    refine decX_of (S := (0, le tx.toNat 4 ++ [])) (k := 4) ?_ (by omega) hk ?_ hg
    · rw [← pt1 hkk]
      simp [bytesX, kS, kT, kB, kA, kO, kP]
    · rw [show rdX 4 (0, le tx.toNat 4 ++ []) = rd4 4 (0, le tx.toNat 4 ++ []) from rfl]
      unfold rd4
      rw [pt4 hok.tx]
      dsimp only
      rw [u32_toNat hok.tx]
      rfl
  · have h2 := hg
    rw [gk4 _ _ _ _ _ _ _ _ _ (Or.inr (Or.inl rfl))] at h2
    simp only [Bool.and_eq_true, decide_eq_true_eq] at h2
    obtain ⟨_, he⟩ := h2
    rw [he] at hg hok ⊢
    clear he
    refine decX_of (S := (0, le tx.toNat 4 ++ [])) (k := 5) ?_ (by omega) hk ?_ hg
    · rw [← pt1 hkk]
      simp [bytesX, kS, kT, kB, kA, kO, kP]
    · rw [show rdX 5 (0, le tx.toNat 4 ++ []) = rd4 5 (0, le tx.toNat 4 ++ []) from rfl]
      unfold rd4
      rw [pt4 hok.tx]
      dsimp only
      rw [u32_toNat hok.tx]
      rfl
  · have h2 := hg
    rw [gk6 _ _ _ _ _ _ _ _ hok.d] at h2
    simp only [Bool.and_eq_true, decide_eq_true_eq] at h2
    obtain ⟨_, he⟩ := h2
    rw [he] at hg hok ⊢
    clear he
    refine decX_of (S := (0, le tx.toNat 4 ++ (le key.1.toNat 1 ++ (le key.2.1.toNat 1 ++ (le key.2.2.toNat 1 ++ (le (u64 d) 8 ++ [])))))) (k := 6) ?_ (by omega) hk ?_ hg
    · rw [← pt1 hkk]
      have hky : Kok key := hok.key
      simp [bytesX, kS, kT, kB, kA, kO, kP, keyB_le hky]
    · rw [show rdX 6 (0, le tx.toNat 4 ++ (le key.1.toNat 1 ++ (le key.2.1.toNat 1 ++ (le key.2.2.toNat 1 ++ (le (u64 d) 8 ++ []))))) = rd3 6 (0, le tx.toNat 4 ++ (le key.1.toNat 1 ++ (le key.2.1.toNat 1 ++ (le key.2.2.toNat 1 ++ (le (u64 d) 8 ++ []))))) from rfl]
      unfold rd3 keyR
      rw [pt4 hok.tx]
      dsimp only
      rw [pt1 hok.key.1]
      dsimp only
      rw [pt1 hok.key.2.1]
      dsimp only
      rw [pt1 hok.key.2.2]
      dsimp only
      rw [pt8 _ (u64_lt d)]
      dsimp only
      rw [u32_toNat hok.tx, u8_toNat hok.key.1, u8_toNat hok.key.2.1, u8_toNat hok.key.2.2, sgn_u64 hok.d]
      rfl
  · have h2 := hg
    rw [gk4 _ _ _ _ _ _ _ _ _ (Or.inr (Or.inr rfl))] at h2
    simp only [Bool.and_eq_true, decide_eq_true_eq] at h2
    obtain ⟨_, he⟩ := h2
    rw [he] at hg hok ⊢
    clear he
    refine decX_of (S := (0, le tx.toNat 4 ++ [])) (k := 7) ?_ (by omega) hk ?_ hg
    · rw [← pt1 hkk]
      simp [bytesX, kS, kT, kB, kA, kO, kP]
    · rw [show rdX 7 (0, le tx.toNat 4 ++ []) = rd4 7 (0, le tx.toNat 4 ++ []) from rfl]
      unfold rd4
      rw [pt4 hok.tx]
      dsimp only
      rw [u32_toNat hok.tx]
      rfl
  · have h2 := hg
    rw [gk8] at h2
    simp only [Bool.and_eq_true, decide_eq_true_eq] at h2
    obtain ⟨_, he⟩ := h2
    rw [he] at hg hok ⊢
    clear he
    refine decX_of (S := (0, le sg.toNat 4 ++ [])) (k := 8) ?_ (by omega) hk ?_ hg
    · rw [← pt1 hkk]
      simp [bytesX, kS, kT, kB, kA, kO, kP]
    · rw [show rdX 8 (0, le sg.toNat 4 ++ []) = rd8 (0, le sg.toNat 4 ++ []) from rfl]
      unfold rd8
      rw [pt4 hok.sg]
      dsimp only
      rw [u32_toNat hok.sg]
      rfl
  · have h2 := hg
    rw [gk9] at h2
    simp only [Bool.and_eq_true, decide_eq_true_eq] at h2
    obtain ⟨_, he⟩ := h2
    rw [he] at hg hok ⊢
    clear he
    refine decX_of (S := (0, le sg.toNat 4 ++ (le o.toNat 1 ++ []))) (k := 9) ?_ (by omega) hk ?_ hg
    · rw [← pt1 hkk]
      simp [bytesX, kS, kT, kB, kA, kO, kP]
    · rw [show rdX 9 (0, le sg.toNat 4 ++ (le o.toNat 1 ++ [])) = rd9 (0, le sg.toNat 4 ++ (le o.toNat 1 ++ [])) from rfl]
      unfold rd9
      rw [pt4 hok.sg]
      dsimp only
      rw [pt1 hok.o]
      dsimp only
      rw [u32_toNat hok.sg, u8_toNat hok.o]
      rfl
theorem sp1 {S : St} (hB : ∀ y ∈ S.2, y < 256) (h : (numR S 1).1.1 = 0) : S.1 = 0 ∧ S.2 = le (numR S 1).2 1 ++ (numR S 1).1.2 := numR_split hB (n := 1) (by omega) (by omega) h
theorem sp2 {S : St} (hB : ∀ y ∈ S.2, y < 256) (h : (numR S 2).1.1 = 0) : S.1 = 0 ∧ S.2 = le (numR S 2).2 2 ++ (numR S 2).1.2 := numR_split hB (n := 2) (by omega) (by omega) h
theorem sp4 {S : St} (hB : ∀ y ∈ S.2, y < 256) (h : (numR S 4).1.1 = 0) : S.1 = 0 ∧ S.2 = le (numR S 4).2 4 ++ (numR S 4).1.2 := numR_split hB (n := 4) (by omega) (by omega) h
theorem sp8 {S : St} (hB : ∀ y ∈ S.2, y < 256) (h : (numR S 8).1.1 = 0) : S.1 = 0 ∧ S.2 = le (numR S 8).2 8 ++ (numR S 8).1.2 := numR_split hB (n := 8) (by omega) (by omega) h
theorem bad_no {e : Int} (he : e ≠ 0) {S : St} (h : (bad e S).1 = 0) : False := by
  unfold bad at h
  split at h
  · exact he h
  · rename_i hn; exact hn h
theorem spb {S : St} (hB : ∀ y ∈ S.2, y < 256) (h : (boolR S).1.1 = 0) : S.1 = 0 ∧ S.2 = [bitN (boolR S).2] ++ (boolR S).1.2 := by
  unfold boolR at *
  by_cases h1 : 1 < (numR S 1).2
  · rw [if_pos h1] at h
    exact (bad_no (by decide) h).elim
  · rw [if_neg h1] at h ⊢
    obtain ⟨a, b⟩ := sp1 hB h
    refine ⟨a, ?_⟩
    rw [b]
    dsimp only
    have hv : (numR S 1).2 = 0 ∨ (numR S 1).2 = 1 := by omega
    rcases hv with hv | hv <;> rw [hv] <;> rfl
theorem spy {S : St} (hB : ∀ y ∈ S.2, y < 256) (h : (bytesR S 512).1.1 = 0) : S.1 = 0 ∧ S.2 = le (bytesR S 512).2.length 2 ++ ((bytesR S 512).2 ++ (bytesR S 512).1.2) := by
  unfold bytesR at *
  by_cases hm : (512 : Int) < ((numR S 2).2 : Int)
  · rw [if_pos hm] at h
    have hne : ¬ (bad 7 (numR S 2).1).1 = 0 := fun h => bad_no (by decide) h
    unfold takeR at h
    rw [if_neg hne] at h
    exact absurd h hne
  · rw [if_neg hm] at h ⊢
    unfold takeR at h ⊢
    by_cases h0 : (numR S 2).1.1 = 0
    · rw [if_pos h0] at h ⊢
      by_cases hl : (numR S 2).1.2.length < (numR S 2).2
      · rw [if_pos hl] at h
        have h6 : (6 : Int) = 0 := h
        exact absurd h6 (by decide)
      · rw [if_neg hl]
        dsimp only
        obtain ⟨a, b⟩ := sp2 hB h0
        refine ⟨a, ?_⟩
        rw [List.length_take, Nat.min_eq_left (by omega), List.take_append_drop]
        exact b
    · rw [if_neg h0] at h
      exact absurd h h0
theorem end_zero {S : St} (h : endR S = 0) : S.1 = 0 ∧ S.2 = [] := by
  unfold endR at h
  split at h
  · exact absurd h (by decide)
  · rename_i hn
    refine ⟨h, ?_⟩
    by_cases hl : 0 < S.2.length
    · exact absurd ⟨h, hl⟩ hn
    · exact List.eq_nil_of_length_eq_zero (by omega)
/-- What is read to its end is encoded so. -/
theorem enc_rd {k : Nat} (hk : kOk ((k : Nat) : Int) = true) {S : St} (hB : ∀ y ∈ S.2, y < 256) (h : rdE (rdX ((k : Nat) : Int) S) = 0) : S.1 = 0 ∧ bytesX (rdX ((k : Nat) : Int) S).rx = le k 1 ++ S.2 := by
  obtain ⟨kk, hkk⟩ : ∃ kk : Int, ((k : Nat) : Int) = kk := ⟨_, rfl⟩
  have hkn : k = kk.toNat := by omega
  rw [hkk] at hk h ⊢
  rw [hkn]
  clear hkk hkn
  have b4 := numR_bytes hB 4
  rcases kOk_cases hk with e | e | e | e | e | e | e | e | e <;> subst e
  · rw [show rdX 1 S = rd1 S from rfl] at h ⊢
    unfold rd1 at h ⊢
    dsimp only at h ⊢
    by_cases hb : (bytesR (numR S 4).1 512).1.1 = 0
    · rw [if_pos hb] at h ⊢
      unfold rdE at h
      dsimp only at h
      by_cases he : (decP (bytesR (numR S 4).1 512).2).1 = 0
      · rw [if_pos he] at h
        obtain ⟨_, hn⟩ := end_zero h
        obtain ⟨s4, e4⟩ := spy b4 hb
        obtain ⟨s0, e0⟩ := sp4 hB s4
        obtain ⟨_, hby, _⟩ := enc_dec (bytesR_lt b4 512) he
        refine ⟨s0, ?_⟩
        rw [e0, e4, hn]
        simp [bytesX, kS, kT, kB, kA, kO, kP, hby, noX]
      · rw [if_neg he] at h
        exact absurd h he
    · rw [if_neg hb] at h
      exact absurd (end_zero h).1 hb
  · rw [show rdX 2 S = rd2 S from rfl] at h ⊢
    unfold rd2 at h ⊢
    dsimp only at h ⊢
    obtain ⟨hz, hn⟩ := end_zero h
    have b5 := numR_bytes b4 4
    have b6 := numR_bytes b5 1
    obtain ⟨s3, e3⟩ := spb b6 hz
    obtain ⟨s2, e2⟩ := sp1 b5 s3
    obtain ⟨s1, e1⟩ := sp4 b4 s2
    obtain ⟨s0, e0⟩ := sp4 hB s1
    refine ⟨s0, ?_⟩
    conv => rhs; rw [e0, e1, e2, e3, hn]
    simp [bytesX, kS, kT, kB, kA, kO, kP, noX]
  · rw [show rdX 3 S = rd3 3 S from rfl] at h ⊢
    unfold rd3 keyR at h ⊢
    dsimp only at h ⊢
    obtain ⟨hz, hn⟩ := end_zero h
    have b5 := numR_bytes b4 1
    have b6 := numR_bytes b5 1
    have b7 := numR_bytes b6 1
    obtain ⟨s4, e4⟩ := sp8 b7 hz
    obtain ⟨s3, e3⟩ := sp1 b6 s4
    obtain ⟨s2, e2⟩ := sp1 b5 s3
    obtain ⟨s1, e1⟩ := sp1 b4 s2
    obtain ⟨s0, e0⟩ := sp4 hB s1
    refine ⟨s0, ?_⟩
    conv => rhs; rw [e0, e1, e2, e3, e4, hn]
    simp [bytesX, kS, kT, kB, kA, kO, kP, noX, keyB, u64_sgn (fit8 b7), le_byte (fit_1 b4), le_byte (fit_1 b5), le_byte (fit_1 b6)]
  · rw [show rdX 4 S = rd4 4 S from rfl] at h ⊢
    unfold rd4 at h ⊢
    dsimp only at h ⊢
    obtain ⟨hz, hn⟩ := end_zero h
    obtain ⟨s0, e0⟩ := sp4 hB hz
    refine ⟨s0, ?_⟩
    conv => rhs; rw [e0, hn]
    simp [bytesX, kS, kT, kB, kA, kO, kP, noX]
  · rw [show rdX 5 S = rd4 5 S from rfl] at h ⊢
    unfold rd4 at h ⊢
    dsimp only at h ⊢
    obtain ⟨hz, hn⟩ := end_zero h
    obtain ⟨s0, e0⟩ := sp4 hB hz
    refine ⟨s0, ?_⟩
    conv => rhs; rw [e0, hn]
    simp [bytesX, kS, kT, kB, kA, kO, kP, noX]
  · rw [show rdX 6 S = rd3 6 S from rfl] at h ⊢
    unfold rd3 keyR at h ⊢
    dsimp only at h ⊢
    obtain ⟨hz, hn⟩ := end_zero h
    have b5 := numR_bytes b4 1
    have b6 := numR_bytes b5 1
    have b7 := numR_bytes b6 1
    obtain ⟨s4, e4⟩ := sp8 b7 hz
    obtain ⟨s3, e3⟩ := sp1 b6 s4
    obtain ⟨s2, e2⟩ := sp1 b5 s3
    obtain ⟨s1, e1⟩ := sp1 b4 s2
    obtain ⟨s0, e0⟩ := sp4 hB s1
    refine ⟨s0, ?_⟩
    conv => rhs; rw [e0, e1, e2, e3, e4, hn]
    simp [bytesX, kS, kT, kB, kA, kO, kP, noX, keyB, u64_sgn (fit8 b7), le_byte (fit_1 b4), le_byte (fit_1 b5), le_byte (fit_1 b6)]
  · rw [show rdX 7 S = rd4 7 S from rfl] at h ⊢
    unfold rd4 at h ⊢
    dsimp only at h ⊢
    obtain ⟨hz, hn⟩ := end_zero h
    obtain ⟨s0, e0⟩ := sp4 hB hz
    refine ⟨s0, ?_⟩
    conv => rhs; rw [e0, hn]
    simp [bytesX, kS, kT, kB, kA, kO, kP, noX]
  · rw [show rdX 8 S = rd8 S from rfl] at h ⊢
    unfold rd8 at h ⊢
    dsimp only at h ⊢
    obtain ⟨hz, hn⟩ := end_zero h
    obtain ⟨s0, e0⟩ := sp4 hB hz
    refine ⟨s0, ?_⟩
    conv => rhs; rw [e0, hn]
    simp [bytesX, kS, kT, kB, kA, kO, kP, noX]
  · rw [show rdX 9 S = rd9 S from rfl] at h ⊢
    unfold rd9 at h ⊢
    dsimp only at h ⊢
    obtain ⟨hz, hn⟩ := end_zero h
    obtain ⟨s1, e1⟩ := sp1 b4 hz
    obtain ⟨s0, e0⟩ := sp4 hB s1
    refine ⟨s0, ?_⟩
    conv => rhs; rw [e0, e1, hn]
    simp [bytesX, kS, kT, kB, kA, kO, kP, noX]
/-- What is decoded is encoded so. -/
theorem encX_dec {Bs : List Nat} (hB : ∀ y ∈ Bs, y < 256) (h : (decX Bs).1 = 0) : goodX (decX Bs).2 = true ∧ bytesX (decX Bs).2 = Bs ∧ Rxok (decX Bs).2 := by
  have hB0 : ∀ y ∈ ((0, Bs) : St).2, y < 256 := hB
  unfold decX at h ⊢
  dsimp only at h ⊢
  by_cases hk : kOk (((numR (0, Bs) 1).2 : Nat) : Int) = true
  · rw [if_pos hk] at h ⊢
    by_cases he : rdE (rdX (((numR (0, Bs) 1).2 : Nat) : Int) (numR (0, Bs) 1).1) ≠ 0
    · rw [if_pos he] at h
      exact absurd h he
    · rw [if_neg he] at h ⊢
      cases hg : goodX (rdX (((numR (0, Bs) 1).2 : Nat) : Int) (numR (0, Bs) 1).1).rx with
      | false =>
        rw [hg, if_neg (by decide)] at h
        exact absurd h (by decide)
      | true =>
        rw [if_pos rfl]
        dsimp only
        have b1 := numR_bytes hB0 1
        obtain ⟨s1, e1⟩ := enc_rd hk b1 (Decidable.not_not.1 he)
        obtain ⟨_, e0⟩ := sp1 hB0 s1
        exact ⟨hg, by rw [e1]; exact e0.symm, (rdX_ok hk b1).1⟩
  · rw [if_neg hk] at h
    dsimp only at h
    split at h
    · rename_i h1; exact absurd h h1
    · exact absurd h (by decide)
end Go.Proofs.YtdcanppiiikjgaaDoor
