import Derived.Test.YtfdgnniicjdjdaaGreatDoorPC38
namespace Go.Proofs.YtfdgnniicjdjdaaGreatDoor
open Go.RowKit Go.ChangeShapes Go.WideShapes
set_option linter.unusedVariables false
set_option linter.unusedSimpArgs false
set_option maxRecDepth 10000
theorem le_byte {x : Nat} (h : x < 256) : le x 1 = [x] := by simp [le, Nat.mod_eq_of_lt h]
theorem pt1 {x : Int} (h : 0 ≤ x ∧ x ≤ 255) (r : List Nat) : numR (0, le x.toNat 1 ++ r) 1 = ((0, r), x.toNat) := numR_put x.toNat 1 r (by omega) (by omega) (by omega)
theorem pt4 {x : Int} (h : 0 ≤ x ∧ x ≤ 4294967295) (r : List Nat) : numR (0, le x.toNat 4 ++ r) 4 = ((0, r), x.toNat) := numR_put x.toNat 4 r (by omega) (by omega) (by omega)
theorem pt8 (x : Nat) (h : x < 18446744073709551616) (r : List Nat) : numR (0, le x 8 ++ r) 8 = ((0, r), x) := numR_put x 8 r (by omega) (by omega) h
theorem ptb (b : Bool) (r : List Nat) : boolR (0, [bitN b] ++ r) = ((0, r), b) := boolR_bit b r
theorem pty {Y : List Nat} (h : Y.length ≤ 512) (r : List Nat) : bytesR (0, le Y.length 2 ++ (Y ++ r)) 512 = ((0, r), Y) := by
 unfold bytesR
 have h2 : numR (0, le Y.length 2 ++ (Y ++ r)) 2 = ((0, Y ++ r), Y.length) := numR_put Y.length 2 (Y ++ r) (by omega) (by omega) (by omega)
 rw [h2]
 dsimp only
 rw [if_neg (by omega)]
 exact takeR_app Y r
theorem u8_toNat {x : Int} (h : 0 ≤ x ∧ x ≤ 255) : ((x.toNat : Nat) : Int) = x := by omega
theorem u32_toNat {x : Int} (h : 0 ≤ x ∧ x ≤ 4294967295) : ((x.toNat : Nat) : Int) = x := by omega
theorem decX_of {Bs : List Nat} {k : Int} {S : St} {X : Rx} (h0 : numR (0, Bs) 1 = (S, k.toNat)) (hk0 : 0 ≤ k) (ho : kOk k = true) (hr : rdX k S = ⟨(0, []), X, 0⟩) (hg : goodX X = true) : decX Bs = (0, X) := by
 unfold decX
 dsimp only
 rw [h0]
 dsimp only
 rw [Int.toNat_of_nonneg hk0, if_pos ho, hr]
 simp [rdE, endR, hg]
theorem keyB_le {k : K} (h : Kok k) : keyB k = le k.1.toNat 1 ++ (le k.2.1.toNat 1 ++ le k.2.2.toNat 1) := by
 obtain ⟨a, b, c⟩ := k
 obtain ⟨h1, h2, h3⟩ := h
 dsimp only at h1 h2 h3
 unfold keyB
 dsimp only
 rw [le_byte (x := a.toNat) (by omega), le_byte (x := b.toNat) (by omega), le_byte (x := c.toNat) (by omega)]
 rfl
theorem decX_enc {X : Rx} (hg : goodX X = true) (hok : Rxok X) : decX (bytesX X) = (0, X) := by
 have hk := goodX_kOk hg
 obtain ⟨k, sg, tx, st, cp, key, d, o, pg⟩ := X
 have hkk : 0 ≤ k ∧ k ≤ 255 := hok.k
 dsimp only at hk
 rcases kOk_cases hk with h | h | h | h | h | h | h | h | h <;> subst h
 · have h2 := hg
   rw [gk1] at h2
   simp only [Bool.and_eq_true, decide_eq_true_eq] at h2
   obtain ⟨⟨_, hp⟩, he⟩ := h2
   rw [he] at hg hok ⊢
   clear he
   refine decX_of (S := (0, le sg.toNat 4 ++ (le (bytesP pg).length 2 ++ (bytesP pg ++ [])))) (k := 1) ?_ (by omega) hk ?_ hg
   · rw [← pt1 hkk]
     simp [bytesX, kS, kT, kB, kA, kO, kP]
   · rw [show rdX 1 (0, le sg.toNat 4 ++ (le (bytesP pg).length 2 ++ (bytesP pg ++ []))) = rd1 (0, le sg.toNat 4 ++ (le (bytesP pg).length 2 ++ (bytesP pg ++ []))) from rfl]
     unfold rd1
     rw [pt4 hok.sg]
     dsimp only
     rw [pty (by have := pg_few hp; omega)]
     dsimp only
     rw [if_pos rfl, dec_enc hp hok.pg, u32_toNat hok.sg]
     rfl
 · have h2 := hg
   rw [gk2] at h2
   simp only [Bool.and_eq_true, decide_eq_true_eq] at h2
   obtain ⟨_, he⟩ := h2
   rw [he] at hg hok ⊢
   clear he
   refine decX_of (S := (0, le sg.toNat 4 ++ (le tx.toNat 4 ++ (le st.toNat 1 ++ ([bitN cp] ++ []))))) (k := 2) ?_ (by omega) hk ?_ hg
   · rw [← pt1 hkk]
     simp [bytesX, kS, kT, kB, kA, kO, kP]
   · rw [show rdX 2 (0, le sg.toNat 4 ++ (le tx.toNat 4 ++ (le st.toNat 1 ++ ([bitN cp] ++ [])))) = rd2 (0, le sg.toNat 4 ++ (le tx.toNat 4 ++ (le st.toNat 1 ++ ([bitN cp] ++ [])))) from rfl]
     unfold rd2
     rw [pt4 hok.sg]
     dsimp only
     rw [pt4 hok.tx]
     dsimp only
     rw [pt1 hok.st]
     dsimp only
     rw [ptb]
     dsimp only
     rw [u32_toNat hok.sg, u32_toNat hok.tx, u8_toNat hok.st]
     rfl
 · have h2 := hg
   rw [gk3 _ _ _ _ _ _ _ _ hok.d] at h2
   simp only [Bool.and_eq_true, decide_eq_true_eq] at h2
   obtain ⟨_, he⟩ := h2
   rw [he] at hg hok ⊢
   clear he
   refine decX_of (S := (0, le tx.toNat 4 ++ (le key.1.toNat 1 ++ (le key.2.1.toNat 1 ++ (le key.2.2.toNat 1 ++ (le (u64 d) 8 ++ [])))))) (k := 3) ?_ (by omega) hk ?_ hg
   · rw [← pt1 hkk]
     have hky : Kok key := hok.key
     simp [bytesX, kS, kT, kB, kA, kO, kP, keyB_le hky]
   · rw [show rdX 3 (0, le tx.toNat 4 ++ (le key.1.toNat 1 ++ (le key.2.1.toNat 1 ++ (le key.2.2.toNat 1 ++ (le (u64 d) 8 ++ []))))) = rd3 3 (0, le tx.toNat 4 ++ (le key.1.toNat 1 ++ (le key.2.1.toNat 1 ++ (le key.2.2.toNat 1 ++ (le (u64 d) 8 ++ []))))) from rfl]
     unfold rd3 keyR
     rw [pt4 hok.tx]
     dsimp only
     rw [pt1 hok.key.1]
     dsimp only
     rw [pt1 hok.key.2.1]
     dsimp only
     rw [pt1 hok.key.2.2]
     dsimp only
     rw [pt8 _ (u64_lt d)]
     dsimp only
     rw [u32_toNat hok.tx, u8_toNat hok.key.1, u8_toNat hok.key.2.1, u8_toNat hok.key.2.2, sgn_u64 hok.d]
     rfl
 · have h2 := hg
   rw [gk4 _ _ _ _ _ _ _ _ _ (Or.inl rfl)] at h2
   simp only [Bool.and_eq_true, decide_eq_true_eq] at h2
   obtain ⟨_, he⟩ := h2
   rw [he] at hg hok ⊢
   clear he
   refine decX_of (S := (0, le tx.toNat 4 ++ [])) (k := 4) ?_ (by omega) hk ?_ hg
   · rw [← pt1 hkk]
     simp [bytesX, kS, kT, kB, kA, kO, kP]
   · rw [show rdX 4 (0, le tx.toNat 4 ++ []) = rd4 4 (0, le tx.toNat 4 ++ []) from rfl]
     unfold rd4
     rw [pt4 hok.tx]
     dsimp only
     rw [u32_toNat hok.tx]
     rfl
 · have h2 := hg
   rw [gk4 _ _ _ _ _ _ _ _ _ (Or.inr (Or.inl rfl))] at h2
   simp only [Bool.and_eq_true, decide_eq_true_eq] at h2
   obtain ⟨_, he⟩ := h2
   rw [he] at hg hok ⊢
   clear he
   refine decX_of (S := (0, le tx.toNat 4 ++ [])) (k := 5) ?_ (by omega) hk ?_ hg
   · rw [← pt1 hkk]
     simp [bytesX, kS, kT, kB, kA, kO, kP]
   · rw [show rdX 5 (0, le tx.toNat 4 ++ []) = rd4 5 (0, le tx.toNat 4 ++ []) from rfl]
     unfold rd4
     rw [pt4 hok.tx]
     dsimp only
     rw [u32_toNat hok.tx]
     rfl
 · have h2 := hg
   rw [gk6 _ _ _ _ _ _ _ _ hok.d] at h2
   simp only [Bool.and_eq_true, decide_eq_true_eq] at h2
   obtain ⟨_, he⟩ := h2
   rw [he] at hg hok ⊢
   clear he
   refine decX_of (S := (0, le tx.toNat 4 ++ (le key.1.toNat 1 ++ (le key.2.1.toNat 1 ++ (le key.2.2.toNat 1 ++ (le (u64 d) 8 ++ [])))))) (k := 6) ?_ (by omega) hk ?_ hg
   · rw [← pt1 hkk]
     have hky : Kok key := hok.key
     simp [bytesX, kS, kT, kB, kA, kO, kP, keyB_le hky]
   · rw [show rdX 6 (0, le tx.toNat 4 ++ (le key.1.toNat 1 ++ (le key.2.1.toNat 1 ++ (le key.2.2.toNat 1 ++ (le (u64 d) 8 ++ []))))) = rd3 6 (0, le tx.toNat 4 ++ (le key.1.toNat 1 ++ (le key.2.1.toNat 1 ++ (le key.2.2.toNat 1 ++ (le (u64 d) 8 ++ []))))) from rfl]
     unfold rd3 keyR
     rw [pt4 hok.tx]
     dsimp only
     rw [pt1 hok.key.1]
     dsimp only
     rw [pt1 hok.key.2.1]
     dsimp only
     rw [pt1 hok.key.2.2]
     dsimp only
     rw [pt8 _ (u64_lt d)]
     dsimp only
     rw [u32_toNat hok.tx, u8_toNat hok.key.1, u8_toNat hok.key.2.1, u8_toNat hok.key.2.2, sgn_u64 hok.d]
     rfl
 · have h2 := hg
   rw [gk4 _ _ _ _ _ _ _ _ _ (Or.inr (Or.inr rfl))] at h2
   simp only [Bool.and_eq_true, decide_eq_true_eq] at h2
   obtain ⟨_, he⟩ := h2
   rw [he] at hg hok ⊢
   clear he
   refine decX_of (S := (0, le tx.toNat 4 ++ [])) (k := 7) ?_ (by omega) hk ?_ hg
   · rw [← pt1 hkk]
     simp [bytesX, kS, kT, kB, kA, kO, kP]
   · rw [show rdX 7 (0, le tx.toNat 4 ++ []) = rd4 7 (0, le tx.toNat 4 ++ []) from rfl]
     unfold rd4
     rw [pt4 hok.tx]
     dsimp only
     rw [u32_toNat hok.tx]
     rfl
 · have h2 := hg
   rw [gk8] at h2
   simp only [Bool.and_eq_true, decide_eq_true_eq] at h2
   obtain ⟨_, he⟩ := h2
   rw [he] at hg hok ⊢
   clear he
   refine decX_of (S := (0, le sg.toNat 4 ++ [])) (k := 8) ?_ (by omega) hk ?_ hg
   · rw [← pt1 hkk]
     simp [bytesX, kS, kT, kB, kA, kO, kP]
   · rw [show rdX 8 (0, le sg.toNat 4 ++ []) = rd8 (0, le sg.toNat 4 ++ []) from rfl]
     unfold rd8
     rw [pt4 hok.sg]
     dsimp only
     rw [u32_toNat hok.sg]
     rfl
 · have h2 := hg
   rw [gk9] at h2
   simp only [Bool.and_eq_true, decide_eq_true_eq] at h2
   obtain ⟨_, he⟩ := h2
   rw [he] at hg hok ⊢
   clear he
   refine decX_of (S := (0, le sg.toNat 4 ++ (le o.toNat 1 ++ []))) (k := 9) ?_ (by omega) hk ?_ hg
   · rw [← pt1 hkk]
     simp [bytesX, kS, kT, kB, kA, kO, kP]
   · rw [show rdX 9 (0, le sg.toNat 4 ++ (le o.toNat 1 ++ [])) = rd9 (0, le sg.toNat 4 ++ (le o.toNat 1 ++ [])) from rfl]
     unfold rd9
     rw [pt4 hok.sg]
     dsimp only
     rw [pt1 hok.o]
     dsimp only
     rw [u32_toNat hok.sg, u8_toNat hok.o]
     rfl
end Go.Proofs.YtfdgnniicjdjdaaGreatDoor
namespace Go.Proofs.YtfdgnniicjdjdaaGreatDoor
set_option linter.unusedVariables false
set_option maxRecDepth 10000
def scanXF : Nat → List Nat → Nat → List (Nat × Rx) → List (Nat × Rx) × Nat × Int
 | 0, _, i, out => (out, i, 0)
 | f + 1, B, i, out => if B.length ≤ i then (out, i, 0) else if nE (B.drop i) ≠ 0 then (out, i, nE (B.drop i)) else if (decX (nP (B.drop i))).1 ≠ 0 then (out, i, 8) else
  scanXF f B (i + (6 + nN (B.drop i))) (out ++ [(i, (decX (nP (B.drop i))).2)])
def scanX (B : List Nat) : List (Nat × Rx) × Nat × Int := scanXF B.length B 0 []
theorem scanXF_same : ∀ (f g : Nat) (B : List Nat) (i : Nat) (out : List (Nat × Rx)), B.length - i ≤ f → B.length - i ≤ g → i ≤ B.length → scanXF f B i out = scanXF g B i out
 | 0, 0, _, _, _, _, _, _ => rfl
 | 0, g + 1, B, i, out, h, _, hi => by
  unfold scanXF
  rw [if_pos (by omega)]
 | f + 1, 0, B, i, out, _, h, hi => by
  unfold scanXF
  rw [if_pos (by omega)]
 | f + 1, g + 1, B, i, out, hf, hg, hi => by
  unfold scanXF
  by_cases h0 : B.length ≤ i
  · rw [if_pos h0, if_pos h0]
  · rw [if_neg h0, if_neg h0]
    by_cases h1 : nE (B.drop i) = 0
    · have hz := nE_zero h1
      rw [List.length_drop] at hz
      rw [scanXF_same f g B (i + (6 + nN (B.drop i))) _ (by omega) (by omega) (by omega)]
    · rw [if_pos h1, if_pos h1]
structure Sx (B : List Nat) (out : List (Nat × Rx)) (i : Nat) : Prop where
 le : i ≤ B.length
 eq : scanXF (B.length - i) B i out = scanX B
 few : 7 * out.length ≤ i
 at_ : ∀ e ∈ out, e.1 ≤ i
theorem Sx.start (B : List Nat) : Sx B [] 0 := ⟨Nat.zero_le _, rfl, Nat.zero_le _, fun e h => by cases h⟩
theorem Sx.step {B : List Nat} {out : List (Nat × Rx)} {i : Nat} (h : Sx B out i) (he : nE (B.drop i) = 0) (hd : (decX (nP (B.drop i))).1 = 0) : Sx B (out ++ [(i, (decX (nP (B.drop i))).2)]) (i + (6 + nN (B.drop i))) := by
 have hz := nE_zero he
 have h2 := h.le
 rw [List.length_drop] at hz
 obtain ⟨f, hf⟩ : ∃ f, B.length - i = f + 1 := ⟨B.length - i - 1, by omega⟩
 have e := h.eq
 rw [hf] at e
 unfold scanXF at e
 rw [if_neg (by omega), if_neg (fun h => h he), if_neg (fun h => h hd)] at e
 refine ⟨by omega, ?_, by have := h.few; rw [List.length_append, List.length_singleton]; omega, fun x hx => ?_⟩
 · rw [← e]
   exact scanXF_same _ _ _ _ _ (by omega) (by omega) (by omega)
 · rcases List.mem_append.1 hx with hx | hx
   · have := h.at_ x hx
     omega
   · rw [List.mem_singleton] at hx
     subst hx
     simp
theorem Sx.done {B : List Nat} {out : List (Nat × Rx)} {i : Nat} (h : Sx B out i) (hi : B.length ≤ i) : scanX B = (out, i, 0) := by
 rw [← h.eq]
 cases hf : B.length - i with
 | zero => rfl
 | succ f => omega
theorem Sx.wrong {B : List Nat} {out : List (Nat × Rx)} {i : Nat} (h : Sx B out i) (hi : i < B.length) (he : nE (B.drop i) ≠ 0) : scanX B = (out, i, nE (B.drop i)) := by
 rw [← h.eq]
 obtain ⟨f, hf⟩ : ∃ f, B.length - i = f + 1 := ⟨B.length - i - 1, by omega⟩
 rw [hf]
 unfold scanXF
 rw [if_neg (by omega), if_pos he]
theorem Sx.form {B : List Nat} {out : List (Nat × Rx)} {i : Nat} (h : Sx B out i) (hi : i < B.length) (he : nE (B.drop i) = 0) (hd : (decX (nP (B.drop i))).1 ≠ 0) : scanX B = (out, i, 8) := by
 rw [← h.eq]
 obtain ⟨f, hf⟩ : ∃ f, B.length - i = f + 1 := ⟨B.length - i - 1, by omega⟩
 rw [hf]
 unfold scanXF
 rw [if_neg (by omega), if_neg (fun h => h he), if_pos hd]
def paysX (Xs : List Rx) : List (List Nat) := Xs.map bytesX
def flatX (Xs : List Rx) : List Nat := flat (paysX Xs)
def frmX (X : Rx) : List Nat := frm (bytesX X)
theorem flatX_append (Xs Ys : List Rx) : flatX (Xs ++ Ys) = flatX Xs ++ flatX Ys := by unfold flatX paysX; rw [List.map_append, flat_append]
theorem flatX_one (X : Rx) : flatX [X] = frmX X := flat_one _
theorem frmX_len (X : Rx) : (frmX X).length = 6 + (bytesX X).length := frm_len _
def entsX : Nat → List Rx → List (Nat × Rx)
 | _, [] => []
 | a, X :: r => (a, X) :: entsX (a + (6 + (bytesX X).length)) r
theorem entsX_append : ∀ (a : Nat) (Xs Ys : List Rx), entsX a (Xs ++ Ys) = entsX a Xs ++ entsX (a + (flatX Xs).length) Ys
 | a, [], Ys => rfl
 | a, X :: r, Ys => by
  show (a, X) :: entsX _ (r ++ Ys) = _
  rw [entsX_append]
  have e : (flatX (X :: r)).length = (6 + (bytesX X).length) + (flatX r).length := by
   rw [show X :: r = [X] ++ r from rfl, flatX_append, List.length_append, flatX_one, frmX_len]
  rw [e, Nat.add_assoc a]
  rfl
theorem entsX_len : ∀ (a : Nat) (Xs : List Rx), (entsX a Xs).length = Xs.length
 | _, [] => rfl
 | a, X :: r => by
  show (entsX _ r).length + 1 = r.length + 1
  rw [entsX_len]
theorem entsX_take (a : Nat) (Xs : List Rx) (k : Nat) : entsX a (Xs.take k) = (entsX a Xs).take k := by
 by_cases h : k ≤ Xs.length
 · have hl : (entsX a (Xs.take k)).length = k := by rw [entsX_len, List.length_take]; omega
   have e := entsX_append a (Xs.take k) (Xs.drop k)
   rw [List.take_append_drop] at e
   rw [e, List.take_left' hl]
 · rw [List.take_of_length_le (by omega), List.take_of_length_le (by rw [entsX_len]; omega)]
def GoodsX (Xs : List Rx) : Prop := ∀ X ∈ Xs, goodX X = true ∧ Rxok X
theorem bytes_good {X : Rx} (h : goodX X = true) : good (bytesX X) = true ∧ 5 ≤ (bytesX X).length ∧ (bytesX X).length ≤ 407 := by
 have hk := goodX_kOk h
 have hl := bytes_len hk
 have hp := goodX_prog h
 have h1 : X.k = 1 → (bytesP X.pg).length ≤ 400 := fun e => by
  rw [e] at hp
  exact pg_few hp
 have h2 : 5 ≤ (bytesX X).length ∧ (bytesX X).length ≤ 407 := by
  rw [hl]
  unfold lenK
  by_cases e : X.k = 1
  · have := h1 e
    rw [if_pos e, if_pos e]
    omega
  · rw [if_neg e, if_neg e]
    repeat' split
    all_goals omega
 exact ⟨(good_iff _).2 ⟨by omega, by omega⟩, h2⟩
theorem scanX_cutF (Xs : List Rx) (hg : GoodsX Xs) (n : Nat) (hn : n ≤ (flatX Xs).length) (Ys Zs : List Rx) (hs : Xs = Ys ++ Zs) (hl : (flatX Ys).length ≤ n) (h : Sx ((flatX Xs).take n) (entsX 0 Ys) (flatX Ys).length) :
 ∃ k, k ≤ Xs.length ∧ (flatX (Xs.take k)).length ≤ n ∧ (k < Xs.length → n < (flatX (Xs.take (k + 1))).length) ∧ scanX ((flatX Xs).take n) = (entsX 0 (Xs.take k), (flatX (Xs.take k)).length, if (flatX (Xs.take k)).length < n then 6 else 0) := by
 have hB : ((flatX Xs).take n).length = n := by rw [List.length_take]; omega
 induction Zs generalizing Ys with
 | nil =>
  rw [List.append_nil] at hs
  subst hs
  have e : n = (flatX Xs).length := by omega
  refine ⟨Xs.length, Nat.le_refl _, by rw [List.take_length]; omega, fun h => absurd h (Nat.lt_irrefl _), ?_⟩
  rw [List.take_length, h.done (by rw [hB]; omega), if_neg (by omega)]
 | cons Z r ih =>
  have hY : Xs.take Ys.length = Ys := by rw [hs, List.take_left]
  have hY1 : Xs.take (Ys.length + 1) = Ys ++ [Z] := by rw [hs, List.take_length_add_append]; rfl
  have hZ := hg Z (by rw [hs]; exact List.mem_append_right _ (List.mem_cons_self ..))
  have hb := bytes_good hZ.1
  have hf1 : (flatX (Ys ++ [Z])).length = (flatX Ys).length + (6 + (bytesX Z).length) := by rw [flatX_append, List.length_append, flatX_one, frmX_len]
  have hd : ((flatX Xs).take n).drop (flatX Ys).length = (frm (bytesX Z) ++ flatX r).take (n - (flatX Ys).length) := by
   rw [hs, List.drop_take, flatX_append, List.drop_left, show Z :: r = [Z] ++ r from rfl, flatX_append, flatX_one]
   rfl
  by_cases hlt : n < (flatX Ys).length + (6 + (bytesX Z).length)
  · refine ⟨Ys.length, by rw [hs, List.length_append]; omega, by rw [hY]; exact hl, fun _ => by rw [hY1, hf1]; exact hlt, ?_⟩
    rw [hY]
    by_cases h0 : (flatX Ys).length < n
    · have hc : nE (((flatX Xs).take n).drop (flatX Ys).length) = 6 := by rw [hd]; exact frm_cut _ _ hb.1 _ (by omega)
      rw [h.wrong (by rw [hB]; exact h0) (by rw [hc]; omega), hc, if_pos h0]
    · rw [h.done (by rw [hB]; omega), if_neg h0]
  · have hd2 : ((flatX Xs).take n).drop (flatX Ys).length = fr (bytesX Z).length (sumL (bytesX Z)) (bytesX Z) ((flatX r).take (n - (flatX Ys).length - (6 + (bytesX Z).length))) := by
     rw [hd, ← fr_frm]
     obtain ⟨m, hm⟩ : ∃ m, n - (flatX Ys).length = (frm (bytesX Z)).length + m := ⟨n - (flatX Ys).length - (6 + (bytesX Z).length), by rw [frm_len]; omega⟩
     rw [hm, List.take_length_add_append, frm_len, Nat.add_sub_cancel_left]
    have e0 : nE (((flatX Xs).take n).drop (flatX Ys).length) = 0 := by rw [hd2, fr_nE _ _ _ (by omega) (by omega) (sumL_lt _), if_pos rfl]
    have e1 : nP (((flatX Xs).take n).drop (flatX Ys).length) = bytesX Z := by rw [hd2]; exact fr_nP _ _ _ (by omega)
    have e2 : nN (((flatX Xs).take n).drop (flatX Ys).length) = (bytesX Z).length := by rw [hd2]; exact fr_nN _ _ _ _ (by omega)
    have e3 := decX_enc hZ.1 hZ.2
    have h2 := h.step e0 (by rw [e1, e3])
    rw [e1, e2, e3, ← hf1] at h2
    have e4 : entsX 0 (Ys ++ [Z]) = entsX 0 Ys ++ [((flatX Ys).length, Z)] := by rw [entsX_append, Nat.zero_add]; rfl
    refine ih (Ys ++ [Z]) (by rw [hs, List.append_assoc]; rfl) (by rw [hf1]; omega) ?_
    rw [e4]
    exact h2
theorem scanX_cut (Xs : List Rx) (hg : GoodsX Xs) (n : Nat) (hn : n ≤ (flatX Xs).length) :
 ∃ k, k ≤ Xs.length ∧ (flatX (Xs.take k)).length ≤ n ∧ (k < Xs.length → n < (flatX (Xs.take (k + 1))).length) ∧ scanX ((flatX Xs).take n) = (entsX 0 (Xs.take k), (flatX (Xs.take k)).length, if (flatX (Xs.take k)).length < n then 6 else 0) :=
 scanX_cutF Xs hg n hn [] Xs rfl (Nat.zero_le _) (Sx.start _)
end Go.Proofs.YtfdgnniicjdjdaaGreatDoor
namespace Go.Proofs.YtfdgnniicjdjdaaGreatDoor
open Go.RowKit Go.ChangeShapes Go.WideShapes Go.Deep
set_option linter.unusedVariables false
set_option maxRecDepth 10000
theorem recCells20 : Tryz.prog.cellsOf 51 = 20 := by kernel_rfl
section
variable {H : Type} {enc : TypeId × Value → H} {w : World} {base : Nat} {held : Bool}
theorem rkey_trod {fuel : Nat} {x y z : Value} {d : DataW H × List MemPlace} (h : DataW.trod enc Tryz.prog w base (fun _ => true) held fuel 45 [x, y, z] = some d) : ∃ k : K, Kok k ∧ x = .int .u8 k.1 ∧ y = .int .u8 k.2.1 ∧ z = .int .u8 k.2.2 := by
 obtain ⟨xs, n, _, _, hlen, hxl, hg⟩ := DataW.trod_struct Tryz.underlying45 h
 have h3 : xs.length = 3 := hxl
 have t0 := hg 0 _ rfl
 have t1 := hg 1 _ rfl
 have t2 := hg 2 _ rfl
 rw [List.getElem?_eq_getElem (by omega)] at t0 t1 t2
 have e0 : DataW.trod enc Tryz.prog w base (fun _ => true) held n 5 [x] = some (xs[0]'(by omega)) := t0
 have e1 : DataW.trod enc Tryz.prog w base (fun _ => true) held n 5 [y] = some (xs[1]'(by omega)) := t1
 have e2 : DataW.trod enc Tryz.prog w base (fun _ => true) held n 5 [z] = some (xs[2]'(by omega)) := t2
 obtain ⟨z0, hv0, _, wf0⟩ := DataW.trod_int Tryz.underlying5 e0
 obtain ⟨z1, hv1, _, wf1⟩ := DataW.trod_int Tryz.underlying5 e1
 obtain ⟨z2, hv2, _, wf2⟩ := DataW.trod_int Tryz.underlying5 e2
 simp at hv0 hv1 hv2
 exact ⟨(z0, z1, z2), ⟨bounds_u8 wf0, bounds_u8 wf1, bounds_u8 wf2⟩, hv0, hv1, hv2⟩
theorem prog_trod {fuel : Nat} {v0 v1 v2 v3 v4 v5 v6 v7 v8 v9 : Value} {d : DataW H × List MemPlace} (hf : DataW.trod enc Tryz.prog w base (fun _ => true) held fuel 49 [v0, v1, v2, v3, v4, v5, v6, v7, v8, v9] = some d) : ∃ (k od po : Int) (lp : Option Addr) (ln lcp : Nat) (tp : Option Addr) (tn tcp : Nat) (wp : Option Addr) (wn wcp : Nat) (sk fr to q : Int) (L : List Ln) (T : List Tk) (M : List Ln), [v0, v1, v2, v3, v4, v5, v6, v7, v8, v9] = [.int .u8 k, .int .u32 od, .int .u8 po, .slice lp ln lcp, .slice tp tn tcp, .slice wp wn wcp, .int .u8 sk, .int .u8 fr, .int .u8 to, .int .i64 q] ∧ Pgok ⟨k, od, po, L, T, M, sk, fr, to, q⟩ ∧ PgM w lp ln lcp L tp tn tcp T wp wn wcp M := by
 obtain ⟨xs, n, _, _, hlen, hxl, hg⟩ := DataW.trod_struct Tryz.underlying49 hf
 have h10 : xs.length = 10 := hxl
 have t0 := hg 0 _ rfl
 have t1 := hg 1 _ rfl
 have t2 := hg 2 _ rfl
 have t3 := hg 3 _ rfl
 have t4 := hg 4 _ rfl
 have t5 := hg 5 _ rfl
 have t6 := hg 6 _ rfl
 have t7 := hg 7 _ rfl
 have t8 := hg 8 _ rfl
 have t9 := hg 9 _ rfl
 rw [List.getElem?_eq_getElem (by omega)] at t0 t1 t2 t3 t4 t5 t6 t7 t8 t9
 have e0 : DataW.trod enc Tryz.prog w base (fun _ => true) held n 5 [v0] = some (xs[0]'(by omega)) := t0
 have e1 : DataW.trod enc Tryz.prog w base (fun _ => true) held n 43 [v1] = some (xs[1]'(by omega)) := t1
 have e2 : DataW.trod enc Tryz.prog w base (fun _ => true) held n 5 [v2] = some (xs[2]'(by omega)) := t2
 have e3 : DataW.trod enc Tryz.prog w base (fun _ => true) held n 46 [v3] = some (xs[3]'(by omega)) := t3
 have e4 : DataW.trod enc Tryz.prog w base (fun _ => true) held n 47 [v4] = some (xs[4]'(by omega)) := t4
 have e5 : DataW.trod enc Tryz.prog w base (fun _ => true) held n 46 [v5] = some (xs[5]'(by omega)) := t5
 have e6 : DataW.trod enc Tryz.prog w base (fun _ => true) held n 5 [v6] = some (xs[6]'(by omega)) := t6
 have e7 : DataW.trod enc Tryz.prog w base (fun _ => true) held n 5 [v7] = some (xs[7]'(by omega)) := t7
 have e8 : DataW.trod enc Tryz.prog w base (fun _ => true) held n 5 [v8] = some (xs[8]'(by omega)) := t8
 have e9 : DataW.trod enc Tryz.prog w base (fun _ => true) held n 2 [v9] = some (xs[9]'(by omega)) := t9
 obtain ⟨z0, hv0, _, wf0⟩ := DataW.trod_int Tryz.underlying5 e0
 obtain ⟨z1, hv1, _, wf1⟩ := DataW.trod_int Tryz.underlying43 e1
 obtain ⟨z2, hv2, _, wf2⟩ := DataW.trod_int Tryz.underlying5 e2
 obtain ⟨z6, hv6, _, wf6⟩ := DataW.trod_int Tryz.underlying5 e6
 obtain ⟨z7, hv7, _, wf7⟩ := DataW.trod_int Tryz.underlying5 e7
 obtain ⟨z8, hv8, _, wf8⟩ := DataW.trod_int Tryz.underlying5 e8
 obtain ⟨z9, hv9, _, wf9⟩ := DataW.trod_int Tryz.underlying2 e9
 simp at hv0 hv1 hv2 hv6 hv7 hv8 hv9
 subst hv0 hv1 hv2 hv6 hv7 hv8 hv9
 obtain ⟨p3, n3, c3, rfl⟩ := slice_shape Tryz.underlying46 e3
 obtain ⟨p4, n4, c4, rfl⟩ := slice_shape Tryz.underlying47 e4
 obtain ⟨p5, n5, c5, rfl⟩ := slice_shape Tryz.underlying46 e5
 obtain ⟨L, hL, hLok⟩ := open_lines e3
 obtain ⟨T, hT, hTok⟩ := open_takes e4
 obtain ⟨M, hM, hMok⟩ := open_lines e5
 exact ⟨z0, z1, z2, p3, n3, c3, p4, n4, c4, p5, n5, c5, z6, z7, z8, z9, L, T, M, rfl, ⟨bounds_u8 wf0, bounds32 wf1, bounds_u8 wf2, hLok, hTok, hMok, bounds_u8 wf6, bounds_u8 wf7, bounds_u8 wf8, bounds_i64 wf9⟩, ⟨hL, hT, hM⟩⟩
end
theorem rec_trod {H : Type} {enc : TypeId × Value → H} {w : World} {base : Nat} {held : Bool} {fuel : Nat} {cs : List Value} {d : DataW H × List MemPlace} (hf : DataW.trod enc Tryz.prog w base (fun _ => true) held fuel 51 cs = some d) : ∃ (r : Rv) (L : List Ln) (T : List Tk) (M : List Ln), cs = (rcs r).toList ∧ Rxok (r.x L T M) ∧ RvM w r L T M := by
 obtain ⟨xs, n, _, _, hlen, hxl, hg⟩ := DataW.trod_struct Tryz.underlying51 hf
 rw [recCells20] at hlen
 have h9 : xs.length = 9 := hxl
 obtain ⟨v0, v1, v2, v3, v4, v5, v6, v7, v8, v9, v10, v11, v12, v13, v14, v15, v16, v17, v18, v19, rfl⟩ : ∃ v0 v1 v2 v3 v4 v5 v6 v7 v8 v9 v10 v11 v12 v13 v14 v15 v16 v17 v18 v19, cs = [v0, v1, v2, v3, v4, v5, v6, v7, v8, v9, v10, v11, v12, v13, v14, v15, v16, v17, v18, v19] := by
  match cs, hlen with
  | [a0, a1, a2, a3, a4, a5, a6, a7, a8, a9, a10, a11, a12, a13, a14, a15, a16, a17, a18, a19], _ => exact ⟨a0, a1, a2, a3, a4, a5, a6, a7, a8, a9, a10, a11, a12, a13, a14, a15, a16, a17, a18, a19, rfl⟩
 have t0 := hg 0 _ rfl
 have t1 := hg 1 _ rfl
 have t2 := hg 2 _ rfl
 have t3 := hg 3 _ rfl
 have t4 := hg 4 _ rfl
 have t5 := hg 5 _ rfl
 have t6 := hg 6 _ rfl
 have t7 := hg 7 _ rfl
 have t8 := hg 8 _ rfl
 rw [List.getElem?_eq_getElem (by omega)] at t0 t1 t2 t3 t4 t5 t6 t7 t8
 have e0 : DataW.trod enc Tryz.prog w base (fun _ => true) held n 5 [v0] = some (xs[0]'(by omega)) := t0
 have e1 : DataW.trod enc Tryz.prog w base (fun _ => true) held n 43 [v1] = some (xs[1]'(by omega)) := t1
 have e2 : DataW.trod enc Tryz.prog w base (fun _ => true) held n 43 [v2] = some (xs[2]'(by omega)) := t2
 have e3 : DataW.trod enc Tryz.prog w base (fun _ => true) held n 5 [v3] = some (xs[3]'(by omega)) := t3
 have e4 : DataW.trod enc Tryz.prog w base (fun _ => true) held n 4 [v4] = some (xs[4]'(by omega)) := t4
 have e5 : DataW.trod enc Tryz.prog w base (fun _ => true) held n 45 [v5, v6, v7] = some (xs[5]'(by omega)) := t5
 have e6 : DataW.trod enc Tryz.prog w base (fun _ => true) held n 2 [v8] = some (xs[6]'(by omega)) := t6
 have e7 : DataW.trod enc Tryz.prog w base (fun _ => true) held n 5 [v9] = some (xs[7]'(by omega)) := t7
 have e8 : DataW.trod enc Tryz.prog w base (fun _ => true) held n 49 [v10, v11, v12, v13, v14, v15, v16, v17, v18, v19] = some (xs[8]'(by omega)) := t8
 obtain ⟨z0, hv0, _, wf0⟩ := DataW.trod_int Tryz.underlying5 e0
 obtain ⟨z1, hv1, _, wf1⟩ := DataW.trod_int Tryz.underlying43 e1
 obtain ⟨z2, hv2, _, wf2⟩ := DataW.trod_int Tryz.underlying43 e2
 obtain ⟨z3, hv3, _, wf3⟩ := DataW.trod_int Tryz.underlying5 e3
 obtain ⟨z6, hv6, _, wf6⟩ := DataW.trod_int Tryz.underlying2 e6
 obtain ⟨z7, hv7, _, wf7⟩ := DataW.trod_int Tryz.underlying5 e7
 obtain ⟨z4, hv4, _⟩ := DataW.trod_bool Tryz.underlying4 e4
 obtain ⟨key, hkey, hk0, hk1, hk2⟩ := rkey_trod e5
 obtain ⟨k, od, po, lp, ln, lcp, tp, tn, tcp, wp, wn, wcp, sk, fr, to, q, L, T, M, hpe, hpok, hpm⟩ := prog_trod e8
 simp at hv0 hv1 hv2 hv3 hv4 hv6 hv7
 simp only [List.cons.injEq, and_true] at hpe
 obtain ⟨g0, g1, g2, g3, g4, g5, g6, g7, g8, g9⟩ := hpe
 subst hv0 hv1 hv2 hv3 hv4 hv6 hv7 hk0 hk1 hk2 g0 g1 g2 g3 g4 g5 g6 g7 g8 g9
 exact ⟨⟨z0, z1, z2, z3, z4, key.1, key.2.1, key.2.2, z6, z7, k, od, po, lp, ln, lcp, tp, tn, tcp, wp, wn, wcp, sk, fr, to, q⟩, L, T, M, rfl, ⟨bounds_u8 wf0, bounds32 wf1, bounds32 wf2, bounds_u8 wf3, hkey, bounds_i64 wf6, bounds_u8 wf7, hpok⟩, hpm⟩
end Go.Proofs.YtfdgnniicjdjdaaGreatDoor
namespace Go.Proofs.YtfdgnniicjdjdaaGreatDoor
open Go.RowKit Go.ChangeShapes Go.WideShapes
set_option linter.unusedVariables false
set_option linter.unusedSimpArgs false
set_option maxRecDepth 10000
theorem isfew_p (k od po : Int) (lp : Option Addr) (ln lcp : Nat) (tp : Option Addr) (tn tcp : Nat) (wp : Option Addr) (wn wcp : Nat) (sk fr to q : Int) (W : World) : Calls Tryz.prog 80 #[.agg #[.int .u8 k, .int .u32 od, .int .u8 po, .slice lp ln lcp, .slice tp tn tcp, .slice wp wn wcp, .int .u8 sk, .int .u8 fr, .int .u8 to, .int .i64 q]] W fun e w' => e = .returned (.bool (decide (ln ≤ 20 ∧ tn ≤ 30 ∧ wn ≤ 20))) ∧ Below W.heap.size W w' := by
 have HB : Hid (Below W.heap.size W (W.alloc (.cells #[.int .u8 k, .int .u32 od, .int .u8 po, .slice lp ln lcp, .slice tp tn tcp, .slice wp wn wcp, .int .u8 sk, .int .u8 fr, .int .u8 to, .int .i64 q] 49))) := Lib.hid ((Below.refl _ _).alloc (Nat.le_refl _) _)
 obtain ⟨r, hr⟩ : ∃ r, decide (ln ≤ 20 ∧ tn ≤ 30 ∧ wn ≤ 20) = r := ⟨_, rfl⟩
 have HR := Lib.hid hr
 rw [hr]
 clear hr
 by_cases h1 : ln ≤ 20
 case neg =>
  have d1 : decide ((ln : Int) ≤ 20) = false := decide_eq_false (by omega)
  obtain rfl : r = false := by rw [← HR.out]; exact decide_eq_false (by omega)
  go_enter Tryz.func80, Tryz.ntmps80
  go_wp2_with fail
  go_ret
  exact ⟨rfl, HB.out⟩
 have d1 : decide ((ln : Int) ≤ 20) = true := decide_eq_true (by omega)
 by_cases h2 : tn ≤ 30
 case neg =>
  have d2 : decide ((tn : Int) ≤ 30) = false := decide_eq_false (by omega)
  obtain rfl : r = false := by rw [← HR.out]; exact decide_eq_false (by omega)
  go_enter Tryz.func80, Tryz.ntmps80
  go_wp2_with fail
  go_ret
  exact ⟨rfl, HB.out⟩
 have d2 : decide ((tn : Int) ≤ 30) = true := decide_eq_true (by omega)
 by_cases h3 : wn ≤ 20
 case neg =>
  have d3 : decide ((wn : Int) ≤ 20) = false := decide_eq_false (by omega)
  obtain rfl : r = false := by rw [← HR.out]; exact decide_eq_false (by omega)
  go_enter Tryz.func80, Tryz.ntmps80
  go_wp2_with fail
  go_ret
  exact ⟨rfl, HB.out⟩
 have d3 : decide ((wn : Int) ≤ 20) = true := decide_eq_true (by omega)
 obtain rfl : r = true := by rw [← HR.out]; exact decide_eq_true (by omega)
 go_enter Tryz.func80, Tryz.ntmps80
 go_wp2_with fail
 go_ret
 exact ⟨rfl, HB.out⟩
def fewI (ln tn wn : Nat) : Int := if ln ≤ 20 ∧ tn ≤ 30 ∧ wn ≤ 20 then 1 else 0
theorem few_p (k od po : Int) (lp : Option Addr) (ln lcp : Nat) (tp : Option Addr) (tn tcp : Nat) (wp : Option Addr) (wn wcp : Nat) (sk fr to q : Int) (W : World) : Calls Tryz.prog 40 #[.agg #[.int .u8 k, .int .u32 od, .int .u8 po, .slice lp ln lcp, .slice tp tn tcp, .slice wp wn wcp, .int .u8 sk, .int .u8 fr, .int .u8 to, .int .i64 q]] W fun e w' => e = .returned (.int .i64 (fewI ln tn wn)) ∧ Below W.heap.size W w' := by
 obtain ⟨W1, hW1, hb1⟩ : ∃ W1, W.alloc (.cells #[.int .u8 k, .int .u32 od, .int .u8 po, .slice lp ln lcp, .slice tp tn tcp, .slice wp wn wcp, .int .u8 sk, .int .u8 fr, .int .u8 to, .int .i64 q] 49) = W1 ∧ Below W.heap.size W W1 := ⟨_, rfl, (Below.refl _ _).alloc (Nat.le_refl _) _⟩
 have HI := Lib.hid (isfew_p k od po lp ln lcp tp tn tcp wp wn wcp sk fr to q W1)
 have HB1 := Lib.hid hb1
 have HW1 := Lib.hid hW1
 clear hW1 hb1
 by_cases h : ln ≤ 20 ∧ tn ≤ 30 ∧ wn ≤ 20
 · have hi := HI.out
   rw [decide_eq_true h] at hi
   have HF : Hid (fewI ln tn wn = 1) := Lib.hid (if_pos h)
   clear h
   go_enter Tryz.func40, Tryz.ntmps40
   go_wp2_with fail
   rw [HW1.out]
   refine hi.mono ?_
   rintro e w2 ⟨rfl, h2⟩
   have HB2 := Lib.hid (HB1.out.trans (h2.mono HB1.out.size))
   clear hi h2
   go_wp2_with fail
   go_ret
   exact ⟨by rw [HF.out]; rfl, HB2.out⟩
 · have hi := HI.out
   rw [decide_eq_false h] at hi
   have HF : Hid (fewI ln tn wn = 0) := Lib.hid (if_neg h)
   clear h
   go_enter Tryz.func40, Tryz.ntmps40
   go_wp2_with fail
   rw [HW1.out]
   refine hi.mono ?_
   rintro e w2 ⟨rfl, h2⟩
   have HB2 := Lib.hid (HB1.out.trans (h2.mono HB1.out.size))
   clear hi h2
   go_wp2_with fail
   go_ret
   exact ⟨by rw [HF.out]; rfl, HB2.out⟩
theorem two_recs (W : World) (r r' : Rv) : ∃ W1, (W.alloc (.cells (rcs r) 51)).alloc (.cells (rcs r') 51) = W1 ∧ RB W1 W.heap.size r ∧ RB W1 (W.heap.size + 1) r' ∧ Below W.heap.size W W1 := by
 refine ⟨_, rfl, ?_, ?_, ((Below.refl _ _).alloc (Nat.le_refl _) _).alloc (by simp) _⟩
 · exact (Below.heap_alloc _ _ _ (by simp)).trans (alloc_block W _)
 · have := alloc_block (W.alloc (.cells (rcs r) 51)) (.cells (rcs r') 51)
   rw [World.size_alloc] at this
   exact this
theorem rx_eq (r r' : Rv) (L : List Ln) (T : List Tk) (M : List Ln) (L' : List Ln) (T' : List Tk) (M' : List Ln) : decide (r.x L T M = r'.x L' T' M') = (r.k == r'.k && r.sg == r'.sg && r.tx == r'.tx && r.st == r'.st && r.cp == r'.cp && decide (((r.ka, r.kb, r.kc) : K) = (r'.ka, r'.kb, r'.kc)) && r.d == r'.d && r.o == r'.o && decide (r.pg L T M = r'.pg L' T' M')) := by
 rw [Bool.eq_iff_iff]
 simp only [decide_eq_true_eq, Bool.and_eq_true, beq_iff_eq]
 constructor
 · intro h
   refine ⟨⟨⟨⟨⟨⟨⟨⟨?_, ?_⟩, ?_⟩, ?_⟩, ?_⟩, ?_⟩, ?_⟩, ?_⟩, ?_⟩
   · exact congrArg Rx.k h
   · exact congrArg Rx.sg h
   · exact congrArg Rx.tx h
   · exact congrArg Rx.st h
   · exact congrArg Rx.cp h
   · exact congrArg Rx.key h
   · exact congrArg Rx.d h
   · exact congrArg Rx.o h
   · exact congrArg Rx.pg h
 · rintro ⟨⟨⟨⟨⟨⟨⟨⟨h1, h2⟩, h3⟩, h4⟩, h5⟩, h6⟩, h7⟩, h8⟩, h9⟩
   unfold Rv.x
   rw [h1, h2, h3, h4, h5, h6, h7, h8, h9]
set_option maxHeartbeats 8000000 in
theorem rrec_same (r r' : Rv) (L : List Ln) (T : List Tk) (M : List Ln) (L' : List Ln) (T' : List Tk) (M' : List Ln) (W : World) (hP : RvM W r L T M) (hP' : RvM W r' L' T' M') (h1 : r.ln ≤ 1000 ∧ r.tn ≤ 1000 ∧ r.wn ≤ 1000) (h2 : r'.ln ≤ 1000 ∧ r'.tn ≤ 1000 ∧ r'.wn ≤ 1000) : Calls Tryz.prog 51 #[.agg (rcs r), .agg (rcs r')] W fun e w' => e = .returned (.bool (decide (r.x L T M = r'.x L' T' M'))) ∧ Below W.heap.size W w' := by
 obtain ⟨W1, hW1, hx, hx', hb1⟩ := two_recs W r r'
 have HP := Lib.hid (hP.later hb1)
 have HP' := Lib.hid (hP'.later hb1)
 have hpp := rsame_p r.pk r.od r.po r.lp r.ln r.lcp r.tp r.tn r.tcp r.wp r.wn r.wcp r.sk r.fr r.to r.q r'.pk r'.od r'.po r'.lp r'.ln r'.lcp r'.tp r'.tn r'.tcp r'.wp r'.wn r'.wcp r'.sk r'.fr r'.to r'.q L T M L' T' M' W1 HP.out HP'.out h1 h2
 have hkk := fun w => key_eql r.ka r.kb r.kc r'.ka r'.kb r'.kc w
 obtain ⟨y, hy⟩ : ∃ y, decide (((r.ka, r.kb, r.kc) : K) = (r'.ka, r'.kb, r'.kc)) = y := ⟨_, rfl⟩
 obtain ⟨z, hz⟩ : ∃ z, decide (r.pg L T M = r'.pg L' T' M') = z := ⟨_, rfl⟩
 have hz' : decide ((⟨r.pk, r.od, r.po, L, T, M, r.sk, r.fr, r.to, r.q⟩ : Pg) = ⟨r'.pk, r'.od, r'.po, L', T', M', r'.sk, r'.fr, r'.to, r'.q⟩) = z := hz
 rw [hz'] at hpp
 rw [hy] at hkk
 have HA := Lib.hid (rx_eq r r' L T M L' T' M')
 rw [hy, hz] at HA
 have HX := Lib.hid hx
 have HX' := Lib.hid hx'
 have HW1 := Lib.hid hW1
 have HB1 := Lib.hid hb1
 have c0 : W1.cell? ⟨W.heap.size, 0, none⟩ = some (.int .u8 r.k) := block_cell hx rfl
 have d0 : W1.cell? ⟨W.heap.size + 1, 0, none⟩ = some (.int .u8 r'.k) := block_cell hx' rfl
 have c1 : W1.cell? ⟨W.heap.size, 1, none⟩ = some (.int .u32 r.sg) := block_cell hx rfl
 have d1 : W1.cell? ⟨W.heap.size + 1, 1, none⟩ = some (.int .u32 r'.sg) := block_cell hx' rfl
 have c2 : W1.cell? ⟨W.heap.size, 2, none⟩ = some (.int .u32 r.tx) := block_cell hx rfl
 have d2 : W1.cell? ⟨W.heap.size + 1, 2, none⟩ = some (.int .u32 r'.tx) := block_cell hx' rfl
 have c3 : W1.cell? ⟨W.heap.size, 3, none⟩ = some (.int .u8 r.st) := block_cell hx rfl
 have d3 : W1.cell? ⟨W.heap.size + 1, 3, none⟩ = some (.int .u8 r'.st) := block_cell hx' rfl
 have c4 : W1.cell? ⟨W.heap.size, 4, none⟩ = some (.bool r.cp) := block_cell hx rfl
 have d4 : W1.cell? ⟨W.heap.size + 1, 4, none⟩ = some (.bool r'.cp) := block_cell hx' rfl
 have c8 : W1.cell? ⟨W.heap.size, 8, none⟩ = some (.int .i64 r.d) := block_cell hx rfl
 have d8 : W1.cell? ⟨W.heap.size + 1, 8, none⟩ = some (.int .i64 r'.d) := block_cell hx' rfl
 have c9 : W1.cell? ⟨W.heap.size, 9, none⟩ = some (.int .u8 r.o) := block_cell hx rfl
 have d9 : W1.cell? ⟨W.heap.size + 1, 9, none⟩ = some (.int .u8 r'.o) := block_cell hx' rfl
 clear hW1 hx hx' hb1 hP hP' h1 h2 hy hz hz'
 cases qk : (r.k == r'.k)
 case false =>
  go_enter Tryz.func51, Tryz.ntmps51
  go_upto_region 1 with (fail)
  rw [HW1.out]
  go_wp2_with (first | ((with_reducible refine wpList_load_kyg HX.out ?_ ?_ ?_); rfl; rfl) | ((with_reducible refine wpList_load_kyg HX'.out ?_ ?_ ?_); rfl; rfl) | ((with_reducible refine wpList_load_prg HX.out ?_ ?_ ?_); rfl; rfl) | ((with_reducible refine wpList_load_prg HX'.out ?_ ?_ ?_); rfl; rfl))
  go_ret
  exact ⟨by rw [HA.out, qk]; rfl, HB1.out⟩
 cases qsg : (r.sg == r'.sg)
 case false =>
  go_enter Tryz.func51, Tryz.ntmps51
  go_upto_region 1 with (fail)
  rw [HW1.out]
  go_wp2_with (first | ((with_reducible refine wpList_load_kyg HX.out ?_ ?_ ?_); rfl; rfl) | ((with_reducible refine wpList_load_kyg HX'.out ?_ ?_ ?_); rfl; rfl) | ((with_reducible refine wpList_load_prg HX.out ?_ ?_ ?_); rfl; rfl) | ((with_reducible refine wpList_load_prg HX'.out ?_ ?_ ?_); rfl; rfl))
  go_ret
  exact ⟨by rw [HA.out, qk, qsg]; rfl, HB1.out⟩
 cases qtx : (r.tx == r'.tx)
 case false =>
  go_enter Tryz.func51, Tryz.ntmps51
  go_upto_region 1 with (fail)
  rw [HW1.out]
  go_wp2_with (first | ((with_reducible refine wpList_load_kyg HX.out ?_ ?_ ?_); rfl; rfl) | ((with_reducible refine wpList_load_kyg HX'.out ?_ ?_ ?_); rfl; rfl) | ((with_reducible refine wpList_load_prg HX.out ?_ ?_ ?_); rfl; rfl) | ((with_reducible refine wpList_load_prg HX'.out ?_ ?_ ?_); rfl; rfl))
  go_ret
  exact ⟨by rw [HA.out, qk, qsg, qtx]; rfl, HB1.out⟩
 cases qst : (r.st == r'.st)
 case false =>
  go_enter Tryz.func51, Tryz.ntmps51
  go_upto_region 1 with (fail)
  rw [HW1.out]
  go_wp2_with (first | ((with_reducible refine wpList_load_kyg HX.out ?_ ?_ ?_); rfl; rfl) | ((with_reducible refine wpList_load_kyg HX'.out ?_ ?_ ?_); rfl; rfl) | ((with_reducible refine wpList_load_prg HX.out ?_ ?_ ?_); rfl; rfl) | ((with_reducible refine wpList_load_prg HX'.out ?_ ?_ ?_); rfl; rfl))
  go_ret
  exact ⟨by rw [HA.out, qk, qsg, qtx, qst]; rfl, HB1.out⟩
 cases qcp : (r.cp == r'.cp)
 case false =>
  go_enter Tryz.func51, Tryz.ntmps51
  go_upto_region 1 with (fail)
  rw [HW1.out]
  go_wp2_with (first | ((with_reducible refine wpList_load_kyg HX.out ?_ ?_ ?_); rfl; rfl) | ((with_reducible refine wpList_load_kyg HX'.out ?_ ?_ ?_); rfl; rfl) | ((with_reducible refine wpList_load_prg HX.out ?_ ?_ ?_); rfl; rfl) | ((with_reducible refine wpList_load_prg HX'.out ?_ ?_ ?_); rfl; rfl))
  go_ret
  exact ⟨by rw [HA.out, qk, qsg, qtx, qst, qcp]; rfl, HB1.out⟩
 cases y
 case false =>
  go_enter Tryz.func51, Tryz.ntmps51
  go_upto_region 1 with (fail)
  rw [HW1.out]
  go_wp2_with (first | ((with_reducible refine wpList_load_kyg HX.out ?_ ?_ ?_); rfl; rfl) | ((with_reducible refine wpList_load_kyg HX'.out ?_ ?_ ?_); rfl; rfl) | ((with_reducible refine wpList_load_prg HX.out ?_ ?_ ?_); rfl; rfl) | ((with_reducible refine wpList_load_prg HX'.out ?_ ?_ ?_); rfl; rfl))
  go_ret
  exact ⟨by rw [HA.out, qk, qsg, qtx, qst, qcp]; rfl, HB1.out⟩
 cases qd : (r.d == r'.d)
 case false =>
  go_enter Tryz.func51, Tryz.ntmps51
  go_upto_region 1 with (fail)
  rw [HW1.out]
  go_wp2_with (first | ((with_reducible refine wpList_load_kyg HX.out ?_ ?_ ?_); rfl; rfl) | ((with_reducible refine wpList_load_kyg HX'.out ?_ ?_ ?_); rfl; rfl) | ((with_reducible refine wpList_load_prg HX.out ?_ ?_ ?_); rfl; rfl) | ((with_reducible refine wpList_load_prg HX'.out ?_ ?_ ?_); rfl; rfl))
  go_ret
  exact ⟨by rw [HA.out, qk, qsg, qtx, qst, qcp, qd]; rfl, HB1.out⟩
 cases qo : (r.o == r'.o)
 case false =>
  go_enter Tryz.func51, Tryz.ntmps51
  go_upto_region 1 with (fail)
  rw [HW1.out]
  go_wp2_with (first | ((with_reducible refine wpList_load_kyg HX.out ?_ ?_ ?_); rfl; rfl) | ((with_reducible refine wpList_load_kyg HX'.out ?_ ?_ ?_); rfl; rfl) | ((with_reducible refine wpList_load_prg HX.out ?_ ?_ ?_); rfl; rfl) | ((with_reducible refine wpList_load_prg HX'.out ?_ ?_ ?_); rfl; rfl))
  go_ret
  exact ⟨by rw [HA.out, qk, qsg, qtx, qst, qcp, qd, qo]; rfl, HB1.out⟩
 go_enter Tryz.func51, Tryz.ntmps51
 go_upto_region 1 with (fail)
 rw [HW1.out]
 go_wp2_with (first | ((with_reducible refine wpList_load_kyg HX.out ?_ ?_ ?_); rfl; rfl) | ((with_reducible refine wpList_load_kyg HX'.out ?_ ?_ ?_); rfl; rfl) | ((with_reducible refine wpList_load_prg HX.out ?_ ?_ ?_); rfl; rfl) | ((with_reducible refine wpList_load_prg HX'.out ?_ ?_ ?_); rfl; rfl))
 refine hpp.mono ?_
 rintro e w2 ⟨rfl, h2⟩
 have HB2 := Lib.hid (HB1.out.trans (h2.mono HB1.out.size))
 clear h2 hpp c0 d0 c1 d1 c2 d2 c3 d3 c4 d4 c8 d8 c9 d9
 go_wp2_with fail
 go_ret
 exact ⟨by rw [HA.out, qk, qsg, qtx, qst, qcp, qd, qo]; rfl, HB2.out⟩
end Go.Proofs.YtfdgnniicjdjdaaGreatDoor
namespace Go.Proofs.YtfdgnniicjdjdaaGreatDoor
open Go.RowKit Go.ChangeShapes Go.WideShapes Go.Deep
set_option linter.unusedVariables false
set_option maxRecDepth 10000
def Keep16 (w : World) (c : Array Value) : Prop := ∃ x y : Nat, c = #[.int .u16 (x : Nat), .int .u16 (y : Nat)] ∧ x < 65536 ∧ y < 65536
theorem keepCells2 : Tryz.prog.cellsOf 89 = 2 := by kernel_rfl
theorem u16Cells1 : Tryz.prog.cellsOf 22 = 1 := by kernel_rfl
theorem wf_k16 {z : Int} (h : (Lit.int .u16 z).wf = true) : ∃ n : Nat, n < 65536 ∧ z = n := by
 have hb : 0 ≤ z ∧ z ≤ 65535 := by simpa [Lit.wf, IntKind.min, IntKind.max, IntKind.bits, IntKind.signed] using h
 exact ⟨z.toNat, by omega, by omega⟩
theorem open_k16 {H : Type} {enc : TypeId × Value → H} {w : World} {base b0 : Nat} {spare : Nat → Bool} {held : Bool} {r : Reach} {v : Value} {d : DataW H} {p : List MemPlace}
 (hv : Value.okWide Tryz.prog w r b0 89 v) (h : DataW.Trod enc Tryz.prog w base spare held 89 v d p) : ∃ c, v = .agg c ∧ Keep16 w c := by
 simp only [Value.okWide, Tryz.underlying89] at hv
 obtain ⟨c, rfl, hsz, _⟩ := hv
 rw [keepCells2] at hsz
 obtain ⟨fuel, hf⟩ := h
 obtain ⟨xs, n, _, _, _, hlen, hg⟩ := DataW.trod_array Tryz.underlying89 hf
 obtain ⟨l⟩ := c
 match l, hsz with
 | [c0, c1], _ =>
  have g0 := hg 0 (by omega)
  have g1 := hg 1 (by omega)
  rw [u16Cells1, List.getElem?_eq_getElem (by omega)] at g0 g1
  simp only [Value.cells, Nat.zero_mul, Nat.one_mul, List.drop_zero, List.drop_succ_cons, List.take_succ_cons, List.take_zero] at g0 g1
  obtain ⟨z0, hv0, _, wf0⟩ := DataW.trod_int Tryz.underlying22 g0
  obtain ⟨z1, hv1, _, wf1⟩ := DataW.trod_int Tryz.underlying22 g1
  simp at hv0 hv1
  subst hv0 hv1
  obtain ⟨x, hx, rfl⟩ := wf_k16 wf0
  obtain ⟨y, hy, rfl⟩ := wf_k16 wf1
  exact ⟨_, rfl, x, y, rfl, hx, hy⟩
end Go.Proofs.YtfdgnniicjdjdaaGreatDoor
