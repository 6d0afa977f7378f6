/- A counter under escrow, as plain numbers: what each call makes of it; grants in any order; whatever becomes of them. No program. -/
namespace Go.Proofs.Ytgjfgabagfhnoaa
set_option maxRecDepth 10000

def I64 (z : Int) : Prop := -9223372036854775808 ≤ z ∧ z ≤ 9223372036854775807
instance (z : Int) : Decidable (I64 z) := inferInstanceAs (Decidable (_ ∧ _))
/-- A field's numbers. -/
structure Fv where
  lo : Int
  hi : Int
  ba : Int
  inf : Int
  sup : Int
  va : Int
def Fok (f : Fv) : Prop := I64 f.lo ∧ I64 f.hi ∧ I64 f.ba ∧ I64 f.inf ∧ I64 f.sup ∧ I64 f.va
instance (f : Fv) : Decidable (Fok f) := inferInstanceAs (Decidable (_ ∧ _))
def fz : Fv := ⟨0, 0, 0, 0, 0, 0⟩
def goodF (f : Fv) : Bool := decide (f.lo ≤ f.inf ∧ f.inf ≤ f.ba ∧ f.inf ≤ f.va ∧ f.ba ≤ f.sup ∧ f.va ≤ f.sup ∧ f.sup ≤ f.hi)
theorem goodF_iff (f : Fv) : goodF f = true ↔ f.lo ≤ f.inf ∧ f.inf ≤ f.ba ∧ f.inf ≤ f.va ∧ f.ba ≤ f.sup ∧ f.va ≤ f.sup ∧ f.sup ≤ f.hi := by simp [goodF]
/-- A declaration's field. -/
def newF (lo init hi : Int) : Fv × Int := if lo ≤ init ∧ init ≤ hi then (⟨lo, hi, init, init, init, init⟩, 0) else (fz, 3)
/-- What is wrong ahead of all else. -/
def firstF (f : Fv) (d : Int) : Int := if goodF f = true then (if d = 0 ∨ d = -9223372036854775808 then 1 else 0) else 12
/-- Grant. -/
def grantG (f : Fv) (d : Int) : Fv := if 0 < d then { f with sup := f.sup + d, va := f.va + d } else { f with inf := f.inf + d, va := f.va + d }
def grantE (f : Fv) (d : Int) : Int := if firstF f d ≠ 0 then firstF f d else if 0 < d then (if I64 (f.sup + d) then (if f.sup + d ≤ f.hi then 0 else 3) else 2) else (if I64 (f.inf + d) then (if f.lo ≤ f.inf + d then 0 else 3) else 2)
def grantF (f : Fv) (d : Int) : Fv := if grantE f d = 0 then grantG f d else f
/-- The other calls: by how many times d each number is moved. -/
def moveG (f : Fv) (d mv mb mn mf : Int) : Fv := if 0 < d then ⟨f.lo, f.hi, f.ba + mb * d, f.inf + mn * d, f.sup + mf * d, f.va + mv * d⟩ else ⟨f.lo, f.hi, f.ba + mb * d, f.inf + mf * d, f.sup + mn * d, f.va + mv * d⟩
def moveE (f : Fv) (d mv mb mn mf : Int) : Int := if firstF f d ≠ 0 then firstF f d else if Fok (moveG f d mv mb mn mf) ∧ goodF (moveG f d mv mb mn mf) = true then 0 else 12
def moveF (f : Fv) (d mv mb mn mf : Int) : Fv := if (firstF f d = 0 ∧ Fok (moveG f d mv mb mn mf) ∧ goodF (moveG f d mv mb mn mf) = true) then moveG f d mv mb mn mf else f
abbrev undoF (f : Fv) (d : Int) : Fv := moveF f d (-1) 0 0 (-1)
abbrev settleF (f : Fv) (d : Int) : Fv := moveF f d 0 1 1 0
theorem firstF_zero {f : Fv} {d : Int} (h : firstF f d = 0) : goodF f = true ∧ d ≠ 0 ∧ d ≠ -9223372036854775808 := by
  unfold firstF at h
  split at h
  · rename_i hg
    split at h
    · omega
    · rename_i hd
      exact ⟨hg, fun e => hd (.inl e), fun e => hd (.inr e)⟩
  · omega
theorem firstF_ok {f : Fv} {d : Int} (h : goodF f = true) (h1 : d ≠ 0) (h2 : d ≠ -9223372036854775808) : firstF f d = 0 := by
  unfold firstF
  rw [if_pos h, if_neg (by omega)]
/-- A grant that is granted. -/
theorem grant_zero {f : Fv} {d : Int} (h : grantE f d = 0) : firstF f d = 0 ∧ (0 < d → I64 (f.sup + d) ∧ f.sup + d ≤ f.hi) ∧ (d < 0 → I64 (f.inf + d) ∧ f.lo ≤ f.inf + d) := by
  unfold grantE at h
  split at h
  · rename_i h0
    exact absurd h h0
  · rename_i h0
    have h0' : firstF f d = 0 := by omega
    refine ⟨h0', fun hd => ?_, fun hd => ?_⟩
    · rw [if_pos hd] at h
      split at h
      · split at h
        · exact ⟨by assumption, by assumption⟩
        · omega
      · omega
    · rw [if_neg (by omega)] at h
      split at h
      · split at h
        · exact ⟨by assumption, by assumption⟩
        · omega
      · omega
theorem grant_ok {f : Fv} {d : Int} (h0 : firstF f d = 0) (h1 : 0 < d → I64 (f.sup + d) ∧ f.sup + d ≤ f.hi) (h2 : d < 0 → I64 (f.inf + d) ∧ f.lo ≤ f.inf + d) : grantE f d = 0 := by
  unfold grantE
  rw [if_neg (by omega)]
  have hd := (firstF_zero h0).2.1
  by_cases hp : 0 < d
  · rw [if_pos hp, if_pos (h1 hp).1, if_pos (h1 hp).2]
  · rw [if_neg hp, if_pos (h2 (by omega)).1, if_pos (h2 (by omega)).2]
theorem grantF_bad {f : Fv} {d : Int} (h : grantE f d ≠ 0) : grantF f d = f := if_neg h
theorem grantF_ok {f : Fv} {d : Int} (h : grantE f d = 0) : grantF f d = grantG f d := if_pos h
/-- What a grant leaves is good, and fits. -/
theorem grant_good {f : Fv} {d : Int} (hf : Fok f) (h : grantE f d = 0) : goodF (grantG f d) = true ∧ Fok (grantG f d) := by
  obtain ⟨h0, h1, h2⟩ := grant_zero h
  obtain ⟨hg, hd0, hdm⟩ := firstF_zero h0
  have hg' := (goodF_iff f).1 hg
  obtain ⟨a1, a2, a3, a4, a5, a6⟩ := hf
  unfold grantG
  by_cases hp : 0 < d
  · have := h1 hp
    rw [if_pos hp]
    refine ⟨(goodF_iff _).2 ?_, ?_⟩
    · show f.lo ≤ f.inf ∧ f.inf ≤ f.ba ∧ f.inf ≤ f.va + d ∧ f.ba ≤ f.sup + d ∧ f.va + d ≤ f.sup + d ∧ f.sup + d ≤ f.hi
      omega
    · refine ⟨a1, a2, a3, a4, this.1, ?_⟩
      show I64 (f.va + d)
      unfold I64 at *
      omega
  · have := h2 (by omega)
    rw [if_neg hp]
    refine ⟨(goodF_iff _).2 ?_, ?_⟩
    · show f.lo ≤ f.inf + d ∧ f.inf + d ≤ f.ba ∧ f.inf + d ≤ f.va + d ∧ f.ba ≤ f.sup ∧ f.va + d ≤ f.sup ∧ f.sup ≤ f.hi
      omega
    · refine ⟨a1, a2, a3, this.1, a5, ?_⟩
      show I64 (f.va + d)
      unfold I64 at *
      omega
theorem move_ok {f : Fv} {d mv mb mn mf : Int} (h0 : firstF f d = 0) (h1 : Fok (moveG f d mv mb mn mf)) (h2 : goodF (moveG f d mv mb mn mf) = true) : moveE f d mv mb mn mf = 0 ∧ moveF f d mv mb mn mf = moveG f d mv mb mn mf := by
  unfold moveE moveF
  rw [if_neg (by omega), if_pos ⟨h1, h2⟩, if_pos ⟨h0, h1, h2⟩]
  exact ⟨rfl, rfl⟩
theorem move_bad {f : Fv} {d mv mb mn mf : Int} (h : ¬ (firstF f d = 0 ∧ Fok (moveG f d mv mb mn mf) ∧ goodF (moveG f d mv mb mn mf) = true)) : moveF f d mv mb mn mf = f := if_neg h
theorem fv_ext {f g : Fv} (h1 : f.lo = g.lo) (h2 : f.hi = g.hi) (h3 : f.ba = g.ba) (h4 : f.inf = g.inf) (h5 : f.sup = g.sup) (h6 : f.va = g.va) : f = g := by
  cases f; cases g; simp_all
/-- What is granted is undone to what was; taken back and brought forth; taken back and dropped. -/
theorem undoes {f : Fv} {d : Int} (hf : Fok f) (h : grantE f d = 0) :
    (moveE (grantG f d) d (-1) 0 0 (-1) = 0 ∧ undoF (grantG f d) d = f) ∧
    (moveE (grantG f d) d (-1) 0 0 0 = 0 ∧ (moveE (moveF (grantG f d) d (-1) 0 0 0) d 1 0 0 0 = 0 ∧ moveF (moveF (grantG f d) d (-1) 0 0 0) d 1 0 0 0 = grantG f d) ∧
      (moveE (moveF (grantG f d) d (-1) 0 0 0) d 0 0 0 (-1) = 0 ∧ moveF (moveF (grantG f d) d (-1) 0 0 0) d 0 0 0 (-1) = f)) := by
  obtain ⟨h0, h1, h2⟩ := grant_zero h
  obtain ⟨hg, hd0, hdm⟩ := firstF_zero h0
  obtain ⟨gg, gk⟩ := grant_good hf h
  have hg' := (goodF_iff f).1 hg
  have u1 : moveG (grantG f d) d (-1) 0 0 (-1) = f := by
    unfold moveG grantG
    by_cases hp : 0 < d
    · rw [if_pos hp, if_pos hp]
      exact fv_ext rfl rfl (by show f.ba + 0 * d = f.ba; omega) (by show f.inf + 0 * d = f.inf; omega) (by show f.sup + d + -1 * d = f.sup; omega) (by show f.va + d + -1 * d = f.va; omega)
    · rw [if_neg hp, if_neg hp]
      exact fv_ext rfl rfl (by show f.ba + 0 * d = f.ba; omega) (by show f.inf + d + -1 * d = f.inf; omega) (by show f.sup + 0 * d = f.sup; omega) (by show f.va + d + -1 * d = f.va; omega)
  have fg : firstF (grantG f d) d = 0 := firstF_ok gg hd0 hdm
  have m1 := move_ok fg (by rw [u1]; exact hf) (by rw [u1]; exact hg)
  rw [u1] at m1
  -- taken back: Value alone
  have u2 : moveG (grantG f d) d (-1) 0 0 0 = { grantG f d with va := f.va } := by
    unfold moveG grantG
    by_cases hp : 0 < d
    · rw [if_pos hp, if_pos hp]
      exact fv_ext rfl rfl (by show f.ba + 0 * d = f.ba; omega) (by show f.inf + 0 * d = f.inf; omega) (by show f.sup + d + 0 * d = f.sup + d; omega) (by show f.va + d + -1 * d = f.va; omega)
    · rw [if_neg hp, if_neg hp]
      exact fv_ext rfl rfl (by show f.ba + 0 * d = f.ba; omega) (by show f.inf + d + 0 * d = f.inf + d; omega) (by show f.sup + 0 * d = f.sup; omega) (by show f.va + d + -1 * d = f.va; omega)
  have hbg : goodF { grantG f d with va := f.va } = true := by
    have := (goodF_iff _).1 gg
    refine (goodF_iff _).2 ?_
    unfold grantG at *
    by_cases hp : 0 < d
    · rw [if_pos hp] at *
      show f.lo ≤ f.inf ∧ f.inf ≤ f.ba ∧ f.inf ≤ f.va ∧ f.ba ≤ f.sup + d ∧ f.va ≤ f.sup + d ∧ f.sup + d ≤ f.hi
      replace this : f.lo ≤ f.inf ∧ f.inf ≤ f.ba ∧ f.inf ≤ f.va + d ∧ f.ba ≤ f.sup + d ∧ f.va + d ≤ f.sup + d ∧ f.sup + d ≤ f.hi := this
      omega
    · rw [if_neg hp] at *
      show f.lo ≤ f.inf + d ∧ f.inf + d ≤ f.ba ∧ f.inf + d ≤ f.va ∧ f.ba ≤ f.sup ∧ f.va ≤ f.sup ∧ f.sup ≤ f.hi
      replace this : f.lo ≤ f.inf + d ∧ f.inf + d ≤ f.ba ∧ f.inf + d ≤ f.va + d ∧ f.ba ≤ f.sup ∧ f.va + d ≤ f.sup ∧ f.sup ≤ f.hi := this
      omega
  have hbk : Fok { grantG f d with va := f.va } := ⟨gk.1, gk.2.1, gk.2.2.1, gk.2.2.2.1, gk.2.2.2.2.1, hf.2.2.2.2.2⟩
  have m2 := move_ok fg (by rw [u2]; exact hbk) (by rw [u2]; exact hbg)
  rw [u2] at m2
  have fb : firstF { grantG f d with va := f.va } d = 0 := firstF_ok hbg hd0 hdm
  have u3 : moveG { grantG f d with va := f.va } d 1 0 0 0 = grantG f d := by
    unfold moveG grantG
    by_cases hp : 0 < d
    · rw [if_pos hp, if_pos hp]
      exact fv_ext rfl rfl (by show f.ba + 0 * d = f.ba; omega) (by show f.inf + 0 * d = f.inf; omega) (by show f.sup + d + 0 * d = f.sup + d; omega) (by show f.va + 1 * d = f.va + d; omega)
    · rw [if_neg hp, if_neg hp]
      exact fv_ext rfl rfl (by show f.ba + 0 * d = f.ba; omega) (by show f.inf + d + 0 * d = f.inf + d; omega) (by show f.sup + 0 * d = f.sup; omega) (by show f.va + 1 * d = f.va + d; omega)
  have m3 := move_ok fb (by rw [u3]; exact gk) (by rw [u3]; exact gg)
  rw [u3] at m3
  have u4 : moveG { grantG f d with va := f.va } d 0 0 0 (-1) = f := by
    unfold moveG grantG
    by_cases hp : 0 < d
    · rw [if_pos hp, if_pos hp]
      exact fv_ext rfl rfl (by show f.ba + 0 * d = f.ba; omega) (by show f.inf + 0 * d = f.inf; omega) (by show f.sup + d + -1 * d = f.sup; omega) (by show f.va + 0 * d = f.va; omega)
    · rw [if_neg hp, if_neg hp]
      exact fv_ext rfl rfl (by show f.ba + 0 * d = f.ba; omega) (by show f.inf + d + -1 * d = f.inf; omega) (by show f.sup + 0 * d = f.sup; omega) (by show f.va + 0 * d = f.va; omega)
  have m4 := move_ok fb (by rw [u4]; exact hf) (by rw [u4]; exact hg)
  rw [u4] at m4
  rw [m2.2]
  exact ⟨⟨m1.1, m1.2⟩, m2.1, ⟨m3.1, m3.2⟩, m4.1, m4.2⟩
/-- Grants go in any order. -/
theorem turns_one {f : Fv} {a b : Int} (hf : Fok f) (ha : I64 a) (hb : I64 b) (h1 : grantE f a = 0) (h2 : grantE (grantG f a) b = 0) : grantE f b = 0 ∧ grantE (grantG f b) a = 0 ∧ grantG (grantG f a) b = grantG (grantG f b) a := by
  obtain ⟨p0, p1, p2⟩ := grant_zero h1
  obtain ⟨q0, q1, q2⟩ := grant_zero h2
  obtain ⟨hg, a0, am⟩ := firstF_zero p0
  obtain ⟨_, b0, bm⟩ := firstF_zero q0
  obtain ⟨gg, gk⟩ := grant_good hf h1
  have hg' := (goodF_iff f).1 hg
  obtain ⟨k1, k2, k3, k4, k5, k6⟩ := hf
  have hb1 : grantE f b = 0 := by
    refine grant_ok (firstF_ok hg b0 bm) (fun hp => ?_) (fun hp => ?_)
    · have := q1 hp
      unfold grantG at this
      by_cases hpa : 0 < a
      · rw [if_pos hpa] at this
        replace this : I64 (f.sup + a + b) ∧ f.sup + a + b ≤ f.hi := this
        unfold I64 at *
        omega
      · rw [if_neg hpa] at this
        exact this
    · have := q2 hp
      unfold grantG at this
      by_cases hpa : 0 < a
      · rw [if_pos hpa] at this
        exact this
      · rw [if_neg hpa] at this
        replace this : I64 (f.inf + a + b) ∧ f.lo ≤ f.inf + a + b := this
        unfold I64 at *
        omega
  have hf' : Fok f := ⟨k1, k2, k3, k4, k5, k6⟩
  obtain ⟨bg, bk⟩ := grant_good hf' hb1
  have ha1 : grantE (grantG f b) a = 0 := by
    refine grant_ok (firstF_ok bg a0 am) (fun hp => ?_) (fun hp => ?_)
    · have h3 := p1 hp
      unfold grantG
      by_cases hpb : 0 < b
      · rw [if_pos hpb]
        have h4 := q1 hpb
        unfold grantG at h4
        rw [if_pos hp] at h4
        replace h4 : I64 (f.sup + a + b) ∧ f.sup + a + b ≤ f.hi := h4
        show I64 (f.sup + b + a) ∧ f.sup + b + a ≤ f.hi
        unfold I64 at *
        omega
      · rw [if_neg hpb]
        exact h3
    · have h3 := p2 hp
      unfold grantG
      by_cases hpb : 0 < b
      · rw [if_pos hpb]
        exact h3
      · rw [if_neg hpb]
        have h4 := q2 (by omega)
        unfold grantG at h4
        rw [if_neg (by omega)] at h4
        replace h4 : I64 (f.inf + a + b) ∧ f.lo ≤ f.inf + a + b := h4
        show I64 (f.inf + b + a) ∧ f.lo ≤ f.inf + b + a
        unfold I64 at *
        omega
  refine ⟨hb1, ha1, ?_⟩
  unfold grantG
  by_cases hpa : 0 < a
  · by_cases hpb : 0 < b
    · rw [if_pos hpa, if_pos hpb, if_pos hpb, if_pos hpa]
      exact fv_ext rfl rfl rfl rfl (by show f.sup + a + b = f.sup + b + a; omega) (by show f.va + a + b = f.va + b + a; omega)
    · rw [if_pos hpa, if_neg hpb, if_neg hpb, if_pos hpa]
      exact fv_ext rfl rfl rfl rfl rfl (by show f.va + a + b = f.va + b + a; omega)
  · by_cases hpb : 0 < b
    · rw [if_neg hpa, if_pos hpb, if_pos hpb, if_neg hpa]
      exact fv_ext rfl rfl rfl rfl rfl (by show f.va + a + b = f.va + b + a; omega)
    · rw [if_neg hpa, if_neg hpb, if_neg hpb, if_neg hpa]
      exact fv_ext rfl rfl rfl (by show f.inf + a + b = f.inf + b + a; omega) rfl (by show f.va + a + b = f.va + b + a; omega)
/-- The same with what is refused. -/
theorem turns_both {f : Fv} {a b : Int} (hf : Fok f) (ha : I64 a) (hb : I64 b) :
    ((grantE f a = 0 ∧ grantE (grantF f a) b = 0) ↔ (grantE f b = 0 ∧ grantE (grantF f b) a = 0)) ∧ (grantE f a = 0 ∧ grantE (grantF f a) b = 0 → grantF (grantF f a) b = grantF (grantF f b) a) := by
  have one : ∀ {x y : Int}, I64 x → I64 y → grantE f x = 0 → grantE (grantF f x) y = 0 → grantE f y = 0 ∧ grantE (grantF f y) x = 0 ∧ grantF (grantF f x) y = grantF (grantF f y) x := by
    intro x y hx hy h1 h2
    rw [grantF_ok h1] at h2
    obtain ⟨g1, g2, g3⟩ := turns_one hf hx hy h1 h2
    rw [grantF_ok g1, grantF_ok h1]
    exact ⟨g1, g2, by rw [grantF_ok h2, grantF_ok g2, g3]⟩
  exact ⟨⟨fun ⟨h1, h2⟩ => ⟨(one ha hb h1 h2).1, (one ha hb h1 h2).2.1⟩, fun ⟨h1, h2⟩ => ⟨(one hb ha h1 h2).1, (one hb ha h1 h2).2.1⟩⟩, fun ⟨h1, h2⟩ => (one ha hb h1 h2).2.2⟩
/-- What of some numbers is below 0, above 0. -/
def negs : List Int → Int
  | [] => 0
  | x :: l => (if x < 0 then x else 0) + negs l
def poss : List Int → Int
  | [] => 0
  | x :: l => (if 0 < x then x else 0) + poss l
def suml : List Int → Int
  | [] => 0
  | x :: l => x + suml l
theorem negs_le (l : List Int) : negs l ≤ 0 ∧ negs l ≤ suml l := by
  induction l with
  | nil => exact ⟨Int.le_refl _, Int.le_refl _⟩
  | cons x l ih => unfold negs suml; split <;> omega
theorem poss_ge (l : List Int) : 0 ≤ poss l ∧ suml l ≤ poss l := by
  induction l with
  | nil => exact ⟨Int.le_refl _, Int.le_refl _⟩
  | cons x l ih => unfold poss suml; split <;> omega
theorem negs_snoc (l : List Int) (x : Int) : negs (l ++ [x]) = negs l + (if x < 0 then x else 0) := by
  induction l with
  | nil => simp [negs]
  | cons y l ih => rw [List.cons_append, negs, ih, negs]; omega
theorem poss_snoc (l : List Int) (x : Int) : poss (l ++ [x]) = poss l + (if 0 < x then x else 0) := by
  induction l with
  | nil => simp [poss]
  | cons y l ih => rw [List.cons_append, poss, ih, poss]; omega
theorem suml_snoc (l : List Int) (x : Int) : suml (l ++ [x]) = suml l + x := by
  induction l with
  | nil => simp [suml]
  | cons y l ih => rw [List.cons_append, suml, ih, suml]; omega
/-- A field with what is open on it. -/
structure Opn (lo hi w : Int) (R : List Int) (f : Fv) : Prop where
  elo : f.lo = lo
  ehi : f.hi = hi
  eba : f.ba = w
  einf : f.inf = w + negs R
  esup : f.sup = w + poss R
  eva : f.va = w + suml R
  low : lo ≤ w + negs R
  top : w + poss R ≤ hi
  el : ∀ x ∈ R, x ≠ 0 ∧ x ≠ -9223372036854775808
theorem Opn.good {lo hi w : Int} {R : List Int} {f : Fv} (h : Opn lo hi w R f) : goodF f = true := by
  have h1 := negs_le R
  have h2 := poss_ge R
  refine (goodF_iff f).2 ?_
  rw [h.elo, h.ehi, h.eba, h.einf, h.esup, h.eva]
  have := h.low
  have := h.top
  omega
theorem Opn.ok {lo hi w : Int} {R : List Int} {f : Fv} (h : Opn lo hi w R f) (hl : I64 lo) (hh : I64 hi) : Fok f := by
  have h1 := negs_le R
  have h2 := poss_ge R
  have h3 := h.low
  have h4 := h.top
  unfold Fok
  rw [h.elo, h.ehi, h.eba, h.einf, h.esup, h.eva]
  unfold I64 at *
  omega
theorem Opn.start {lo init hi : Int} (h1 : lo ≤ init) (h2 : init ≤ hi) : Opn lo hi init [] ⟨lo, hi, init, init, init, init⟩ :=
  ⟨rfl, rfl, rfl, by show init = init + 0; omega, by show init = init + 0; omega, by show init = init + 0; omega, by show lo ≤ init + 0; omega, by show init + 0 ≤ hi; omega, fun x hx => by cases hx⟩
theorem Opn.grant {lo hi w : Int} {R : List Int} {f : Fv} {d : Int} (h : Opn lo hi w R f) (hg : grantE f d = 0) : Opn lo hi w (R ++ [d]) (grantG f d) := by
  obtain ⟨p0, p1, p2⟩ := grant_zero hg
  obtain ⟨_, d0, dm⟩ := firstF_zero p0
  have e1 := h.einf
  have e2 := h.esup
  have e3 := h.eva
  have e4 := h.elo
  have e5 := h.ehi
  have l1 := h.low
  have l2 := h.top
  have n1 := negs_snoc R d
  have n2 := poss_snoc R d
  have n3 := suml_snoc R d
  unfold grantG
  by_cases hp : 0 < d
  · have := p1 hp
    rw [if_neg (by omega)] at n1
    rw [if_pos hp] at n2 ⊢
    exact ⟨h.elo, h.ehi, h.eba, by show f.inf = _; omega, by show f.sup + d = _; omega, by show f.va + d = _; omega, by omega, by omega, fun x hx => by
      rcases List.mem_append.1 hx with hx | hx
      · exact h.el x hx
      · rw [List.mem_singleton.1 hx]; exact ⟨d0, dm⟩⟩
  · have := p2 (by omega)
    rw [if_pos (by omega)] at n1
    rw [if_neg hp] at n2 ⊢
    exact ⟨h.elo, h.ehi, h.eba, by show f.inf + d = _; omega, by show f.sup = _; omega, by show f.va + d = _; omega, by omega, by omega, fun x hx => by
      rcases List.mem_append.1 hx with hx | hx
      · exact h.el x hx
      · rw [List.mem_singleton.1 hx]; exact ⟨d0, dm⟩⟩
/-- The first of what is open is undone, or settled. -/
theorem Opn.undo {lo hi w : Int} {R : List Int} {f : Fv} {d : Int} (h : Opn lo hi w (d :: R) f) (hl : I64 lo) (hh : I64 hi) : moveE f d (-1) 0 0 (-1) = 0 ∧ Opn lo hi w R (undoF f d) := by
  obtain ⟨d0, dm⟩ := h.el d (List.mem_cons_self ..)
  have h1 := negs_le R
  have h2 := poss_ge R
  have hi1 := h.einf
  have hs1 := h.esup
  have hv1 := h.eva
  have l1 := h.low
  have l2 := h.top
  unfold negs at hi1 l1
  unfold poss at hs1 l2
  unfold suml at hv1
  have hn : Opn lo hi w R (moveG f d (-1) 0 0 (-1)) := by
    unfold moveG
    by_cases hp : 0 < d
    · rw [if_neg (by omega)] at hi1 l1
      rw [if_pos hp] at hs1 l2 ⊢
      exact ⟨h.elo, h.ehi, by show f.ba + 0 * d = w; have := h.eba; omega, by show f.inf + 0 * d = _; omega, by show f.sup + -1 * d = _; omega, by show f.va + -1 * d = _; omega, by omega, by omega, fun x hx => h.el x (List.mem_cons_of_mem _ hx)⟩
    · rw [if_pos (by omega)] at hi1 l1
      rw [if_neg hp] at hs1 l2 ⊢
      exact ⟨h.elo, h.ehi, by show f.ba + 0 * d = w; have := h.eba; omega, by show f.inf + -1 * d = _; omega, by show f.sup + 0 * d = _; omega, by show f.va + -1 * d = _; omega, by omega, by omega, fun x hx => h.el x (List.mem_cons_of_mem _ hx)⟩
  have m := move_ok (firstF_ok h.good d0 dm) (hn.ok hl hh) hn.good
  exact ⟨m.1, by rw [show undoF f d = moveF f d (-1) 0 0 (-1) from rfl, m.2]; exact hn⟩
theorem Opn.settle {lo hi w : Int} {R : List Int} {f : Fv} {d : Int} (h : Opn lo hi w (d :: R) f) (hl : I64 lo) (hh : I64 hi) : moveE f d 0 1 1 0 = 0 ∧ Opn lo hi (w + d) R (settleF f d) := by
  obtain ⟨d0, dm⟩ := h.el d (List.mem_cons_self ..)
  have h1 := negs_le R
  have h2 := poss_ge R
  have hi1 := h.einf
  have hs1 := h.esup
  have hv1 := h.eva
  have l1 := h.low
  have l2 := h.top
  unfold negs at hi1 l1
  unfold poss at hs1 l2
  unfold suml at hv1
  have hn : Opn lo hi (w + d) R (moveG f d 0 1 1 0) := by
    unfold moveG
    by_cases hp : 0 < d
    · rw [if_neg (by omega)] at hi1 l1
      rw [if_pos hp] at hs1 l2 ⊢
      exact ⟨h.elo, h.ehi, by show f.ba + 1 * d = w + d; have := h.eba; omega, by show f.inf + 1 * d = _; omega, by show f.sup + 0 * d = _; omega, by show f.va + 0 * d = _; omega, by omega, by omega, fun x hx => h.el x (List.mem_cons_of_mem _ hx)⟩
    · rw [if_pos (by omega)] at hi1 l1
      rw [if_neg hp] at hs1 l2 ⊢
      exact ⟨h.elo, h.ehi, by show f.ba + 1 * d = w + d; have := h.eba; omega, by show f.inf + 0 * d = _; omega, by show f.sup + 1 * d = _; omega, by show f.va + 0 * d = _; omega, by omega, by omega, fun x hx => h.el x (List.mem_cons_of_mem _ hx)⟩
  have m := move_ok (firstF_ok h.good d0 dm) (hn.ok hl hh) hn.good
  exact ⟨m.1, by rw [show settleF f d = moveF f d 0 1 1 0 from rfl, m.2]; exact hn⟩
/-- Where all that was open has ended. -/
theorem Opn.over {lo hi w : Int} {f : Fv} (h : Opn lo hi w [] f) : f = ⟨lo, hi, w, w, w, w⟩ :=
  fv_ext h.elo h.ehi h.eba (by have := h.einf; unfold negs at this; show f.inf = w; omega) (by have := h.esup; unfold poss at this; show f.sup = w; omega) (by have := h.eva; unfold suml at this; show f.va = w; omega)
/-- One more is granted just if it leads to no place beyond a bound. -/
theorem sharp {f : Fv} {d : Int} (hf : Fok f) (hg : goodF f = true) (hd : I64 d) : grantE f d = 0 ↔ (0 < d ∧ d ≤ f.hi - f.sup) ∨ (d < 0 ∧ d ≠ -9223372036854775808 ∧ -d ≤ f.inf - f.lo) := by
  have hg' := (goodF_iff f).1 hg
  obtain ⟨k1, k2, k3, k4, k5, k6⟩ := hf
  constructor
  · intro h
    obtain ⟨p0, p1, p2⟩ := grant_zero h
    obtain ⟨_, d0, dm⟩ := firstF_zero p0
    by_cases hp : 0 < d
    · have := p1 hp; left; omega
    · have := p2 (by omega); right; omega
  · rintro (⟨h1, h2⟩ | ⟨h1, h2, h3⟩)
    · refine grant_ok (firstF_ok hg (by omega) (by omega)) (fun _ => ?_) (fun h => by omega)
      unfold I64 at *
      omega
    · refine grant_ok (firstF_ok hg (by omega) (by omega)) (fun h => by omega) (fun _ => ?_)
      unfold I64 at *
      omega
end Go.Proofs.Ytgjfgabagfhnoaa
