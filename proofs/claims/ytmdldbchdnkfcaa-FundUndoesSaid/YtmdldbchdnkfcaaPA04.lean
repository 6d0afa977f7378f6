namespace Go.Proofs.Ytmdldbchdnkfcaa
set_option maxRecDepth 10000
def I64 (z : Int) : Prop := -9223372036854775808 ≤ z ∧ z ≤ 9223372036854775807
instance (z : Int) : Decidable (I64 z) := inferInstanceAs (Decidable (_ ∧ _))
structure Fv where
 lo : Int
 hi : Int
 ba : Int
 inf : Int
 sup : Int
 va : Int
def Fok (f : Fv) : Prop := I64 f.lo ∧ I64 f.hi ∧ I64 f.ba ∧ I64 f.inf ∧ I64 f.sup ∧ I64 f.va
instance (f : Fv) : Decidable (Fok f) := inferInstanceAs (Decidable (_ ∧ _))
def fz : Fv := ⟨0, 0, 0, 0, 0, 0⟩
def goodF (f : Fv) : Bool := decide (f.lo ≤ f.inf ∧ f.inf ≤ f.ba ∧ f.inf ≤ f.va ∧ f.ba ≤ f.sup ∧ f.va ≤ f.sup ∧ f.sup ≤ f.hi)
theorem goodF_iff (f : Fv) : goodF f = true ↔ f.lo ≤ f.inf ∧ f.inf ≤ f.ba ∧ f.inf ≤ f.va ∧ f.ba ≤ f.sup ∧ f.va ≤ f.sup ∧ f.sup ≤ f.hi := by simp [goodF]
def newF (lo init hi : Int) : Fv × Int := if lo ≤ init ∧ init ≤ hi then (⟨lo, hi, init, init, init, init⟩, 0) else (fz, 3)
def firstF (f : Fv) (d : Int) : Int := if goodF f = true then (if d = 0 ∨ d = -9223372036854775808 then 1 else 0) else 12
def grantG (f : Fv) (d : Int) : Fv := if 0 < d then { f with sup := f.sup + d, va := f.va + d } else { f with inf := f.inf + d, va := f.va + d }
def grantE (f : Fv) (d : Int) : Int := if firstF f d ≠ 0 then firstF f d else if 0 < d then (if I64 (f.sup + d) then (if f.sup + d ≤ f.hi then 0 else 3) else 2) else (if I64 (f.inf + d) then (if f.lo ≤ f.inf + d then 0 else 3) else 2)
def grantF (f : Fv) (d : Int) : Fv := if grantE f d = 0 then grantG f d else f
def moveG (f : Fv) (d mv mb mn mf : Int) : Fv := if 0 < d then ⟨f.lo, f.hi, f.ba + mb * d, f.inf + mn * d, f.sup + mf * d, f.va + mv * d⟩ else ⟨f.lo, f.hi, f.ba + mb * d, f.inf + mf * d, f.sup + mn * d, f.va + mv * d⟩
def moveE (f : Fv) (d mv mb mn mf : Int) : Int := if firstF f d ≠ 0 then firstF f d else if Fok (moveG f d mv mb mn mf) ∧ goodF (moveG f d mv mb mn mf) = true then 0 else 12
def moveF (f : Fv) (d mv mb mn mf : Int) : Fv := if (firstF f d = 0 ∧ Fok (moveG f d mv mb mn mf) ∧ goodF (moveG f d mv mb mn mf) = true) then moveG f d mv mb mn mf else f
abbrev undoF (f : Fv) (d : Int) : Fv := moveF f d (-1) 0 0 (-1)
abbrev settleF (f : Fv) (d : Int) : Fv := moveF f d 0 1 1 0
theorem firstF_zero {f : Fv} {d : Int} (h : firstF f d = 0) : goodF f = true ∧ d ≠ 0 ∧ d ≠ -9223372036854775808 := by
 unfold firstF at h
 split at h
 · rename_i hg
   split at h
   · omega
   · rename_i hd
     exact ⟨hg, fun e => hd (.inl e), fun e => hd (.inr e)⟩
 · omega
theorem firstF_ok {f : Fv} {d : Int} (h : goodF f = true) (h1 : d ≠ 0) (h2 : d ≠ -9223372036854775808) : firstF f d = 0 := by
 unfold firstF
 rw [if_pos h, if_neg (by omega)]
theorem grant_zero {f : Fv} {d : Int} (h : grantE f d = 0) : firstF f d = 0 ∧ (0 < d → I64 (f.sup + d) ∧ f.sup + d ≤ f.hi) ∧ (d < 0 → I64 (f.inf + d) ∧ f.lo ≤ f.inf + d) := by
 unfold grantE at h
 split at h
 · rename_i h0
   exact absurd h h0
 · rename_i h0
   have h0' : firstF f d = 0 := by omega
   refine ⟨h0', fun hd => ?_, fun hd => ?_⟩
   · rw [if_pos hd] at h
     split at h
     · split at h
       · exact ⟨by assumption, by assumption⟩
       · omega
     · omega
   · rw [if_neg (by omega)] at h
     split at h
     · split at h
       · exact ⟨by assumption, by assumption⟩
       · omega
     · omega
theorem grantF_bad {f : Fv} {d : Int} (h : grantE f d ≠ 0) : grantF f d = f := if_neg h
theorem grantF_ok {f : Fv} {d : Int} (h : grantE f d = 0) : grantF f d = grantG f d := if_pos h
theorem grant_good {f : Fv} {d : Int} (hf : Fok f) (h : grantE f d = 0) : goodF (grantG f d) = true ∧ Fok (grantG f d) := by
 obtain ⟨h0, h1, h2⟩ := grant_zero h
 obtain ⟨hg, hd0, hdm⟩ := firstF_zero h0
 have hg' := (goodF_iff f).1 hg
 obtain ⟨a1, a2, a3, a4, a5, a6⟩ := hf
 unfold grantG
 by_cases hp : 0 < d
 · have := h1 hp
   rw [if_pos hp]
   refine ⟨(goodF_iff _).2 ?_, ?_⟩
   · show f.lo ≤ f.inf ∧ f.inf ≤ f.ba ∧ f.inf ≤ f.va + d ∧ f.ba ≤ f.sup + d ∧ f.va + d ≤ f.sup + d ∧ f.sup + d ≤ f.hi
     omega
   · refine ⟨a1, a2, a3, a4, this.1, ?_⟩
     show I64 (f.va + d)
     unfold I64 at *
     omega
 · have := h2 (by omega)
   rw [if_neg hp]
   refine ⟨(goodF_iff _).2 ?_, ?_⟩
   · show f.lo ≤ f.inf + d ∧ f.inf + d ≤ f.ba ∧ f.inf + d ≤ f.va + d ∧ f.ba ≤ f.sup ∧ f.va + d ≤ f.sup ∧ f.sup ≤ f.hi
     omega
   · refine ⟨a1, a2, a3, this.1, a5, ?_⟩
     show I64 (f.va + d)
     unfold I64 at *
     omega
theorem move_ok {f : Fv} {d mv mb mn mf : Int} (h0 : firstF f d = 0) (h1 : Fok (moveG f d mv mb mn mf)) (h2 : goodF (moveG f d mv mb mn mf) = true) : moveE f d mv mb mn mf = 0 ∧ moveF f d mv mb mn mf = moveG f d mv mb mn mf := by
 unfold moveE moveF
 rw [if_neg (by omega), if_pos ⟨h1, h2⟩, if_pos ⟨h0, h1, h2⟩]
 exact ⟨rfl, rfl⟩
theorem move_bad {f : Fv} {d mv mb mn mf : Int} (h : ¬ (firstF f d = 0 ∧ Fok (moveG f d mv mb mn mf) ∧ goodF (moveG f d mv mb mn mf) = true)) : moveF f d mv mb mn mf = f := if_neg h
theorem fv_ext {f g : Fv} (h1 : f.lo = g.lo) (h2 : f.hi = g.hi) (h3 : f.ba = g.ba) (h4 : f.inf = g.inf) (h5 : f.sup = g.sup) (h6 : f.va = g.va) : f = g := by
 cases f; cases g; simp_all
def negs : List Int → Int
 | [] => 0
 | x :: l => (if x < 0 then x else 0) + negs l
def poss : List Int → Int
 | [] => 0
 | x :: l => (if 0 < x then x else 0) + poss l
def suml : List Int → Int
 | [] => 0
 | x :: l => x + suml l
theorem negs_le (l : List Int) : negs l ≤ 0 ∧ negs l ≤ suml l := by
 induction l with
 | nil => exact ⟨Int.le_refl _, Int.le_refl _⟩
 | cons x l ih => unfold negs suml; split <;> omega
theorem poss_ge (l : List Int) : 0 ≤ poss l ∧ suml l ≤ poss l := by
 induction l with
 | nil => exact ⟨Int.le_refl _, Int.le_refl _⟩
 | cons x l ih => unfold poss suml; split <;> omega
theorem negs_snoc (l : List Int) (x : Int) : negs (l ++ [x]) = negs l + (if x < 0 then x else 0) := by
 induction l with
 | nil => simp [negs]
 | cons y l ih => rw [List.cons_append, negs, ih, negs]; omega
theorem poss_snoc (l : List Int) (x : Int) : poss (l ++ [x]) = poss l + (if 0 < x then x else 0) := by
 induction l with
 | nil => simp [poss]
 | cons y l ih => rw [List.cons_append, poss, ih, poss]; omega
theorem suml_snoc (l : List Int) (x : Int) : suml (l ++ [x]) = suml l + x := by
 induction l with
 | nil => simp [suml]
 | cons y l ih => rw [List.cons_append, suml, ih, suml]; omega
structure Opn (lo hi w : Int) (R : List Int) (f : Fv) : Prop where
 elo : f.lo = lo
 ehi : f.hi = hi
 eba : f.ba = w
 einf : f.inf = w + negs R
 esup : f.sup = w + poss R
 eva : f.va = w + suml R
 low : lo ≤ w + negs R
 top : w + poss R ≤ hi
 el : ∀ x ∈ R, x ≠ 0 ∧ x ≠ -9223372036854775808
theorem Opn.good {lo hi w : Int} {R : List Int} {f : Fv} (h : Opn lo hi w R f) : goodF f = true := by
 have h1 := negs_le R
 have h2 := poss_ge R
 refine (goodF_iff f).2 ?_
 rw [h.elo, h.ehi, h.eba, h.einf, h.esup, h.eva]
 have := h.low
 have := h.top
 omega
theorem Opn.ok {lo hi w : Int} {R : List Int} {f : Fv} (h : Opn lo hi w R f) (hl : I64 lo) (hh : I64 hi) : Fok f := by
 have h1 := negs_le R
 have h2 := poss_ge R
 have h3 := h.low
 have h4 := h.top
 unfold Fok
 rw [h.elo, h.ehi, h.eba, h.einf, h.esup, h.eva]
 unfold I64 at *
 omega
theorem Opn.start {lo init hi : Int} (h1 : lo ≤ init) (h2 : init ≤ hi) : Opn lo hi init [] ⟨lo, hi, init, init, init, init⟩ :=
 ⟨rfl, rfl, rfl, by show init = init + 0; omega, by show init = init + 0; omega, by show init = init + 0; omega, by show lo ≤ init + 0; omega, by show init + 0 ≤ hi; omega, fun x hx => by cases hx⟩
theorem Opn.grant {lo hi w : Int} {R : List Int} {f : Fv} {d : Int} (h : Opn lo hi w R f) (hg : grantE f d = 0) : Opn lo hi w (R ++ [d]) (grantG f d) := by
 obtain ⟨p0, p1, p2⟩ := grant_zero hg
 obtain ⟨_, d0, dm⟩ := firstF_zero p0
 have e1 := h.einf
 have e2 := h.esup
 have e3 := h.eva
 have e4 := h.elo
 have e5 := h.ehi
 have l1 := h.low
 have l2 := h.top
 have n1 := negs_snoc R d
 have n2 := poss_snoc R d
 have n3 := suml_snoc R d
 unfold grantG
 by_cases hp : 0 < d
 · have := p1 hp
   rw [if_neg (by omega)] at n1
   rw [if_pos hp] at n2 ⊢
   exact ⟨h.elo, h.ehi, h.eba, by show f.inf = _; omega, by show f.sup + d = _; omega, by show f.va + d = _; omega, by omega, by omega, fun x hx => by
    rcases List.mem_append.1 hx with hx | hx
    · exact h.el x hx
    · rw [List.mem_singleton.1 hx]; exact ⟨d0, dm⟩⟩
 · have := p2 (by omega)
   rw [if_pos (by omega)] at n1
   rw [if_neg hp] at n2 ⊢
   exact ⟨h.elo, h.ehi, h.eba, by show f.inf + d = _; omega, by show f.sup = _; omega, by show f.va + d = _; omega, by omega, by omega, fun x hx => by
    rcases List.mem_append.1 hx with hx | hx
    · exact h.el x hx
    · rw [List.mem_singleton.1 hx]; exact ⟨d0, dm⟩⟩
theorem Opn.undo {lo hi w : Int} {R : List Int} {f : Fv} {d : Int} (h : Opn lo hi w (d :: R) f) (hl : I64 lo) (hh : I64 hi) : moveE f d (-1) 0 0 (-1) = 0 ∧ Opn lo hi w R (undoF f d) := by
 obtain ⟨d0, dm⟩ := h.el d (List.mem_cons_self ..)
 have h1 := negs_le R
 have h2 := poss_ge R
 have hi1 := h.einf
 have hs1 := h.esup
 have hv1 := h.eva
 have l1 := h.low
 have l2 := h.top
 unfold negs at hi1 l1
 unfold poss at hs1 l2
 unfold suml at hv1
 have hn : Opn lo hi w R (moveG f d (-1) 0 0 (-1)) := by
  unfold moveG
  by_cases hp : 0 < d
  · rw [if_neg (by omega)] at hi1 l1
    rw [if_pos hp] at hs1 l2 ⊢
    exact ⟨h.elo, h.ehi, by show f.ba + 0 * d = w; have := h.eba; omega, by show f.inf + 0 * d = _; omega, by show f.sup + -1 * d = _; omega, by show f.va + -1 * d = _; omega, by omega, by omega, fun x hx => h.el x (List.mem_cons_of_mem _ hx)⟩
  · rw [if_pos (by omega)] at hi1 l1
    rw [if_neg hp] at hs1 l2 ⊢
    exact ⟨h.elo, h.ehi, by show f.ba + 0 * d = w; have := h.eba; omega, by show f.inf + -1 * d = _; omega, by show f.sup + 0 * d = _; omega, by show f.va + -1 * d = _; omega, by omega, by omega, fun x hx => h.el x (List.mem_cons_of_mem _ hx)⟩
 have m := move_ok (firstF_ok h.good d0 dm) (hn.ok hl hh) hn.good
 exact ⟨m.1, by rw [show undoF f d = moveF f d (-1) 0 0 (-1) from rfl, m.2]; exact hn⟩
theorem Opn.settle {lo hi w : Int} {R : List Int} {f : Fv} {d : Int} (h : Opn lo hi w (d :: R) f) (hl : I64 lo) (hh : I64 hi) : moveE f d 0 1 1 0 = 0 ∧ Opn lo hi (w + d) R (settleF f d) := by
 obtain ⟨d0, dm⟩ := h.el d (List.mem_cons_self ..)
 have h1 := negs_le R
 have h2 := poss_ge R
 have hi1 := h.einf
 have hs1 := h.esup
 have hv1 := h.eva
 have l1 := h.low
 have l2 := h.top
 unfold negs at hi1 l1
 unfold poss at hs1 l2
 unfold suml at hv1
 have hn : Opn lo hi (w + d) R (moveG f d 0 1 1 0) := by
  unfold moveG
  by_cases hp : 0 < d
  · rw [if_neg (by omega)] at hi1 l1
    rw [if_pos hp] at hs1 l2 ⊢
    exact ⟨h.elo, h.ehi, by show f.ba + 1 * d = w + d; have := h.eba; omega, by show f.inf + 1 * d = _; omega, by show f.sup + 0 * d = _; omega, by show f.va + 0 * d = _; omega, by omega, by omega, fun x hx => h.el x (List.mem_cons_of_mem _ hx)⟩
  · rw [if_pos (by omega)] at hi1 l1
    rw [if_neg hp] at hs1 l2 ⊢
    exact ⟨h.elo, h.ehi, by show f.ba + 1 * d = w + d; have := h.eba; omega, by show f.inf + 0 * d = _; omega, by show f.sup + 1 * d = _; omega, by show f.va + 0 * d = _; omega, by omega, by omega, fun x hx => h.el x (List.mem_cons_of_mem _ hx)⟩
 have m := move_ok (firstF_ok h.good d0 dm) (hn.ok hl hh) hn.good
 exact ⟨m.1, by rw [show settleF f d = moveF f d 0 1 1 0 from rfl, m.2]; exact hn⟩
theorem Opn.over {lo hi w : Int} {f : Fv} (h : Opn lo hi w [] f) : f = ⟨lo, hi, w, w, w, w⟩ :=
 fv_ext h.elo h.ehi h.eba (by have := h.einf; unfold negs at this; show f.inf = w; omega) (by have := h.esup; unfold poss at this; show f.sup = w; omega) (by have := h.eva; unfold suml at this; show f.va = w; omega)
end Go.Proofs.Ytmdldbchdnkfcaa
