/- A disk as the document says it: what is sure, what is pending, what that comes to; bounds. -/
import Derived.Test.YtdkpjaobfohdfaaVolMath
import Derived.Test.YtdkpjaobfohdfaaTapeMath
namespace Go.Proofs.Ytdkpjaobfohdfaa
set_option linter.unusedVariables false
set_option maxRecDepth 10000
set_option linter.unusedSimpArgs false

/-- A write that is pending. -/
inductive Dw where
  | put (i : Int) (b : List Int)
  | grow (b : List Int)
  | drop (x : Int)
  | cut (x : Int)
/-- How many bytes the tape may grow by. -/
def Dw.wt : Dw → Nat
  | .grow b => b.length
  | _ => 0
/-- How many bytes it has. -/
def Dw.sz : Dw → Nat
  | .put _ b => b.length
  | .grow b => b.length
  | _ => 0
/-- The volume, the tape, behind all of it. -/
def dwV (s : Nat) (V : List (List Int)) : Dw → List (List Int)
  | .put i b => tearV s V i b s
  | _ => V
def dwT (z : Nat) (t : TS) : Dw → TS
  | .grow b => appT t b
  | .drop x => dropT z t x
  | .cut x => cutT z t x
  | .put _ _ => t
/-- Behind its first n bytes alone. -/
def dwVn (s : Nat) (n : Int) (V : List (List Int)) : Dw → List (List Int)
  | .put i b => tearV s V i b (kp n s)
  | _ => V
def dwTn (n : Int) (t : TS) : Dw → TS
  | .grow b => appT t (b.take (kp n b.length))
  | _ => t
def foldV (s : Nat) (V : List (List Int)) (L : List Dw) : List (List Int) := L.foldl (dwV s) V
def foldT (z : Nat) (t : TS) (L : List Dw) : TS := L.foldl (dwT z) t
theorem foldV_snoc (s : Nat) (V : List (List Int)) (L : List Dw) (x : Dw) : foldV s V (L ++ [x]) = dwV s (foldV s V L) x := by simp [foldV]
theorem foldT_snoc (z : Nat) (t : TS) (L : List Dw) (x : Dw) : foldT z t (L ++ [x]) = dwT z (foldT z t L) x := by simp [foldT]
theorem dwV_len (s : Nat) (V : List (List Int)) (x : Dw) : (dwV s V x).length = V.length := by
  cases x <;> simp [dwV, tearV_len]
theorem foldV_len (s : Nat) : ∀ (L : List Dw) (V : List (List Int)), (foldV s V L).length = V.length
  | [], V => rfl
  | x :: L, V => by
    show (foldV s (dwV s V x) L).length = _
    rw [foldV_len s L, dwV_len]
theorem dwVn_len (s : Nat) (n : Int) (V : List (List Int)) (x : Dw) : (dwVn s n V x).length = V.length := by
  cases x <;> simp [dwVn, tearV_len]
theorem dwV_all {s : Nat} {V : List (List Int)} (h : ∀ y ∈ V, y.length = s) (x : Dw) : ∀ y ∈ dwV s V x, y.length = s := by
  cases x <;> first | exact tearV_all h (Nat.le_refl _) | exact h
theorem foldV_all {s : Nat} : ∀ (L : List Dw) {V : List (List Int)}, (∀ y ∈ V, y.length = s) → ∀ y ∈ foldV s V L, y.length = s
  | [], V, h => h
  | x :: L, V, h => foldV_all L (dwV_all h x)
/-- Where a tape ends. -/
def TS.len (z : Nat) (t : TS) : Nat := t.f * z + t.B.length
def wts (L : List Dw) : Nat := (L.map Dw.wt).sum
theorem wts_snoc (L : List Dw) (x : Dw) : wts (L ++ [x]) = wts L + x.wt := by simp [wts]
theorem wts_cons (L : List Dw) (x : Dw) : wts (x :: L) = x.wt + wts L := by simp [wts]
theorem dwT_len {z : Nat} (hz : 0 < z) (t : TS) (x : Dw) : (dwT z t x).len z ≤ t.len z + x.wt := by
  unfold TS.len
  cases x with
  | put i b => simp [dwT, Dw.wt]
  | grow b => simp only [dwT, Dw.wt, appT, List.length_append]; omega
  | drop k => have := drop_len hz t k; simp only [dwT, Dw.wt]; omega
  | cut k =>
    have h1 := cut_len z t k
    have h2 := (left_spec z t k).2
    have h3 : (cutT z t k).f = t.f := rfl
    simp only [dwT, Dw.wt]
    rw [h3]
    omega
theorem dwTn_len (z : Nat) (n : Int) (t : TS) (x : Dw) : (dwTn n t x).len z ≤ t.len z + x.wt := by
  unfold TS.len
  cases x with
  | grow b => simp only [dwTn, Dw.wt, appT, List.length_append, List.length_take]; omega
  | _ => simp [dwTn, Dw.wt]
theorem foldT_len {z : Nat} (hz : 0 < z) : ∀ (L : List Dw) (t : TS), (foldT z t L).len z ≤ t.len z + wts L
  | [], t => by simp [foldT, wts]
  | x :: L, t => by
    have h1 := foldT_len hz L (dwT z t x)
    have h2 := dwT_len hz t x
    rw [wts_cons]
    show (foldT z (dwT z t x) L).len z ≤ _
    omega
theorem wts_take_drop (L : List Dw) (k : Nat) : wts (L.take k) + wts (L.drop k) = wts L := by
  unfold wts
  rw [← List.sum_append, ← List.map_append, List.take_append_drop]
/-- A disk, as the document has it. -/
structure DS where
  M : Nat
  a : Int
  z : Nat
  s : Nat
  V : List (List Int)
  t : TS
  L : List Dw
/-- What is seen. -/
def DS.sV (d : DS) : List (List Int) := foldV d.s d.V d.L
def DS.sT (d : DS) : TS := foldT d.z d.t d.L
def DS.add (d : DS) (x : Dw) : DS := { d with L := d.L ++ [x] }
def DS.tot (d : DS) : Nat := d.t.len d.z + wts d.L
theorem add_sV (d : DS) (x : Dw) : (d.add x).sV = dwV d.s d.sV x := foldV_snoc ..
theorem add_sT (d : DS) (x : Dw) : (d.add x).sT = dwT d.z d.sT x := foldT_snoc ..
theorem add_tot (d : DS) (x : Dw) : (d.add x).tot = d.tot + x.wt := by
  show d.t.len d.z + wts (d.L ++ [x]) = d.t.len d.z + wts d.L + x.wt
  rw [wts_snoc]
  omega
theorem DS.sT_len (d : DS) (hz : 0 < d.z) : d.sT.len d.z ≤ d.tot := foldT_len hz d.L d.t
/-- Sync. -/
def DS.sync (d : DS) : DS := { d with V := d.sV, t := d.sT, L := [] }
theorem sync_tot (d : DS) (hz : 0 < d.z) : d.sync.tot ≤ d.tot := by
  have := d.sT_len hz
  show d.sT.len d.z + wts [] ≤ d.tot
  simp only [wts, List.map_nil, List.sum_nil]
  omega
/-- The first k writes are done, of the next one the first n bytes. -/
def crV (s : Nat) (n : Int) (V : List (List Int)) (L : List Dw) (k : Nat) : List (List Int) :=
  match L.drop k with
  | [] => foldV s V (L.take k)
  | x :: _ => dwVn s n (foldV s V (L.take k)) x
def crT (z : Nat) (n : Int) (t : TS) (L : List Dw) (k : Nat) : TS :=
  match L.drop k with
  | [] => foldT z t (L.take k)
  | x :: _ => dwTn n (foldT z t (L.take k)) x
def DS.crash (d : DS) (keep tear : Int) : DS := { d with V := crV d.s tear d.V d.L (kp keep d.L.length), t := crT d.z tear d.t d.L (kp keep d.L.length), L := [] }
theorem crash_tot (d : DS) (keep tear : Int) (hz : 0 < d.z) : (d.crash keep tear).tot ≤ d.tot := by
  show (crT d.z tear d.t d.L (kp keep d.L.length)).len d.z + wts [] ≤ d.tot
  unfold crT DS.tot
  have h1 := wts_take_drop d.L (kp keep d.L.length)
  have h2 := foldT_len hz (d.L.take (kp keep d.L.length)) d.t
  have h0 : wts [] = 0 := rfl
  split
  · omega
  · rename_i x r hx
    rw [hx, wts_cons] at h1
    have h3 := dwTn_len d.z tear (foldT d.z d.t (d.L.take (kp keep d.L.length))) x
    omega
theorem crV_len (s : Nat) (n : Int) (V : List (List Int)) (L : List Dw) (k : Nat) : (crV s n V L k).length = V.length := by
  unfold crV
  split
  · exact foldV_len ..
  · rw [dwVn_len, foldV_len]
/-- Errors. -/
def DS.putE (d : DS) (i : Int) (b : List Int) : Int := tearE d.s d.V i b
def DS.addE (d : DS) (b : List Int) : Int := if 65536 < b.length then 7 else if (d.M : Int) < (d.sT.B.length : Int) + b.length then 4 else 0
theorem tearE_len (s : Nat) {V V' : List (List Int)} (h : V.length = V'.length) (i : Int) (b : List Int) : tearE s V i b = tearE s V' i b := by unfold tearE; rw [h]
theorem putE_seen (d : DS) (i : Int) (b : List Int) : tearE d.s d.sV i b = d.putE i b := tearE_len _ (foldV_len ..) i b
def DS.put (d : DS) (i : Int) (b : List Int) : DS := if d.putE i b = 0 then d.add (.put i b) else d
def DS.app (d : DS) (b : List Int) : DS := if d.addE b = 0 then d.add (.grow b) else d
theorem tearV_err {s : Nat} {V : List (List Int)} {i : Int} {b : List Int} {t : Nat} (h : tearE s V i b ≠ 0) : tearV s V i b t = V := by
  unfold tearE at h
  unfold tearV
  split at h
  · rename_i h1
    rw [if_neg (fun h2 => h1 h2.1)]
  · split at h
    · rename_i h2
      rw [if_neg (fun h3 => by omega)]
    · exact absurd rfl h
/-- An act: by k modulo 6. -/
def actD (d : DS) (k : Nat) (n tear x : Int) (b : List Int) : DS :=
  if k % 6 = 0 then d.put n b else if k % 6 = 1 then d.app b else if k % 6 = 2 then d.add (.drop x) else if k % 6 = 3 then d.add (.cut x) else if k % 6 = 4 then d.sync else d.crash n tear
def actE (d : DS) (k : Nat) (n : Int) (b : List Int) : Int := if k % 6 = 0 then d.putE n b else if k % 6 = 1 then d.addE b else 0
theorem act_tot (d : DS) (k : Nat) (n tear x : Int) (b : List Int) (hz : 0 < d.z) : (actD d k n tear x b).tot ≤ d.tot + b.length := by
  unfold actD
  split
  · unfold DS.put
    split
    · rw [add_tot]; simp [Dw.wt]
    · omega
  · split
    · unfold DS.app
      split
      · rw [add_tot]; exact Nat.le_refl _
      · omega
    · split
      · rw [add_tot]; simp [Dw.wt]
      · split
        · rw [add_tot]; simp [Dw.wt]
        · split
          · have := sync_tot d hz; omega
          · have := crash_tot d n tear hz; omega
/-- What never changes. -/
def DS.like (d e : DS) : Prop := e.M = d.M ∧ e.a = d.a ∧ e.z = d.z ∧ e.s = d.s ∧ e.V.length = d.V.length
theorem DS.like_refl (d : DS) : d.like d := ⟨rfl, rfl, rfl, rfl, rfl⟩
theorem act_like (d : DS) (k : Nat) (n tear x : Int) (b : List Int) : d.like (actD d k n tear x b) := by
  unfold actD
  split
  · unfold DS.put
    split <;> exact ⟨rfl, rfl, rfl, rfl, rfl⟩
  · split
    · unfold DS.app
      split <;> exact ⟨rfl, rfl, rfl, rfl, rfl⟩
    · split
      · exact ⟨rfl, rfl, rfl, rfl, rfl⟩
      · split
        · exact ⟨rfl, rfl, rfl, rfl, rfl⟩
        · split
          · exact ⟨rfl, rfl, rfl, rfl, foldV_len ..⟩
          · exact ⟨rfl, rfl, rfl, rfl, crV_len ..⟩
theorem act_L (d : DS) (k : Nat) (n tear x : Int) (b : List Int) : (actD d k n tear x b).L.length ≤ d.L.length + 1 := by
  unfold actD
  split
  · unfold DS.put
    split <;> simp [DS.add]
  · split
    · unfold DS.app
      split <;> simp [DS.add]
    · split
      · simp [DS.add]
      · split
        · simp [DS.add]
        · split <;> simp [DS.sync, DS.crash]
end Go.Proofs.Ytdkpjaobfohdfaa
