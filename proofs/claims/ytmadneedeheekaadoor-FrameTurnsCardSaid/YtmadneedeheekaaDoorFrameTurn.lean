/- Payloads of which one is turned. -/
import Derived.Test.YtmadneedeheekaaDoorFrameOpen
import Derived.Test.YtmadneedeheekaaDoorCrcOwn
namespace Go.Proofs.YtmadneedeheekaaDoor
open Go.RowKit Go.ChangeShapes Go.WideShapes
set_option linter.unusedVariables false
set_option maxRecDepth 10000

/-- Q is P, of which t bits from bit q on are turned: those of B. -/
structure Bu (P Q : List Nat) (q i t B : Nat) : Prop where
  len : Q.length = P.length
  hP : ∀ x ∈ P, x < 256
  hQ : ∀ x ∈ Q, x < 256
  num : numF (fun j => Q.getD j 0) P.length = numF (fun j => P.getD j 0) P.length ^^^ B * 2 ^ q
  lt : B < 2 ^ i
  none : t = 0 ↔ B = 0
  same : t = 0 → Q = P
theorem Bu.start (P : List Nat) (hP : ∀ x ∈ P, x < 256) (q : Nat) : Bu P P q 0 0 0 := ⟨rfl, hP, hP, by simp, by simp, by simp, fun _ => rfl⟩
theorem Bu.skip {P Q : List Nat} {q i t B : Nat} (h : Bu P Q q i t B) : Bu P Q q (i + 1) t B := ⟨h.len, h.hP, h.hQ, h.num, Nat.lt_of_lt_of_le h.lt (Nat.pow_le_pow_right (by omega) (by omega)), h.none, h.same⟩
theorem set_fun (Q : List Nat) (d y : Nat) (hd : d < Q.length) : (fun j => (Q.set d y).getD j 0) = fun j => if j = d then y else Q.getD j 0 := by
  funext j
  rw [List.getD, List.getD, List.getElem?_set]
  by_cases e : d = j
  · subst e
    rw [if_pos rfl, if_pos hd, if_pos rfl]
    rfl
  · rw [if_neg e, if_neg fun e' => e e'.symm]
theorem Bu.turn {P Q : List Nat} {q i t B d s : Nat} (h : Bu P Q q i t B) (hd : d < P.length) (hs : s < 8) (hk : 8 * d + s = q + i) : Bu P (Q.set d (Q.getD d 0 ^^^ 2 ^ s)) q (i + 1) (t + 1) (B ^^^ 2 ^ i) := by
  have hb := burst_more (fun j => P.getD j 0) (fun j => Q.getD j 0) P.length q i B d s t ⟨fun j _ => getD_lt h.hQ j, h.num, h.lt, h.none⟩ hd hs hk
  have e : (fun j => (Q.set d (Q.getD d 0 ^^^ 2 ^ s)).getD j 0) = turned (fun j => Q.getD j 0) d s := set_fun Q d _ (by rw [h.len]; exact hd)
  refine ⟨by rw [List.length_set, h.len], h.hP, fun x hx => ?_, by rw [e]; exact hb.2.1, hb.2.2.1, hb.2.2.2, fun e => by omega⟩
  rcases List.mem_or_eq_of_mem_set hx with hx | rfl
  · exact h.hQ x hx
  · exact Nat.xor_lt_two_pow (n := 8) (getD_lt h.hQ d) (Nat.pow_lt_pow_right (by omega) hs)
theorem Bu.sum {P Q : List Nat} {q t B : Nat} (h : Bu P Q q 32 t B) (hq : q ≤ 8 * P.length) (ht : t ≠ 0) : sumL Q ≠ sumL P := by
  have := sumF_burst (fun j => P.getD j 0) (fun j => Q.getD j 0) P.length q B t (fun j _ => getD_lt h.hP j) hq ⟨fun j _ => getD_lt h.hQ j, h.num, h.lt, h.none⟩
  intro e
  unfold sumL at e
  rw [h.len] at e
  exact ht (this.1 e)
/-- What lies ahead of a payload. -/
def ahead (G : List (List Nat)) (k : Nat) : List Nat := flat (G.take k) ++ (le (G.getD k []).length 2 ++ le (sumL (G.getD k [])) 4)
theorem ahead_len (G : List (List Nat)) (k : Nat) : (ahead G k).length = endAt G k + 6 := by
  unfold ahead endAt
  rw [List.length_append, List.length_append, le_len, le_len]
theorem flat_parts (G : List (List Nat)) (k : Nat) (hk : k < G.length) : flat G = ahead G k ++ (G.getD k [] ++ flat (G.drop (k + 1))) := by
  have e : G = G.take k ++ (G.getD k [] :: G.drop (k + 1)) := by
    rw [List.getD, List.getElem?_eq_getElem hk]
    show G = G.take k ++ (G[k] :: G.drop (k + 1))
    rw [← List.drop_eq_getElem_cons hk, List.take_append_drop]
  conv => lhs; rw [e]
  rw [flat_append, flat_cons]
  unfold ahead frm
  simp only [List.append_assoc]
theorem ahead_fr (G : List (List Nat)) (k : Nat) (Q X : List Nat) : ahead G k ++ (Q ++ X) = flat (G.take k) ++ fr (G.getD k []).length (sumL (G.getD k [])) Q X := by
  unfold ahead fr
  simp only [List.append_assoc]
theorem set_mid (A Q X : List Nat) (d y F : Nat) (hF : A.length = F) (hd : d < Q.length) : (A ++ (Q ++ X)).set (F + d) y = A ++ (Q.set d y ++ X) := by
  subst hF
  rw [List.set_append_right _ _ (by omega), Nat.add_sub_cancel_left, List.set_append_left _ _ hd]
theorem get_mid (A Q X : List Nat) (d F : Nat) (hF : A.length = F) (hd : d < Q.length) : (A ++ (Q ++ X)).getD (F + d) 0 = Q.getD d 0 := by
  subst hF
  rw [List.getD, List.getD, List.getElem?_append_right (by omega), Nat.add_sub_cancel_left, List.getElem?_append_left hd]
theorem vL_set (L : List Nat) (d y : Nat) : (vL L).set d (.int .u8 ((y : Nat) : Int)) = vL (L.set d y) := by
  unfold vL
  rw [List.map_set]
/-- What is scanned of them. -/
theorem scan_turned (G : List (List Nat)) (hg : ∀ P ∈ G, good P = true) (k : Nat) (hk : k < G.length) (Q : List Nat) (q t B : Nat) (h : Bu (G.getD k []) Q q 32 t B) (hq : q ≤ 8 * (G.getD k []).length) (ht : t ≠ 0) :
    scan (ahead G k ++ (Q ++ flat (G.drop (k + 1)))) = (G.take k, endAt G k, 9) := by
  have hgk : good (G.getD k []) = true := by
    rw [List.getD, List.getElem?_eq_getElem hk]
    exact hg _ (List.getElem_mem hk)
  have hb := (good_iff _).1 hgk
  rw [ahead_fr, ← h.len]
  exact scan_spoilt (G.take k) (fun P hP => hg P (List.mem_of_mem_take hP)) _ Q _ (by rw [h.len]; omega) (by rw [h.len]; omega) (sumL_lt _) (h.sum hq ht)
end Go.Proofs.YtmadneedeheekaaDoor
