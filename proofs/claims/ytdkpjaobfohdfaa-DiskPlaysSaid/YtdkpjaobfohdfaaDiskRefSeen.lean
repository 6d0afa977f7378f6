/- What the document's disk shows: all that is pending done. -/
import Derived.Test.YtdkpjaobfohdfaaDiskRefAny
import Derived.Deep.RegionHeld3
import Derived.StillTailTactics
namespace Go.Proofs.Ytdkpjaobfohdfaa
open Go.RowKit Go.ChangeShapes Go.WideShapes
set_option linter.unusedVariables false
set_option maxRecDepth 10000
set_option linter.unusedSimpArgs false

theorem dwVx_all {s : Nat} (V : List (List Int)) (y : Dw) : dwVx s (-1) V y = dwV s V y := if_pos (by omega)
theorem dwTx_all {z : Nat} (t : TS) (y : Dw) : dwTx z (-1) t y = dwT z t y := if_pos (by omega)
/-- While what is pending is done: j writes are. A : the first of five blocks: the disk, both results, the volume, the tape. -/
structure Se (w wr : World) (Q : Nat → Prop) (A s z n ln lc : Nat) (dc : Array Value) (lp : Option Addr) (AL : List Wd) (V : List (List Int)) (t : TS) (tot j : Nat) (pj tpj : Option Addr) (cj tcj nj Fj : Nat) : Prop where
  bD : wr.heap[A]? = some (.cells dc 36 (0, 0))
  b1 : wr.heap[A + 1]? = some (.cells #[.slice none 0 0, .int .i64 0] 30 (0, 0))
  b2 : wr.heap[A + 1 + 1]? = some (.cells #[.slice none 0 0, .int .i64 0, .int .i64 0] 33 (0, 0))
  b3 : wr.heap[A + 1 + 1 + 1]? = some (.cells #[.slice pj n cj, .int .i64 (s : Nat)] 30 (0, 0))
  b4 : wr.heap[A + 1 + 1 + 1 + 1]? = some (.cells #[.slice tpj nj tcj, .int .i64 (Fj : Nat), .int .i64 (z : Nat)] 33 (0, 0))
  rv : RV wr (fun k => Q k ∧ ¬ (A ≤ k ∧ k < A + 5)) pj cj s (foldV s V ((AL.map Wd.x).take j))
  rt : Rt wr tpj tcj (foldT z t ((AL.map Wd.x).take j)).B
  tq : 0 < (foldT z t ((AL.map Wd.x).take j)).B.length → ∀ a, tpj = some a → Q a.block ∧ ¬ (A ≤ a.block ∧ a.block < A + 5)
  hn : (foldT z t ((AL.map Wd.x).take j)).B.length = nj
  hF : (foldT z t ((AL.map Wd.x).take j)).f * z = Fj
  row : SlG ewd 4 wd0' wr lp ln lc AL
  lq : 0 < ln → ∀ a, lp = some a → ¬ (A ≤ a.block ∧ a.block < A + 5)
  ok : ∀ y ∈ AL, y.ok wr (fun k => Q k ∧ ¬ (A ≤ k ∧ k < A + 5))
  below : Below w.heap.size w wr
  size : A + 5 ≤ wr.heap.size
  hA : w.heap.size = A
  hV : V.length = n
  tot : (foldT z t ((AL.map Wd.x).take j)).len z + wts ((AL.map Wd.x).drop j) ≤ tot
theorem take_next (L : List Dw) (j : Nat) (h : j < L.length) : L.take (j + 1) = L.take j ++ [L[j]] ∧ L.drop j = L[j] :: L.drop (j + 1) := ⟨by rw [List.take_add_one, List.getElem?_eq_getElem h]; rfl, by rw [List.drop_eq_getElem_cons h]⟩
/-- The write that is next. -/
theorem Se.next {w wr : World} {Q : Nat → Prop} {A s z n ln lc : Nat} {dc : Array Value} {lp : Option Addr} {AL : List Wd} {V : List (List Int)} {t : TS} {tot j : Nat} {pj tpj : Option Addr} {cj tcj nj Fj : Nat} (h : Se w wr Q A s z n ln lc dc lp AL V t tot j pj tpj cj tcj nj Fj)
    (hj : j < ln) (hQ : ∀ k, w.heap.size ≤ k → Q k) (hn4 : n ≤ 1024) (hs4 : s ≤ 4096) (hz : 64 ≤ z ∧ z ≤ 4096) (hbig : tot ≤ 1000000) (x : Int) :
    ∃ y b off, AL.getD j wd0' = y ∧ lp = some ⟨b, off, none⟩ ∧ wr.cell? ⟨b, off + j * 4 + 0, none⟩ = some (.int .i64 (y.k : Nat)) ∧ wr.cell? ⟨b, off + j * 4 + 1, none⟩ = some (.int .i64 y.i) ∧ wr.cell? ⟨b, off + j * 4 + 2, none⟩ = some (.slice y.q y.m y.cq) ∧ wr.cell? ⟨b, off + j * 4 + 3, none⟩ = some (.int .i64 y.n) ∧
      (∀ w', Below wr.heap.size wr w' → Calls Try.prog 46 #[.agg #[.slice pj n cj, .int .i64 (s : Nat)], .agg #[.slice tpj nj tcj, .int .i64 (Fj : Nat), .int .i64 (z : Nat)], .agg #[.int .i64 (y.k : Nat), .int .i64 y.i, .slice y.q y.m y.cq, .int .i64 y.n], .int .i64 x] w' (RdDo w' (fun k => Q k ∧ ¬ (A ≤ k ∧ k < A + 5)) s z n (dwVx s x (foldV s V ((AL.map Wd.x).take j)) y.x) (dwTx z x (foldT z t ((AL.map Wd.x).take j)) y.x))) ∧
      (foldV s V ((AL.map Wd.x).take (j + 1)) = dwV s (foldV s V ((AL.map Wd.x).take j)) y.x) ∧ (foldT z t ((AL.map Wd.x).take (j + 1)) = dwT z (foldT z t ((AL.map Wd.x).take j)) y.x) ∧
      (foldT z t ((AL.map Wd.x).take (j + 1))).len z + wts ((AL.map Wd.x).drop (j + 1)) ≤ tot ∧ (AL.map Wd.x).drop j = y.x :: (AL.map Wd.x).drop (j + 1) := by
  have hl := h.row.len
  have hjl : j < AL.length := by omega
  have hjm : j < (AL.map Wd.x).length := by rw [List.length_map]; omega
  obtain ⟨b, off, rfl, hlt, hc⟩ := h.row.cell (by omega)
  obtain ⟨e1, e2⟩ := take_next (AL.map Wd.x) j hjm
  have hy : AL.getD j wd0' = AL[j] := by rw [List.getD, List.getElem?_eq_getElem hjl]; rfl
  have hx : (AL.map Wd.x)[j] = (AL[j]).x := List.getElem_map ..
  have hok := h.ok _ (List.getElem_mem hjl)
  have ht := h.tot
  have hzp : 0 < z := by omega
  have hs := h.size
  rw [hx] at e1 e2
  have hw : wts ((AL.map Wd.x).drop j) = (AL[j]).x.wt + wts ((AL.map Wd.x).drop (j + 1)) := by rw [e2, wts_cons]
  refine ⟨AL[j], b, off, hy, rfl, hc j hj 0 _ (by rw [hy]; rfl), hc j hj 1 _ (by rw [hy]; rfl), hc j hj 2 _ (by rw [hy]; rfl), hc j hj 3 _ (by rw [hy]; rfl), fun w' hb => ?_, by rw [e1, foldV_snoc], by rw [e1, foldT_snoc], ?_, e2⟩
  · rw [← h.hn, ← h.hF]
    have hsz := hb.size
    exact rdo_any pj tpj cj tcj n s z _ _ AL[j] x w' _ (fun k hk => ⟨hQ k (by have := h.hA; omega), by omega⟩) (h.rv.later hb) (by rw [foldV_len, h.hV]) hn4 hs4 hz (h.rt.later hb) h.tq (hok.later hb) (by omega)
  · have h1 := dwT_len hzp (foldT z t ((AL.map Wd.x).take j)) (AL[j]).x
    rw [e1, foldT_snoc]
    omega
/-- One more is done. -/
theorem Se.step {w wr w5 W' : World} {Q : Nat → Prop} {A s z n ln lc : Nat} {dc : Array Value} {lp : Option Addr} {AL : List Wd} {V : List (List Int)} {t : TS} {tot j : Nat} {pj tpj : Option Addr} {cj tcj nj Fj : Nat} (h : Se w wr Q A s z n ln lc dc lp AL V t tot j pj tpj cj tcj nj Fj)
    {p5 tp5 : Option Addr} {c5 tc5 n5 F5 : Nat} {y : Wd} (eV : foldV s V ((AL.map Wd.x).take (j + 1)) = dwV s (foldV s V ((AL.map Wd.x).take j)) y.x) (eT : foldT z t ((AL.map Wd.x).take (j + 1)) = dwT z (foldT z t ((AL.map Wd.x).take j)) y.x) (eW : (foldT z t ((AL.map Wd.x).take (j + 1))).len z + wts ((AL.map Wd.x).drop (j + 1)) ≤ tot)
    (hb : Below wr.heap.size wr w5) (hrv : RV w5 (fun k => Q k ∧ ¬ (A ≤ k ∧ k < A + 5)) p5 c5 s (dwV s (foldV s V ((AL.map Wd.x).take j)) y.x)) (hrt : Rt w5 tp5 tc5 (dwT z (foldT z t ((AL.map Wd.x).take j)) y.x).B) (htq : 0 < (dwT z (foldT z t ((AL.map Wd.x).take j)) y.x).B.length → ∀ a, tp5 = some a → Q a.block ∧ ¬ (A ≤ a.block ∧ a.block < A + 5))
    (hn5 : (dwT z (foldT z t ((AL.map Wd.x).take j)) y.x).B.length = n5) (hF5 : (dwT z (foldT z t ((AL.map Wd.x).take j)) y.x).f * z = F5)
    (h3 : W'.heap[A + 1 + 1 + 1]? = some (.cells #[.slice p5 n c5, .int .i64 (s : Nat)] 30 (0, 0))) (h4 : W'.heap[A + 1 + 1 + 1 + 1]? = some (.cells #[.slice tp5 n5 tc5, .int .i64 (F5 : Nat), .int .i64 (z : Nat)] 33 (0, 0))) (hc : Chg (fun k => k = A + 1 + 1 + 1 ∨ k = A + 1 + 1 + 1 + 1) w5 W') :
    Se w W' Q A s z n ln lc dc lp AL V t tot (j + 1) p5 tp5 c5 tc5 n5 F5 := by
  have hs := h.size
  have hA := h.hA
  have hb5 := hb.size
  have hall : Chg (fun k => k = A + 1 + 1 + 1 ∨ k = A + 1 + 1 + 1 + 1) wr W' := (Chg.of_below (S := fun k => k = A + 1 + 1 + 1 ∨ k = A + 1 + 1 + 1 + 1) hb).trans hc fun _ _ h => h
  refine ⟨(hall.block _ (by omega) (by omega)).trans h.bD, (hall.block _ (by omega) (by omega)).trans h.b1, (hall.block _ (by omega) (by omega)).trans h.b2, h3, h4, ?_, ?_, ?_, ?_, ?_, ?_, h.lq, ?_, ?_, ?_, hA, h.hV, eW⟩
  · rw [eV]
    exact hrv.keep hc fun k hk hs => by omega
  · rw [eT]
    exact hrt.keep hc fun h0 a ha hs => by have := (htq h0 a ha).2; omega
  · rw [eT]
    exact htq
  · rw [eT]; exact hn5
  · rw [eT]; exact hF5
  · exact h.row.turn hall.size fun h0 a ha hlt => hall.block _ hlt (by have := h.lq h0 a ha; omega)
  · exact fun y hy => (h.ok y hy).keep hall fun k hk hs => by omega
  · exact hall.below h.below h.below.size fun k hk => by omega
  · have := hall.size; omega
end Go.Proofs.Ytdkpjaobfohdfaa
