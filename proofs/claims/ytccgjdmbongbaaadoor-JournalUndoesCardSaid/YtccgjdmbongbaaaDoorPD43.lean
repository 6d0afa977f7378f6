import Derived.Test.YtccgjdmbongbaaaDoorPD38
import Derived.Test.YtccgjdmbongbaaaDoorPD22
namespace Go.Proofs.YtccgjdmbongbaaaDoor
open Go.RowKit Go.ChangeShapes Go.WideShapes
set_option linter.unusedVariables false
set_option linter.unusedSimpArgs false
set_option maxRecDepth 10000
theorem words_own {w : World} (hw : Words w) {t : Tv} (h : OwnO w t) {g : Nat} (hg : t.blk = some g) : g ≠ 0 := by
 intro e
 rcases h.2 with hn | ⟨g', cap, cur, he, h1, h2, h3, h4, h5, h6⟩
 · unfold Tv.blk at hg
   rw [hn.1] at hg
   cases hg
 · unfold Tv.blk at hg
   rw [he] at hg
   cases hg
   unfold Words World.var? at hw
   rw [gWords] at hw
   simp only [Option.bind_some] at hw
   have h2' : w.heap[0]? = some (.cells cur 39 (0, 0)) := e ▸ h2
   rw [h2'] at hw
   have hs : cur.size = 9 := by
    have := congrArg (Option.map Array.size) hw
    simpa [wordsL] using this
   omega
theorem Words.turn {w w' : World} {S : Nat → Prop} (h : Words w) (hc : Turn S w w') (hn : ¬ S 0) : Words w' := by
 unfold Words World.var? at h ⊢
 rw [gWords] at h ⊢
 simp only [Option.bind_some] at h ⊢
 have hlt : 0 < w.heap.size := by
  rcases Nat.lt_or_ge 0 w.heap.size with h' | h'
  · exact h'
  · rw [Array.getElem?_eq_none h'] at h; cases h
 rw [hc.block _ hlt hn]
 exact h
theorem slg_any {α : Type} {enc : α → List Value} {k : Nat} {d : α} {w : World} {p : Option Addr} {n c : Nat} (h : SlG enc k d w p n c []) (w' : World) : SlG enc k d w' p n c [] := ⟨h.len, h.cap, h.max, h.nil, fun h0 => by have := h.len; simp at this; omega⟩
theorem rvm_any {w : World} {r : Rv} (h : RvM w r [] [] []) (w' : World) : RvM w' r [] [] [] := ⟨slg_any h.l w', slg_any h.t w', slg_any h.o w'⟩
theorem good_no {r : Rv} {La : List Ln} {Ta : List Tk} {Ma : List Ln} (h : goodX (r.x La Ta Ma) = true) (hk : r.k ≠ 1) : La = [] ∧ Ta = [] ∧ Ma = [] := by
 have h1 := goodX_prog h
 have h2 : kP r.k = false := by unfold kP; simpa using hk
 rw [show (r.x La Ta Ma).k = r.k from rfl, h2] at h1
 have h3 : r.pg La Ta Ma = noP := of_decide_eq_true h1
 have h4 := congrArg Pg.lines h3
 have h5 := congrArg Pg.takes h3
 have h6 := congrArg Pg.owes h3
 exact ⟨h4, h5, h6⟩
theorem own_shrink {w : World} {T : TypeId} {k base n c m : Nat} {p : Option Addr} {xs : List Value} (h : w.ownsRow base T k (.slice p n c) n xs) (hm : m ≤ n) : w.ownsRow base T k (.slice p m c) m (xs.take (m * k)) := by
 have hmk : m * k ≤ n * k := Nat.mul_le_mul_right k hm
 refine ⟨by rw [List.length_take, h.1]; omega, ?_⟩
 rcases h.2 with ⟨h1, h2⟩ | ⟨g, cap, cur, he, h1, h2, h3, h4, h5, h6⟩
 · cases h1
   exact .inl ⟨by rw [show m = 0 by omega], by omega⟩
 · cases he
   exact .inr ⟨g, c, cur, rfl, h1, h2, by omega, h4, h5, by rw [← h6, List.take_take, Nat.min_eq_left hmk]⟩
theorem flatG_take {α : Type} {enc : α → List Value} {k : Nat} (hk : ∀ x, (enc x).length = k) : ∀ (L : List α) (m : Nat), flatG enc (L.take m) = (flatG enc L).take (m * k)
 | [], m => by simp [flatG]
 | x :: L, 0 => by simp [flatG]
 | x :: L, m + 1 => by
  have ih := flatG_take hk L m
  unfold flatG at *
  have e : (m + 1) * k = k + m * k := by rw [Nat.add_mul]; omega
  rw [List.take_succ_cons, List.flatMap_cons, List.flatMap_cons, ih, e, List.take_append, hk, List.take_of_length_le (l := enc x) (by rw [hk]; omega), Nat.add_sub_cancel_left]
end Go.Proofs.YtccgjdmbongbaaaDoor
