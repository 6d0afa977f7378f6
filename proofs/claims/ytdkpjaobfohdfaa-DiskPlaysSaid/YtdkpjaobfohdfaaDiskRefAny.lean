/- A write done by the document, whole or its first bytes: whatever it is. -/
import Derived.Test.YtdkpjaobfohdfaaDiskRefTear
import Derived.Test.YtdkpjaobfohdfaaDiskRefGrow
import Derived.Test.YtdkpjaobfohdfaaDiskRefGrowL
import Derived.Test.YtdkpjaobfohdfaaDiskRefGrowN
import Derived.Test.YtdkpjaobfohdfaaDiskRefDrp
import Derived.Test.YtdkpjaobfohdfaaDiskRefCt
import Derived.Test.YtdkpjaobfohdfaaDiskRefNone
namespace Go.Proofs.Ytdkpjaobfohdfaa
open Go.RowKit Go.ChangeShapes Go.WideShapes
set_option linter.unusedVariables false
set_option maxRecDepth 10000
set_option linter.unusedSimpArgs false

/-- What is left of both parts: x below 0: all of the write is done. -/
def dwVx (s : Nat) (x : Int) (V : List (List Int)) (y : Dw) : List (List Int) := if x < 0 then dwV s V y else dwVn s x V y
def dwTx (z : Nat) (x : Int) (t : TS) (y : Dw) : TS := if x < 0 then dwT z t y else dwTn x t y
theorem rdo_any (p tp : Option Addr) (c tc n s z : Nat) (V : List (List Int)) (t : TS) (y : Wd) (x : Int) (w : World) (Q : Nat → Prop) (hQ : ∀ k, w.heap.size ≤ k → Q k) (hV : RV w Q p c s V) (hn : V.length = n) (hn4 : n ≤ 1024) (hs4 : s ≤ 4096) (hz : 64 ≤ z ∧ z ≤ 4096) (hT : Rt w tp tc t.B) (htq : 0 < t.B.length → ∀ a, tp = some a → Q a.block) (hy : y.ok w Q) (hbig : t.len z + y.x.wt ≤ 1000000) :
    Calls Try.prog 46 #[.agg #[.slice p n c, .int .i64 (s : Nat)], .agg #[.slice tp t.B.length tc, .int .i64 (t.f * z : Nat), .int .i64 (z : Nat)], .agg #[.int .i64 (y.k : Nat), .int .i64 y.i, .slice y.q y.m y.cq, .int .i64 y.n], .int .i64 x] w (RdDo w Q s z n (dwVx s x V y.x) (dwTx z x t y.x)) := by
  obtain ⟨k, i, q, m, cq, b, nn⟩ := y
  have hk : k = 0 ∨ k = 1 ∨ k = 2 ∨ k = 3 := by have := hy.k3; simp only at this; omega
  have hb : BL w q m cq b := hy.bl
  have hbl := hb.len
  clear hy
  unfold TS.len at hbig
  unfold dwVx dwTx
  rcases hk with rfl | rfl | rfl | rfl
  · have hyx : Wd.x ⟨0, i, q, m, cq, b, nn⟩ = .put i b := rfl
    rw [hyx] at hbig ⊢
    by_cases hx : x < 0
    · rw [if_pos hx, if_pos hx]
      exact rdo_put p tp c tc n s z V t i x nn q m cq b w Q hQ hV hn hn4 hs4 hT htq hb hx
    · rw [if_neg hx, if_neg hx]
      exact rdo_tear p tp c tc n s z V t i x nn q m cq b w Q hQ hV hn hn4 hs4 hT htq hb (by omega)
  · have hyx : Wd.x ⟨1, i, q, m, cq, b, nn⟩ = .grow b := rfl
    rw [hyx] at hbig ⊢
    have hw : (Dw.grow b).wt = b.length := rfl
    rw [hw] at hbig
    by_cases hx : x < 0
    · rw [if_pos hx, if_pos hx]
      exact rdo_grow p tp c tc n s z V t i x nn q m cq b w Q hQ hV hn hT htq hb hx (by omega)
    · rw [if_neg hx, if_neg hx]
      by_cases hm : (m : Int) ≤ x
      · have h1 : dwTn x t (.grow b) = appT t b := by
          show appT t (b.take (kp x b.length)) = _
          rw [List.take_of_length_le (by unfold kp; omega)]
        rw [h1]
        exact rdo_growl p tp c tc n s z V t i x nn q m cq b w Q hQ hV hn hT htq hb (by omega) hm (by omega)
      · obtain ⟨k, rfl⟩ : ∃ k : Nat, x = k := ⟨x.toNat, by omega⟩
        have h1 : dwTn (k : Int) t (.grow b) = appT t (b.take k) := by
          show appT t (b.take (kp (k : Int) b.length)) = _
          rw [show kp (k : Int) b.length = k by unfold kp; omega]
        rw [h1]
        exact rdo_grown p tp c tc n s z V t i k nn q m cq b w Q hQ hV hn hT htq hb k rfl (by omega) (by omega)
  · have hyx : Wd.x ⟨2, i, q, m, cq, b, nn⟩ = .drop nn := rfl
    rw [hyx] at hbig ⊢
    by_cases hx : x < 0
    · rw [if_pos hx, if_pos hx]
      exact rdo_drop p tp c tc n s z V t i x nn q m cq b w Q hQ hV hn hT htq hb hx hz (by omega)
    · rw [if_neg hx, if_neg hx]
      exact rdo_nodrop p tp c tc n s z V t i x nn q m cq b w Q hQ hV hn hT htq hb (by omega)
  · have hyx : Wd.x ⟨3, i, q, m, cq, b, nn⟩ = .cut nn := rfl
    rw [hyx] at hbig ⊢
    by_cases hx : x < 0
    · rw [if_pos hx, if_pos hx]
      exact rdo_cut p tp c tc n s z V t i x nn q m cq b w Q hQ hV hn hT htq hb hx hz (by omega)
    · rw [if_neg hx, if_neg hx]
      exact rdo_nocut p tp c tc n s z V t i x nn q m cq b w Q hQ hV hn hT htq hb (by omega)
end Go.Proofs.Ytdkpjaobfohdfaa
