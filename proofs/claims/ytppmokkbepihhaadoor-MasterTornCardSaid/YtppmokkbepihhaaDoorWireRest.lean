/- The writer's Bytes and Int; Read. -/
import Derived.Test.YtppmokkbepihhaaDoorWireConcat
import Derived.Test.YtppmokkbepihhaaDoorWireNum
namespace Go.Proofs.YtppmokkbepihhaaDoor
open Go.RowKit Go.ChangeShapes Go.WideShapes
set_option linter.unusedVariables false
set_option maxRecDepth 10000

theorem le_two (n : Nat) (h : n < 65536) : le n 2 = [n % 256, n / 256] := by
  simp only [le]
  rw [Nat.mod_eq_of_lt (show n / 256 < 256 by omega)]
/-- The rows that Bytes lays: the length's two bytes, and the list of the two rows. -/
theorem two_rows (p : Option Addr) (n c : Nat) (M : List Nat) (w : World) (hm : Sl w p n c M) (hn : n < 65536) (W : World) (hW : W = (w.alloc (.cells #[.int .u8 ((n : Int) % 256), .int .u8 ((n : Int) / 256)] 5)).alloc (.cells #[.slice (some ⟨w.heap.size, 0, none⟩) 2 2, .slice p n c] 25)) :
    Below w.heap.size w W ∧ Sl W (some ⟨w.heap.size, 0, none⟩) 2 2 (le n 2) ∧ Sl W p n c M ∧ W.cell? ⟨w.heap.size + 1, 0, none⟩ = some (.slice (some ⟨w.heap.size, 0, none⟩) 2 2) ∧ W.cell? ⟨w.heap.size + 1, 1, none⟩ = some (.slice p n c) := by
  have h1 := sl_two (n % 256) (n / 256) (by omega) (by omega) w
  rw [← le_two n hn, show (((n % 256 : Nat) : Int)) = (n : Int) % 256 by omega, show (((n / 256 : Nat) : Int)) = (n : Int) / 256 by omega] at h1
  have hb1 : Below w.heap.size w (w.alloc (.cells #[.int .u8 ((n : Int) % 256), .int .u8 ((n : Int) / 256)] 5)) := (Below.refl _ _).alloc (Nat.le_refl _) _
  have hs : (w.alloc (.cells #[.int .u8 ((n : Int) % 256), .int .u8 ((n : Int) / 256)] 5)).heap.size = w.heap.size + 1 := by simp
  generalize w.alloc (.cells #[.int .u8 ((n : Int) % 256), .int .u8 ((n : Int) / 256)] 5) = w1 at *
  have hb2 : Below w1.heap.size w1 W := by rw [hW]; exact (Below.refl _ _).alloc (Nat.le_refl _) _
  have hblk : W.heap[w.heap.size + 1]? = some (.cells #[.slice (some ⟨w.heap.size, 0, none⟩) 2 2, .slice p n c] 25 (0, 0)) := by rw [hW, ← hs]; exact heap_alloc_new w1 _
  have hb : Below w.heap.size w W := hb1.trans (hb2.mono (by omega))
  exact ⟨hb, h1.later hb2, hm.later hb, cell_of_block hblk rfl, cell_of_block hblk rfl⟩
theorem wrap_sgn (x : Nat) (hx : x < 18446744073709551616) : IntKind.u64.wrap (sgn x) = (x : Int) := by
  unfold sgn
  split
  · simp [IntKind.wrap, IntKind.bits, IntKind.signed]; omega
  · simp [IntKind.wrap, IntKind.bits, IntKind.signed]; omega
theorem int_wr (B : Nat) (v : Value) (most : Int) (S : St) (x : Nat) (w : World) (h : Wr w B v most S) (hx : x < 18446744073709551616) (h0 : 0 ≤ most) (h9 : most ≤ 9223372036854775807) (hl : S.2.length ≤ 900000) :
    Calls Tryd.prog 18 #[.pointer (some ⟨B, 0, none⟩), .int .i64 (sgn x)] w (Wrot w B v most (numW most S x 8)) := by
  have HN := Lib.hid (num_wr B v most S x 8 w h h0 h9 hl)
  have HS := Lib.hid (wrap_sgn x hx)
  clear h
  go_enter Tryd.func18, Tryd.ntmps18
  go_wp2_with fail
  rw [HS.out]
  refine HN.out.mono ?_
  rintro e w' ⟨rfl, hw⟩
  have HX := Lib.hid hw
  clear hw
  go_wp2_with fail
  go_end0
  exact ⟨rfl, HX.out⟩
theorem read_any (p : Option Addr) (n c : Nat) (L : List Nat) (w : World) (hS : Sl w p n c L) (hn : n ≤ 100000) :
    Calls Tryd.prog 34 #[.slice p n c] w fun e w' => ∃ B p' c', e = .returned (.pointer (some ⟨B, 0, none⟩)) ∧ w.heap.size ≤ B ∧ Rd w' B p' c' (0, L) ∧ (∀ a, p' = some a → w.heap.size ≤ a.block ∧ a.block < w'.heap.size) ∧ Below w.heap.size w w' := by
  have HC := Lib.hid (clone_any p n c L w hS hn)
  have hL := hS.len
  clear hS
  go_enter Tryd.func34, Tryd.ntmps34
  go_wp2_with fail
  refine HC.out.mono ?_
  rintro e w1 ⟨v, rfl, hr, hb, ho⟩
  obtain ⟨p', c', rfl, hmax, hs, hob⟩ := hr.sl
  have hlt := hr.bound
  have HF : Hid (Rd (w1.alloc (.cells #[.int .i64 0, .slice p' n c'] 78)) w1.heap.size p' c' (0, L) ∧ (∀ a, p' = some a → w.heap.size ≤ a.block ∧ a.block < (w1.alloc (.cells #[.int .i64 0, .slice p' n c'] 78)).heap.size) ∧ w.heap.size ≤ w1.heap.size ∧ Below w.heap.size w (w1.alloc (.cells #[.int .i64 0, .slice p' n c'] 78))) := by
    refine Lib.hid ⟨⟨?_, ?_, hmax, fun a ha e => ?_⟩, fun a ha => ⟨ho _ (hob a ha), Nat.lt_of_lt_of_le (hlt _ (hob a ha)) (by simp)⟩, hb.size, hb.alloc hb.size _⟩
    · rw [heap_alloc_new]; subst hL; rfl
    · have := hs.later ((Below.refl _ w1).alloc (Nat.le_refl _) (.cells #[.int .i64 0, .slice p' n c'] 78))
      subst hL; exact this
    · have := hlt _ (hob a ha); omega
  clear hr hb ho hs hob hlt
  go_wp2_with fail
  go_ret
  exact ⟨_, _, _, rfl, HF.out.2.2.1, HF.out.1, HF.out.2.1, HF.out.2.2.2⟩
end Go.Proofs.YtppmokkbepihhaaDoor
