/- All keys, as the document's answer lists them, and where one stands among them. -/
import Derived.Test.YthkeefdapnkgeaaKeyRefs
namespace Go.Proofs.Ythkeefdapnkgeaa
open Go.RowKit Go.ChangeShapes Go.WideShapes
set_option linter.unusedVariables false

def refcol (s w a b : Int) (m : Nat) : List K := (colL a b m).filter fun k => goodB s w k.1 k.2.1 k.2.2
def refsku (s w a : Int) (m : Nat) : List K := (List.range m).flatMap fun (b : Nat) => refcol s w a b 4
def refQ (s w : Int) (l : Nat) : List K := (List.range l).flatMap fun (a : Nat) => refsku s w a 4
theorem refcol_good (s w a b : Int) (m : Nat) (h : goodB s w a b m = true) : refcol s w a b (m + 1) = refcol s w a b m ++ [(a, b, (m : Int))] := by
  unfold refcol
  rw [col_succ, List.filter_append]
  congr 1
  simp [List.filter, h]
theorem refcol_bad (s w a b : Int) (m : Nat) (h : goodB s w a b m = false) : refcol s w a b (m + 1) = refcol s w a b m := by
  unfold refcol
  rw [col_succ, List.filter_append]
  have : List.filter (fun k : K => goodB s w k.1 k.2.1 k.2.2) [(a, b, (m : Int))] = [] := by simp [List.filter, h]
  rw [this, List.append_nil]
theorem refsku_succ (s w a : Int) (m : Nat) : refsku s w a (m + 1) = refsku s w a m ++ refcol s w a m 4 := by simp [refsku, List.range_succ]
theorem refQ_succ (s w : Int) (l : Nat) : refQ s w (l + 1) = refQ s w l ++ refsku s w l 4 := by simp [refQ, List.range_succ]
theorem refQ_mem (s w : Int) (l : Nat) (k : K) (h : k ∈ refQ s w l) : k.1 < l ∧ goodB s w k.1 k.2.1 k.2.2 = true ∧ (0 ≤ k.1 ∧ 0 ≤ k.2.1 ∧ k.2.1 < 4 ∧ 0 ≤ k.2.2 ∧ k.2.2 < 4) := by
  simp only [refQ, refsku, refcol, colL, List.mem_flatMap, List.mem_filter, List.mem_map, List.mem_range] at h
  obtain ⟨a, ha, b, hb, ⟨c, hc, rfl⟩, hg⟩ := h
  exact ⟨by dsimp only; omega, hg, by dsimp only; omega⟩
theorem refQ_one (s w : Int) : refQ s w 1 = [] := by
  refine List.eq_nil_iff_forall_not_mem.2 fun k hk => ?_
  obtain ⟨h1, h2, h3⟩ := refQ_mem s w 1 k hk
  have h0 : k.1 = 0 := by omega
  rw [h0] at h2
  simp only [goodB, Bool.and_eq_true, decide_eq_true_eq] at h2
  have : widthI 0 w = 0 := by simp [widthI]
  omega
theorem refQ_ok (s w : Int) : ∀ k ∈ refQ s w 5, Kok k := by
  intro k hk
  obtain ⟨h1, h2, h3⟩ := refQ_mem s w 5 k hk
  unfold Kok
  omega
theorem refQ_off (s w : Int) (h : sizedB s w = false) : refQ s w 5 = [] := by
  refine List.eq_nil_iff_forall_not_mem.2 fun k hk => ?_
  obtain ⟨h1, h2, h3⟩ := refQ_mem s w 5 k hk
  simp [goodB, h] at h2
theorem ref_all_check : ((List.range 4).all fun (s : Nat) => (List.range 4).all fun (w : Nat) => refQ ((s : Int) + 1) ((w : Int) + 1) 5 == allQ ((s : Int) + 1) ((w : Int) + 1) 5) = true := by kernel_rfl
theorem refQ_on (s w : Nat) (hs : 1 ≤ s ∧ s ≤ 4) (hw : 1 ≤ w ∧ w ≤ 4) : refQ s w 5 = allQ s w 5 := by
  have h := List.all_eq_true.1 (List.all_eq_true.1 ref_all_check (s - 1) (List.mem_range.2 (by omega))) (w - 1) (List.mem_range.2 (by omega))
  rw [show ((s - 1 : Nat) : Int) + 1 = s by omega, show ((w - 1 : Nat) : Int) + 1 = w by omega] at h
  simpa using h
set_option maxHeartbeats 1000000 in
theorem refall_any (s w : Int) (W : World) : Calls Try.prog 23 #[.int .i64 s, .int .i64 w] W (Lists W (refQ s w 5)) := by
  have HOK := Lib.hid (refQ_ok s w)
  have HG := Lib.hid fun (a b c : Nat) (ha : a < 256) (hb : b < 256) (hc : c < 256) W => refgood_any s w a b c (by omega) (by omega) W
  have HF : Hid (Fill W W (.slice none 0 0) [] 0) := Lib.hid ⟨World.ownsRow_nil _ _ _ _, Below.refl _ _, Nat.le_refl _⟩
  go_enter Try.func23, Try.ntmps23
  go_wp2_with fail
  go_loopg [5, 6] 4 (fun g v i wr => ∃ l : Nat, 1 ≤ l ∧ l ≤ 5 ∧ g = 5 - l ∧ i = .int .i64 l ∧ Hid (Fill W wr v (refQ s w l) (16 * l)))
  case atStart => exact ⟨1, Nat.le_refl _, by omega, rfl, rfl, Lib.hid (by rw [refQ_one]; exact HF.out.mono (by omega))⟩
  case round =>
    clear HF
    obtain ⟨l, hl1, hl5, rfl, rfl, HA⟩ := hrel
    by_cases hlt : l < 5
    · have hle : (l : Int) ≤ 4 := by omega
      go_wp2_with fail
      go_loopg [5, 7] 4 (fun g v i wr => ∃ b : Nat, b ≤ 4 ∧ g = 4 - b ∧ i = .int .i64 b ∧ Hid (Fill W wr v (refQ s w l ++ refsku s w l b) (16 * l + 4 * b)))
      case atStart => exact ⟨0, Nat.zero_le _, rfl, rfl, Lib.hid (by rw [show refsku s w (l : Int) 0 = [] from rfl, List.append_nil]; exact HA.out.mono (by omega))⟩
      case round =>
        clear HA
        obtain ⟨b, hb, rfl, rfl, HB⟩ := hrel
        by_cases hbs : b < 4
        · have hbs' : (b : Int) < 4 := by omega
          go_wp2_with fail
          go_loopg [5, 8] 4 (fun g v i wr => ∃ c : Nat, c ≤ 4 ∧ g = 4 - c ∧ i = .int .i64 c ∧ Hid (Fill W wr v ((refQ s w l ++ refsku s w l b) ++ refcol s w l b c) (16 * l + 4 * b + c)))
          case atStart => exact ⟨0, Nat.zero_le _, rfl, rfl, Lib.hid (by rw [show refcol s w (l : Int) b 0 = [] from rfl, List.append_nil]; exact HB.out.mono (by omega))⟩
          case round =>
            clear HB
            obtain ⟨c, hc, rfl, rfl, HC⟩ := hrel
            by_cases hcx : c < 4
            · have hcx' : (c : Int) < 4 := by omega
              have hmost := HC.out.most
              have hg := fun W => HG.out l b c (by omega) (by omega) (by omega) W
              have HC1 := Lib.hid (HC.out.later ((Below.refl _ _).alloc (Nat.le_refl _) (.cells #[.int .u8 (l : Int), .int .u8 (b : Int), .int .u8 (c : Int)] 37)))
              have e0 : (wr.alloc (.cells #[.int .u8 (l : Int), .int .u8 (b : Int), .int .u8 (c : Int)] 37)).cell? ⟨wr.heap.size, 0, none⟩ = some (.int .u8 (l : Int)) := by simp
              have e1 : (wr.alloc (.cells #[.int .u8 (l : Int), .int .u8 (b : Int), .int .u8 (c : Int)] 37)).cell? ⟨wr.heap.size, 1, none⟩ = some (.int .u8 (b : Int)) := by simp
              have e2 : (wr.alloc (.cells #[.int .u8 (l : Int), .int .u8 (b : Int), .int .u8 (c : Int)] 37)).cell? ⟨wr.heap.size, 2, none⟩ = some (.int .u8 (c : Int)) := by simp
              cases hgb : goodB s w (l : Int) b c with
              | true =>
                have hN := refcol_good s w l b c hgb
                rw [hgb] at hg
                have HNN := Lib.hid hN
                clear hN hgb
                generalize hL : (refQ s w l ++ refsku s w l b) ++ refcol s w l b c = L at *
                have HL := Lib.hid hL
                clear hL
                go_wp2_with fail
                refine (hg _).mono ?_
                rintro e w2 ⟨rfl, h⟩
                have HC2 := Lib.hid (HC1.out.later h.below)
                have f0 := (h.below.cell (p := ⟨wr.heap.size, 0, none⟩) (by simp)).trans e0
                have f1 := (h.below.cell (p := ⟨wr.heap.size, 1, none⟩) (by simp)).trans e1
                have f2 := (h.below.cell (p := ⟨wr.heap.size, 2, none⟩) (by simp)).trans e2
                have hsz := HC2.out.below.size
                generalize wr.heap.size = X at *
                clear h e0 e1 e2 hg HC HC1
                go_wp2_with (at_builtin; refine wpList_append_key rfl _ _ rfl W.heap.size _ L.length L rfl (HC2.out.own.alloc _) (by omega) ((l : Int), (b : Int), (c : Int)) w2.heap.size rfl (by simp) (by simp) (by simp) (by simp; omega) ?_; intro v' w3 h1 h2)
                have HN := Lib.hid (HC2.out.step _ h1 h2)
                clear h1 h2 HC2 hmost hsz f0 f1 f2
                go_wp2_with fail
                go_roundg (4 - (c + 1))
                case measure => omega
                case rel => exact ⟨c + 1, by omega, rfl, by go_num, Lib.hid (by rw [HNN.out, ← List.append_assoc, HL.out]; exact HN.out)⟩
              | false =>
                have hN := refcol_bad s w l b c hgb
                rw [hgb] at hg
                have HNN := Lib.hid hN
                clear hN hgb
                go_wp2_with fail
                refine (hg _).mono ?_
                rintro e w2 ⟨rfl, h⟩
                have HC2 := Lib.hid (HC1.out.later h.below)
                clear h e0 e1 e2 hg HC HC1
                go_wp2_with fail
                go_roundg (4 - (c + 1))
                case measure => omega
                case rel => exact ⟨c + 1, by omega, rfl, by go_num, Lib.hid (by rw [HNN.out]; exact HC2.out.mono (by omega))⟩
            · obtain rfl : c = 4 := by omega
              go_wp2_with fail
              go_roundg (4 - (b + 1))
              case measure => omega
              case rel => exact ⟨b + 1, by omega, rfl, by go_num, Lib.hid (by rw [refsku_succ, ← List.append_assoc]; exact HC.out.mono (by omega))⟩
        · obtain rfl : b = 4 := by omega
          go_wp2_with fail
          go_roundg (5 - (l + 1))
          case measure => omega
          case rel => exact ⟨l + 1, by omega, by omega, rfl, by go_num, Lib.hid (by rw [refQ_succ]; exact HB.out.mono (by omega))⟩
    · obtain rfl : l = 5 := by omega
      go_wp2_with fail
      go_ret
      exact HA.out.lists HOK.out

/-- Where k stands first in L: at place x; nowhere: -1. -/
def PosIs (L : List K) (k : K) (x : Int) : Prop := (∃ j : Nat, j < L.length ∧ x = j ∧ L.getD j (0, 0, 0) = k) ∨ (x = -1 ∧ ∀ j, j < L.length → L.getD j (0, 0, 0) ≠ k)
end Go.Proofs.Ythkeefdapnkgeaa
