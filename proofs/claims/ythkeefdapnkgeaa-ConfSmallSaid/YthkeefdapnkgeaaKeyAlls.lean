/- All keys, as the program lists them. -/
import Derived.Test.YthkeefdapnkgeaaKeyRow
import Derived.Deep.LoopGhost
namespace Go.Proofs.Ythkeefdapnkgeaa
open Go.RowKit Go.ChangeShapes Go.WideShapes
set_option linter.unusedVariables false

def colL (a b : Int) (m : Nat) : List K := (List.range m).map fun (c : Nat) => (a, b, (c : Int))
def skuL (w a : Int) (m : Nat) : List K := (List.range m).flatMap fun (b : Nat) => colL a b (widthI a w).toNat
def allQ (s w : Int) (l : Nat) : List K := (List.range l).flatMap fun (a : Nat) => skuL w a s.toNat
theorem col_succ (a b : Int) (m : Nat) : colL a b (m + 1) = colL a b m ++ [(a, b, (m : Int))] := by simp [colL, List.range_succ]
theorem sku_succ (w a : Int) (m : Nat) : skuL w a (m + 1) = skuL w a m ++ colL a m (widthI a w).toNat := by simp [skuL, List.range_succ]
theorem all_succ (s w : Int) (l : Nat) : allQ s w (l + 1) = allQ s w l ++ skuL w l s.toNat := by simp [allQ, List.range_succ]
theorem sku_none (w : Int) (m : Nat) : skuL w 0 m = [] := by
  have h : (widthI 0 w).toNat = 0 := by simp [widthI]
  simp [skuL, h, colL]
theorem all_one (s w : Int) : allQ s w 1 = [] := by
  rw [all_succ, show allQ s w 0 = [] from rfl]
  exact sku_none w _
theorem all_ok (s w : Int) (h : sizedB s w = true) : ∀ k ∈ allQ s w 5, Kok k := by
  simp only [sizedB, Bool.and_eq_true, decide_eq_true_eq] at h
  intro k hk
  simp only [allQ, skuL, colL, List.mem_flatMap, List.mem_map, List.mem_range] at hk
  obtain ⟨a, ha, b, hb, c, hc, rfl⟩ := hk
  have := width_bounds a w (by omega) (by omega)
  unfold Kok
  dsimp only
  omega
/-- The row that the call is filling holds L, at most N keys. -/
structure Fill (W wr : World) (v : Value) (L : List K) (N : Nat) : Prop where
  own : wr.ownsRow W.heap.size 37 3 v L.length (kL L)
  below : Below W.heap.size W wr
  most : L.length ≤ N
theorem Fill.step {W wr w' : World} {v v' : Value} {L : List K} {N : Nat} {k : K} (h : Fill W wr v L N) (o : Obj) (h1 : w'.ownsRow W.heap.size 37 3 v' (L.length + 1) (kL (L ++ [k]))) (h2 : (wr.alloc o).grownBy w' v.ownBlock) : Fill W w' v' (L ++ [k]) (N + 1) := by
  refine ⟨by simpa using h1, (h.below.alloc h.below.size o).grown h2 ?_ fun j hj => (h.own.lt j hj).1, ?_⟩
  · have := h.below.size
    simp
    omega
  · have := h.most
    simp
    omega
theorem Fill.later {W wr w' : World} {v : Value} {L : List K} {N : Nat} (h : Fill W wr v L N) (hb : Below wr.heap.size wr w') : Fill W w' v L N := by
  refine ⟨⟨h.own.1, ?_⟩, h.below.trans (hb.mono h.below.size), h.most⟩
  rcases h.own.2 with hn | ⟨g, cap, cur, rfl, h1, h2, h3⟩
  · exact .inl hn
  · exact .inr ⟨g, cap, cur, rfl, h1, block_later h2 hb, h3⟩
theorem Fill.mono {W wr : World} {v : Value} {L : List K} {N M : Nat} (h : Fill W wr v L N) (hn : N ≤ M) : Fill W wr v L M := ⟨h.own, h.below, Nat.le_trans h.most hn⟩

/-- A call that hands back the keys L. -/
def Lists (W : World) (L : List K) (e : Ending) (w' : World) : Prop := ∃ p c, e = .returned (.slice p L.length c) ∧ KL w' p L.length c L ∧ Below W.heap.size W w'
theorem Fill.lists {W wr : World} {v : Value} {L : List K} {N : Nat} (h : Fill W wr v L N) (hok : ∀ k ∈ L, Kok k) : Lists W L (.returned v) wr := by
  obtain ⟨p, c, rfl, hk⟩ := KL.of_own h.own hok
  exact ⟨p, c, rfl, hk, h.below⟩
theorem all_none (s w : Int) (h : sizedB s w = false) (W : World) : Calls Try.prog 30 #[.int .i64 s, .int .i64 w] W (Lists W []) := by
  have hz := fun W => sized_any s w W
  rw [h] at hz
  go_enter Try.func30, Try.ntmps30
  go_wp2_with fail
  refine (hz _).mono ?_
  rintro e w' ⟨rfl, rfl⟩
  go_wp2_with fail
  go_ret
  exact ⟨_, _, rfl, KL.empty _, Below.refl _ _⟩
set_option maxHeartbeats 1000000 in
theorem all_some (s w : Nat) (hs : 1 ≤ s ∧ s ≤ 4) (hw : 1 ≤ w ∧ w ≤ 4) (W : World) : Calls Try.prog 30 #[.int .i64 s, .int .i64 w] W (Lists W (allQ s w 5)) := by
  obtain ⟨hs1, hs4⟩ := hs
  obtain ⟨hw1, hw4⟩ := hw
  have h : sizedB s w = true := by simp [sizedB]; omega
  have hz := fun W => sized_any s w W
  have hct := fun W => count_any s w W
  rw [if_pos h] at hct
  have hbb := below_bounds s w (by omega) (by omega) (by omega) (by omega) 5
  obtain ⟨C, hC⟩ : ∃ C : Nat, belowI s w 5 = C := ⟨(belowI s w 5).toNat, by omega⟩
  rw [hC] at hct hbb
  have hc80 : C ≤ 80 := by omega
  have HOK := Lib.hid (all_ok s w h)
  rw [h] at hz
  clear hC hbb h
  obtain ⟨i0, hi, hz0, hz1, hz2⟩ := info_parts info_key
  have hwd := fun (a : Int) W => width_any a w W
  have HWB := Lib.hid fun (a : Int) => width_bounds a w (by omega) (by omega)
  go_enter Try.func30, Try.ntmps30
  go_wp2_with fail
  refine (hz _).mono ?_
  rintro e w' ⟨rfl, rfl⟩
  go_wp2_with fail
  refine (hct _).mono ?_
  rintro e w' ⟨rfl, rfl⟩
  go_wp2_with (at_make; refine wpList_make_own _ rfl _ _ 51 rfl w'.heap.size 37 i0 (.agg #[.int .u8 0, .int .u8 0, .int .u8 0]) 3 Try.underlying51 hi hz0 hz1 .i64 .i64 _ C rfl rfl rfl (by rw [hz2]; omega) (by unfold maxLen; omega) (Nat.le_refl _) ?_; intro w0 hown0 hgrow0)
  have HF : Hid (Fill w' w0 (.slice (some ⟨w'.heap.size, 0, none⟩) 0 C) [] 0) := Lib.hid ⟨hown0, (Below.refl _ _).grown hgrow0 (Nat.le_refl _) (fun k hk => by cases hk), Nat.le_refl _⟩
  clear hown0 hgrow0 hi hz0 hz1 hz2 hct hz
  go_wp2_with fail
  go_loopg [5, 6] 4 (fun g v i wr => ∃ l : Nat, 1 ≤ l ∧ l ≤ 5 ∧ g = 5 - l ∧ i = .int .u8 l ∧ Hid (Fill w' wr v (allQ s w l) (16 * l)))
  case atStart => exact ⟨1, Nat.le_refl _, by omega, rfl, rfl, Lib.hid (by rw [all_one]; exact HF.out.mono (by omega))⟩
  case round =>
    clear HF
    obtain ⟨l, hl1, hl5, rfl, rfl, HA⟩ := hrel
    by_cases hlt : l < 5
    · have hle : (l : Int) ≤ 4 := by omega
      have hwl := hwd l
      have hwb := HWB.out l
      have HW : Hid ((widthI l w).toNat = (widthI l w).toNat) := Lib.hid rfl
      obtain ⟨x, hx⟩ : ∃ x : Nat, widthI (l : Int) w = x := ⟨(widthI (l : Int) w).toNat, by omega⟩
      rw [hx] at hwl
      have hx4 : x ≤ 4 := by omega
      have HX := Lib.hid hx
      clear hx hwb HW
      go_wp2_with fail
      go_loopg [5, 22] s (fun g v i wr => ∃ b : Nat, b ≤ s ∧ g = s - b ∧ i = .int .i64 b ∧ Hid (Fill w' wr v (allQ s w l ++ skuL w l b) (16 * l + 4 * b)))
      case atStart => exact ⟨0, Nat.zero_le _, rfl, rfl, Lib.hid (by rw [show skuL (w : Int) l 0 = [] from rfl, List.append_nil]; exact HA.out.mono (by omega))⟩
      case round =>
        clear HA
        obtain ⟨b, hb, rfl, rfl, HB⟩ := hrel
        by_cases hbs : b < s
        · have hbs' : (b : Int) < s := by omega
          have hb4 : b < 4 := by omega
          go_wp2_with fail
          refine (hwl _).mono ?_
          rintro e w1 ⟨rfl, rfl⟩
          go_wp2_with fail
          go_loopg [5, 28] x (fun g v i wr => ∃ c : Nat, c ≤ x ∧ g = x - c ∧ i = .int .i64 c ∧ Hid (Fill w' wr v ((allQ s w l ++ skuL w l b) ++ colL l b c) (16 * l + 4 * b + c)))
          case atStart => exact ⟨0, Nat.zero_le _, rfl, rfl, Lib.hid (by rw [show colL (l : Int) b 0 = [] from rfl, List.append_nil]; exact HB.out.mono (by omega))⟩
          case round =>
            clear HB
            obtain ⟨c, hc, rfl, rfl, HC⟩ := hrel
            by_cases hcx : c < x
            · have hcx' : (c : Int) < x := by omega
              have hc4 : c < 4 := by omega
              have hmost := HC.out.most
              have hsz := HC.out.below.size
              generalize hL : (allQ s w l ++ skuL w l b) ++ colL l b c = L at *
              have HL := Lib.hid hL
              clear hL
              go_wp2_with (at_builtin; refine wpList_append_key rfl _ _ rfl w'.heap.size _ L.length L rfl (HC.out.own.alloc _) (by omega) ((l : Int), (b : Int), (c : Int)) wr.heap.size rfl (by simp) (by simp) (by simp) (by simp; omega) ?_; intro v' w2 h1 h2)
              have HN := Lib.hid (HC.out.step _ h1 h2)
              clear h1 h2 HC hmost hsz
              go_wp2_with fail
              go_roundg (x - (c + 1))
              case measure => omega
              case rel => exact ⟨c + 1, by omega, rfl, by go_num, Lib.hid (by rw [col_succ, ← List.append_assoc, HL.out]; exact HN.out)⟩
            · obtain rfl : c = x := by omega
              go_wp2_with fail
              go_roundg (s - (b + 1))
              case measure => omega
              case rel => exact ⟨b + 1, by omega, rfl, by go_num, Lib.hid (by rw [sku_succ, ← List.append_assoc, HX.out, Int.toNat_natCast]; exact HC.out.mono (by omega))⟩
        · obtain rfl : b = s := by omega
          go_wp2_with fail
          go_roundg (5 - (l + 1))
          case measure => omega
          case rel => exact ⟨l + 1, by omega, by omega, rfl, by go_num, Lib.hid (by rw [all_succ, Int.toNat_natCast]; exact HB.out.mono (by omega))⟩
    · obtain rfl : l = 5 := by omega
      go_wp2_with fail
      go_ret
      exact HA.out.lists HOK.out
end Go.Proofs.Ythkeefdapnkgeaa
