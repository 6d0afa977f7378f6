/- What the library's variables hold: where the row's condition holds, and behind whatever leaves old memory alone; Itoa, ParseUint at bytes, Cut at a blank. -/
import Derived.Test.YtlmfmccbefgjgaaDoorKeyOrders
import Derived.Test.YtlmfmccbefgjgaaDoorShelf
import Derived.LaidMore
import Derived.LaidLaws
import Derived.Lib.LaidTab
import Derived.Lib.SmallJoins
import Derived.Lib.AtoiErrMem
import Derived.Stop.LaidErr
import Derived.Lib.CutLaws
import Derived.Lib.IndexBytes
import Derived.Shelf.RegionOpenPlain
namespace Go.Proofs.YtlmfmccbefgjgaaDoor
open Go.RowKit Go.ChangeShapes Go.WideShapes
set_option linter.unusedVariables false

structure Vars (W : World) : Prop where
  tab : Lib.TabIs Tryd.prog W "internal/strconv.uint64pow10" .u64 Lib.pow10Tab
  syn : ∃ tp p, W.var? Tryd.prog "strconv.ErrSyntax" = some #[.iface tp p]
  rng : ∃ tp p, W.var? Tryd.prog "strconv.ErrRange" = some #[.iface tp p]
theorem gPow : Tryd.prog.globalNamed "internal/strconv.uint64pow10" = some 3 := by kernel_rfl
theorem gSyn : Tryd.prog.globalNamed "strconv.ErrSyntax" = some 1 := by kernel_rfl
theorem gRng : Tryd.prog.globalNamed "strconv.ErrRange" = some 2 := by kernel_rfl
theorem tPow : (Tryd.prog.globals[3]?).map (·.type) = some 104 := by kernel_rfl
theorem tSyn : (Tryd.prog.globals[1]?).map (·.type) = some 68 := by kernel_rfl
theorem tRng : (Tryd.prog.globals[2]?).map (·.type) = some 68 := by kernel_rfl
theorem Vars.later {W W' : World} (h : Vars W) (hb : Below W.heap.size W W') : Vars W' := by
  obtain ⟨h1, ⟨t2, p2, h2⟩, ⟨t3, p3, h3⟩⟩ := h
  exact ⟨Go.Joins.tab_stays gPow h1 hb (Nat.le_refl _), ⟨t2, p2, Go.Joins.var_stays gSyn h2 hb (Nat.le_refl _)⟩, ⟨t3, p3, Go.Joins.var_stays gRng h3 hb (Nat.le_refl _)⟩⟩
theorem Vars.gr {W W' : World} (h : Vars W) (hb : Gr W W') : Vars W' := h.later hb.below

/-- A decimal numeral of a byte. -/
def digL (n : Nat) : List UInt8 :=
  if n < 10 then [UInt8.ofNat (48 + n)] else if n < 100 then [UInt8.ofNat (48 + n / 10), UInt8.ofNat (48 + n % 10)] else [UInt8.ofNat (48 + n / 100), UInt8.ofNat (48 + n / 10 % 10), UInt8.ofNat (48 + n % 10)]
theorem decDigits_dig (n : Nat) (h : n < 256) : Lib.decDigits n = digL n := by
  unfold digL
  by_cases h1 : n < 10
  · rw [if_pos h1, Lib.decDigits, dif_pos h1]
  · rw [if_neg h1, Lib.decDigits, dif_neg h1]
    by_cases h2 : n < 100
    · rw [if_pos h2, Lib.decDigits, dif_pos (by omega)]
      rfl
    · rw [if_neg h2, Lib.decDigits, dif_neg (by omega), Lib.decDigits, dif_pos (by omega), Nat.div_div_eq_div_mul]
      rfl
theorem itoa_dig (b : Int) (h0 : 0 ≤ b) (h1 : b ≤ 255) : Lib.itoa b = digL b.toNat := by
  unfold Lib.itoa
  rw [if_neg (by omega)]
  exact decDigits_dig _ (by omega)
theorem dig_len (n : Nat) : 1 ≤ (digL n).length ∧ (digL n).length ≤ 3 := by
  unfold digL
  repeat' split
  all_goals simp

theorem itoa_any (b : Int) (h0 : 0 ≤ b) (h1 : b ≤ 255) (W : World) (hv : Vars W) :
    Calls Tryd.prog 23 #[.int .i64 b] W fun e w' => e = .returned (.string ⟨(digL b.toNat).toArray⟩) ∧ Gr W w' := by
  have h := Any.strconv_Itoa Tryd.laysM171 b (by omega) (by omega) W hv.tab
  change Calls Tryd.prog 23 _ _ _ at h
  rw [itoa_dig b h0 h1] at h
  exact h

/-- The number that strconv.ParseUint(.., 10, 8) hands back, whatever it says beside. -/
def numN (L : List UInt8) : Nat :=
  match Lib.parseUintB 8 L with
  | .ok u => u
  | .range => 255
  | _ => 0
theorem parseUintM_le (M : Nat) : ∀ (L : List UInt8) (acc u : Nat), acc ≤ M → Lib.parseUintM M acc L = .ok u → u ≤ M
  | [], acc, u, ha, h => by
    simp only [Lib.parseUintM] at h
    cases h
    exact ha
  | c :: r, acc, u, ha, h => by
    simp only [Lib.parseUintM] at h
    repeat' split at h
    · cases h
    · cases h
    · exact parseUintM_le M r _ u (by omega) h
    · cases h
theorem numN_lt (L : List UInt8) : numN L ≤ 255 := by
  unfold numN
  split
  · next u h =>
    unfold Lib.parseUintB at h
    split at h
    · cases h
    · exact parseUintM_le 255 L 0 u (by omega) h
  · omega
  · omega
theorem puint_any (L : List UInt8) (hl : L.length ≤ 1000) (W : World) (hv : Vars W) :
    Calls Tryd.prog 39 #[.string ⟨L.toArray⟩, .int .i64 10, .int .i64 8] W fun e w' => (∃ x, e = .returned (.tuple #[.int .u64 (numN L : Nat), x])) ∧ Below W.heap.size W w' := by
  have hsz : (⟨L.toArray⟩ : ByteArray).size = L.length := by simp [ByteArray.size]
  have hdl : (⟨L.toArray⟩ : ByteArray).data.toList = L := rfl
  cases h : Lib.parseUintB 8 L with
  | ok u =>
    have hc := Any.strconv_ParseUint_10_at8_ok Tryd.laysPu14 ⟨L.toArray⟩ (by rw [hsz]; omega) u (by rw [hdl]; exact h) W
    change Calls Tryd.prog 39 _ _ _ at hc
    refine hc.mono ?_
    rintro e w' ⟨rfl, hw⟩
    refine ⟨⟨_, by rw [numN, h]⟩, ?_⟩
    rcases hw with rfl | rfl
    · exact Below.refl _ _
    · exact Lib.bytesWorld_below _ _ _
  | range =>
    obtain ⟨tp, p, hp⟩ := hv.rng
    have hc := Any.strconv_ParseUint_10_at8_range_var Tryd.laysPu14 ⟨L.toArray⟩ (by rw [hsz]; omega) (by rw [hdl]; exact h) tp p W hp
    change Calls Tryd.prog 39 _ _ _ at hc
    refine hc.mono ?_
    rintro e w' ⟨N, rfl, _, _, hb⟩
    exact ⟨⟨_, by rw [numN, h]; rfl⟩, hb⟩
  | _ =>
    obtain ⟨tp, p, hp⟩ := hv.syn
    have hc := Any.strconv_ParseUint_10_at8_syntax_var Tryd.laysPu14 ⟨L.toArray⟩ (by rw [hsz]; omega) (by rw [hdl]; exact h) tp p W hp
    change Calls Tryd.prog 39 _ _ _ at hc
    refine hc.mono ?_
    rintro e w' ⟨N, rfl, _, _, hb⟩
    exact ⟨⟨_, by rw [numN, h]; rfl⟩, hb⟩
end Go.Proofs.YtlmfmccbefgjgaaDoor
