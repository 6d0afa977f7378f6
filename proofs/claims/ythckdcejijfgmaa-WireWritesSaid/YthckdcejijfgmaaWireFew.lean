/- few: are items few and small enough; put: an item is written. -/
import Derived.Test.YthckdcejijfgmaaWireItems
import Derived.LoopTactic
namespace Go.Proofs.Ythckdcejijfgmaa
open Go.RowKit Go.ChangeShapes Go.WideShapes
set_option linter.unusedVariables false

def Few (len : Nat) (its : Nat → Item) : Prop := len ≤ 30 ∧ ∀ i, i < len → (its i).m ≤ 300
def FewOk (w : World) (len : Nat) (its : Nat → Item) (e : Ending) (w' : World) : Prop := ∃ b : Bool, e = .returned (.bool b) ∧ (b = true → Few len its) ∧ w = w'
theorem few_any (a : Option Addr) (len cap : Nat) (its : Nat → Item) (w : World) (h : Items w a len cap its) :
    Calls Try.prog 8 #[.slice a len cap] w (FewOk w len its) := by
  have hcap : len ≤ 9223372036854775807 := Nat.le_trans h.1 h.2.1
  have H := Lib.hid h
  clear h
  by_cases h30 : len ≤ 30
  · go_enter Try.func8, Try.ntmps8
    go_wp2_with fail
    go_loop [3] (fun i => ∃ j : Nat, j ≤ len ∧ i = .int .i64 j ∧ ∀ k, k < j → (its k).m ≤ 300) (fun i => len - (intOf i).toNat)
    case atStart => exact ⟨0, Nat.zero_le _, rfl, fun k hk => by omega⟩
    case round =>
      obtain ⟨j, hj, rfl, hm⟩ := hrel
      have HM := Lib.hid hm
      clear hm
      by_cases hlt : j < len
      · obtain ⟨b, off, rfl, hi⟩ := H.out.2.2 (by omega)
        have h3 := (hi j hlt).c3
        clear hi
        have hmx : (its j).m ≤ 9223372036854775807 := Nat.le_trans ((H.out.2.2 (by omega)).elim fun b h => h.elim fun off h => (h.2 j hlt).sl.cap) ((H.out.2.2 (by omega)).elim fun b h => h.elim fun off h => (h.2 j hlt).cm)
        by_cases hbig : (its j).m ≤ 300
        · have HB := Lib.hid hbig
          generalize hq : its j = it at *
          have HQ := Lib.hid hq
          clear hq
          go_wp2_with fail
          go_round
          case rel =>
            refine ⟨j + 1, by omega, by go_num, fun k hk => ?_⟩
            by_cases e : k = j
            · subst e; rw [HQ.out]; exact HB.out
            · exact HM.out k (by omega)
          case measure => simp [intOf]; omega
        · generalize its j = it at *
          go_wp2_with fail
          go_ret
          exact ⟨false, rfl, (fun h => by cases h), rfl⟩
      · obtain rfl : j = len := by omega
        go_wp2_with fail
        go_ret
        exact ⟨true, rfl, fun _ => ⟨h30, HM.out⟩, rfl⟩
  · go_enter Try.func8, Try.ntmps8
    go_wp2_with fail
    go_ret
    exact ⟨false, rfl, (fun h => by cases h), rfl⟩
/-- What an item is written as. -/
def putW (most : Int) (S : St) (it : Item) : St :=
  if it.k % 5 = 0 then numW most S it.x it.n
  else if it.k % 5 = 1 then numW most S it.x 8
  else if it.k % 5 = 2 then rawW most S [bit (it.x % 2 == 1)]
  else if it.k % 5 = 3 then bytesW most S it.L
  else rawW most S it.L
/-- An item as a value. -/
def Item.val (it : Item) : Value := .agg #[.int .u8 ((it.k : Nat) : Int), .int .u64 ((it.x : Nat) : Int), .int .i64 it.n, .slice it.p it.m it.c]
theorem put_any (B : Nat) (v : Value) (most : Int) (S : St) (it : Item) (w : World) (h : Wr w B v most S) (hs : Sl w it.p it.m it.c it.L) (hk : it.k < 256) (hx : it.x < 18446744073709551616) (hm : it.m ≤ 300) (h0 : 0 ≤ most) (h9 : most ≤ 9223372036854775807) (hl : S.2.length ≤ 400000) :
    Calls Try.prog 11 #[.pointer (some ⟨B, 0, none⟩), .agg #[.int .u8 ((it.k : Nat) : Int), .int .u64 ((it.x : Nat) : Int), .int .i64 it.n, .slice it.p it.m it.c]] w (Wrot w B v most (putW most S it)) := by
  obtain ⟨k, x, n, p, m, c, L⟩ := it
  have hc : Chg (fun _ => False) w (w.alloc (.cells #[.int .u8 ((k : Nat) : Int), .int .u64 ((x : Nat) : Int), .int .i64 n, .slice p m c] 31)) := (Chg.refl _ _).alloc _
  have HW : Hid (Wr (w.alloc (.cells #[.int .u8 ((k : Nat) : Int), .int .u64 ((x : Nat) : Int), .int .i64 n, .slice p m c] 31)) B v most S) := Lib.hid (h.chg hc (fun h => h) fun _ _ h => h)
  have HS : Hid (Sl (w.alloc (.cells #[.int .u8 ((k : Nat) : Int), .int .u64 ((x : Nat) : Int), .int .i64 n, .slice p m c] 31)) p m c L) := Lib.hid (hs.later ((Below.refl _ _).alloc (Nat.le_refl _) _))
  have HC := Lib.hid hc
  replace hm : m ≤ 300 := hm
  replace hx : x < 18446744073709551616 := hx
  replace hk : k < 256 := hk
  clear hc hs h
  show Calls Try.prog 11 #[.pointer (some ⟨B, 0, none⟩), .agg #[.int .u8 ((k : Nat) : Int), .int .u64 ((x : Nat) : Int), .int .i64 n, .slice p m c]] w (Wrot w B v most (putW most S ⟨k, x, n, p, m, c, L⟩))
  obtain ⟨r, hr, hr5⟩ : ∃ r : Nat, k % 5 = r ∧ r < 5 := ⟨_, rfl, by omega⟩
  have hri : (k : Int) % 5 = (r : Int) := by omega
  unfold putW
  show Calls _ _ _ _ (Wrot w B v most (if k % 5 = 0 then numW most S x n else if k % 5 = 1 then numW most S x 8 else if k % 5 = 2 then rawW most S [bit (x % 2 == 1)] else if k % 5 = 3 then bytesW most S L else rawW most S L))
  rw [hr]
  clear hr
  match r, hr5 with
  | 0, _ =>
    show Calls _ _ _ _ (Wrot w B v most (numW most S x n))
    go_enter Try.func11, Try.ntmps11
    go_wp2_with fail
    refine (num_wr B v most S x n _ HW.out h0 h9 (by omega)).mono ?_
    rintro e w' ⟨rfl, hw⟩
    have HX := Lib.hid hw
    clear hw
    go_wp2_with fail
    go_end0
    exact ⟨rfl, HX.out.before HC.out⟩
  | 1, _ =>
    show Calls _ _ _ _ (Wrot w B v most (numW most S x 8))
    have HG := Lib.hid (sgn_wrap x hx)
    go_enter Try.func11, Try.ntmps11
    go_wp2_with fail
    rw [HG.out]
    refine (int_wr B v most S x _ HW.out hx h0 h9 (by omega)).mono ?_
    rintro e w' ⟨rfl, hw⟩
    have HX := Lib.hid hw
    clear hw
    go_wp2_with fail
    go_end0
    exact ⟨rfl, HX.out.before HC.out⟩
  | 2, _ =>
    show Calls _ _ _ _ (Wrot w B v most (rawW most S [bit (x % 2 == 1)]))
    have HG : Hid (((x : Int) % 2 == 1) = (x % 2 == 1)) := Lib.hid (by rw [Bool.eq_iff_iff]; simp; omega)
    go_enter Try.func11, Try.ntmps11
    go_wp2_with fail
    rw [HG.out]
    refine (bool_wr B v most S _ _ HW.out h0 h9 (by omega)).mono ?_
    rintro e w' ⟨rfl, hw⟩
    have HX := Lib.hid hw
    clear hw
    go_wp2_with fail
    go_end0
    exact ⟨rfl, HX.out.before HC.out⟩
  | 3, _ =>
    show Calls _ _ _ _ (Wrot w B v most (bytesW most S L))
    go_enter Try.func11, Try.ntmps11
    go_wp2_with fail
    refine (bytes_wr B v most S _ _ _ _ _ HW.out HS.out h0 h9 (by omega) (by omega)).mono ?_
    rintro e w' ⟨rfl, hw⟩
    have HX := Lib.hid hw
    clear hw
    go_wp2_with fail
    go_end0
    exact ⟨rfl, HX.out.before HC.out⟩
  | 4, _ =>
    show Calls _ _ _ _ (Wrot w B v most (rawW most S L))
    go_enter Try.func11, Try.ntmps11
    go_wp2_with fail
    refine (raw_any B v most S _ HW.out _ _ _ _ HS.out h0 h9 (by omega)).mono ?_
    rintro e w' ⟨rfl, hw⟩
    have HX := Lib.hid hw
    clear hw
    go_wp2_with fail
    go_end0
    exact ⟨rfl, HX.out.before HC.out⟩
end Go.Proofs.Ythckdcejijfgmaa
