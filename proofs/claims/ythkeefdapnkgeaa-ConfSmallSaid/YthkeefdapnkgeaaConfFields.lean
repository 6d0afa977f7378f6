/- The plain fields, the plain configuration. -/
import Derived.Test.YthkeefdapnkgeaaConfCheck
import Derived.Deep.LoopGhost
import Derived.Outline
namespace Go.Proofs.Ythkeefdapnkgeaa
open Go.RowKit Go.ChangeShapes Go.WideShapes
set_option linter.unusedVariables false
set_option linter.unusedSimpArgs false

def lowI (i : Int) : Int := if i < 0 then 0 else i
def highI (i h : Int) : Int := if h < i then i else h
/-- A plain declaration. -/
def plainD (i h : Int) (k : K) : D := (k, 0, if k.1 = 1 then i else 0, h)
def plainL (s w : Int) (i h : Int) : List D := (allQ s w 5).map (plainD i h)
theorem gives_widen {α : Type} {enc : α → List Value} {k : Nat} {d : α} {W W1 : World} {L : List α} {e : Ending} {w' : World} (h : GivesG enc k d W1 L e w') (hb : Below W.heap.size W W1) : GivesG enc k d W L e w' := by
  obtain ⟨p, c, he, hs, hB, hp⟩ := h
  exact ⟨p, c, he, hs, hb.trans (hB.mono hb.size), fun a ha => Nat.le_trans hb.size (hp a ha)⟩
theorem decl_news (w : World) (x : D) : ∀ i u, (dc x)[i]? = some u → (w.alloc (.cells #[.int .u8 x.1.1, .int .u8 x.1.2.1, .int .u8 x.1.2.2, .int .i64 x.2.1, .int .i64 x.2.2.1, .int .i64 x.2.2.2] 39)).cell? ⟨w.heap.size, i, none⟩ = some u :=
  fun i u hu => block_cell (alloc_block w _) (by simpa [dc] using hu)
/-- A key's box and a declaration's box, laid behind a row that grows. -/
theorem two_boxes {W wr : World} {v : Value} {M : List D} {N : Nat} (k : K) (d : D) (h : FillD W wr v M N) (hB : Below W.heap.size W wr) :
    FillD W ((wr.alloc (.cells #[.int .u8 k.1, .int .u8 k.2.1, .int .u8 k.2.2] 37)).alloc (.cells #[.int .u8 d.1.1, .int .u8 d.1.2.1, .int .u8 d.1.2.2, .int .i64 d.2.1, .int .i64 d.2.2.1, .int .i64 d.2.2.2] 39)) v M N ∧
    ((wr.alloc (.cells #[.int .u8 k.1, .int .u8 k.2.1, .int .u8 k.2.2] 37)).alloc (.cells #[.int .u8 d.1.1, .int .u8 d.1.2.1, .int .u8 d.1.2.2, .int .i64 d.2.1, .int .i64 d.2.2.1, .int .i64 d.2.2.2] 39)).heap[wr.heap.size + 1]? = some (.cells #[.int .u8 d.1.1, .int .u8 d.1.2.1, .int .u8 d.1.2.2, .int .i64 d.2.1, .int .i64 d.2.2.1, .int .i64 d.2.2.2] 39 (0, 0)) ∧
    Below wr.heap.size wr ((wr.alloc (.cells #[.int .u8 k.1, .int .u8 k.2.1, .int .u8 k.2.2] 37)).alloc (.cells #[.int .u8 d.1.1, .int .u8 d.1.2.1, .int .u8 d.1.2.2, .int .i64 d.2.1, .int .i64 d.2.2.1, .int .i64 d.2.2.2] 39)) := by
  have hb : Below wr.heap.size wr ((wr.alloc (.cells #[.int .u8 k.1, .int .u8 k.2.1, .int .u8 k.2.2] 37)).alloc (.cells #[.int .u8 d.1.1, .int .u8 d.1.2.1, .int .u8 d.1.2.2, .int .i64 d.2.1, .int .i64 d.2.2.1, .int .i64 d.2.2.2] 39)) :=
    ((Below.refl _ _).alloc (Nat.le_refl _) _).alloc (by simp) _
  refine ⟨h.later hb, ?_, hb⟩
  have := alloc_block (wr.alloc (.cells #[.int .u8 k.1, .int .u8 k.2.1, .int .u8 k.2.2] 37)) (.cells #[.int .u8 d.1.1, .int .u8 d.1.2.1, .int .u8 d.1.2.2, .int .i64 d.2.1, .int .i64 d.2.2.1, .int .i64 d.2.2.2] 39)
  simpa using this
set_option maxHeartbeats 1000000 in
theorem pfields_any (s w : Nat) (hs : 1 ≤ s ∧ s ≤ 4) (hw : 1 ≤ w ∧ w ≤ 4) (i h : Int) (W : World) : Calls Try.prog 22 #[.int .i64 s, .int .i64 w, .int .i64 i, .int .i64 h] W (GivesD W (plainL s w (lowI i) (highI (lowI i) h))) := by
  have HA := Lib.hid fun W => all_some s w hs hw W
  have HD : Hid (plainL s w (lowI i) (highI (lowI i) h) = (allQ s w 5).map (plainD (lowI i) (highI (lowI i) h))) := Lib.hid rfl
  generalize plainL s w (lowI i) (highI (lowI i) h) = R at *
  have hl := all_len s w hs hw
  generalize allQ s w 5 = L at *
  generalize hn : L.length = n at *
  have HN := Lib.hid hn
  clear hn hs hw
  go_enter Try.func22, Try.ntmps22
  go_upto_region 3 with (fail)
  rw [show (if i < 0 then (0 : Int) else i) = lowI i from rfl, show (if h < lowI i then lowI i else h) = highI (lowI i) h from rfl]
  generalize highI (lowI i) h = hi at *
  generalize lowI i = lo at *
  go_wp2_with fail
  refine (HA.out _).mono ?_
  rintro e W1 ⟨p, c, rfl, hk, hb⟩
  rw [HN.out] at hk ⊢
  have HK := Lib.hid hk
  have HB1 := Lib.hid hb
  have HF0 : Hid (FillD W1 W1 (.slice none 0 0) [] 0) := Lib.hid ⟨World.ownsRow_nil _ _ _ _, Below.refl _ _, Nat.le_refl _⟩
  clear hk hb HA
  go_wp2_with fail
  go_loopg [9, 22] n (fun g v i wr => ∃ j : Nat, j ≤ n ∧ g = n - j ∧ i = .int .i64 j ∧ Hid (FillD W1 wr v ((L.take j).map (plainD lo hi)) j))
  case atStart => exact ⟨0, Nat.zero_le _, rfl, rfl, HF0⟩
  case round =>
    clear HF0
    obtain ⟨j, hj, rfl, rfl, HF⟩ := hrel
    by_cases hlt : j < n
    · have hlt' : (j : Int) < n := by omega
      obtain ⟨b, off, rfl, hc⟩ := (HK.out.later HF.out.below).cell (by omega)
      obtain ⟨c0, c1, c2⟩ := hc j hlt
      have HT : Hid ((L.take (j + 1)).map (plainD lo hi) = (L.take j).map (plainD lo hi) ++ [plainD lo hi (L.getD j (0, 0, 0))]) := Lib.hid (by
        rw [List.take_add_one, List.map_append, List.getD, List.getElem?_eq_getElem (by rw [HN.out]; exact hlt)]
        rfl)
      clear hc
      generalize L.getD j (0, 0, 0) = k at *
      obtain ⟨k1, k2, k3⟩ := k
      simp only at c0 c1 c2
      by_cases hk : k1 = 1
      · subst hk
        have hpd : plainD lo hi (1, k2, k3) = ((1, k2, k3), 0, lo, hi) := by simp [plainD]
        rw [hpd] at HT
        obtain ⟨hf2, hx2, hb2⟩ := two_boxes (1, k2, k3) ((1, k2, k3), 0, lo, hi) HF.out HF.out.below
        have HF2 := Lib.hid hf2
        have HX2 := Lib.hid hx2
        clear hpd hf2 hx2 hb2 HF
        go_upto_region 10 with (fail)
        generalize (wr.alloc (.cells #[.int .u8 1, .int .u8 k2, .int .u8 k3] 37)).alloc (.cells #[.int .u8 1, .int .u8 k2, .int .u8 k3, .int .i64 0, .int .i64 lo, .int .i64 hi] 39) = w2 at *
        generalize wr.heap.size + 1 = Y at *
        have x0 := block_cell (j := 0) HX2.out rfl
        have x1 := block_cell (j := 1) HX2.out rfl
        have x2 := block_cell (j := 2) HX2.out rfl
        have x3 := block_cell (j := 3) HX2.out rfl
        have x4 := block_cell (j := 4) HX2.out rfl
        have x5 := block_cell (j := 5) HX2.out rfl
        have hmost := HF2.out.most
        have hsz := HF2.out.below.size
        have hnew := Lib.hid (decl_news w2 ((1, k2, k3), 0, lo, hi))
        generalize (L.take j).map (plainD lo hi) = M at *
        clear c0 c1 c2
        go_wp2_with (at_builtin; refine wpList_append_decl rfl _ _ rfl W1.heap.size _ M.length M rfl (HF2.out.own.alloc _) (by omega) ((1, k2, k3), 0, lo, hi) w2.heap.size rfl hnew.out (by simp; omega) ?_; intro v' w3 h1 h2)
        have HN3 := Lib.hid (HF2.out.step _ h1 h2)
        clear h1 h2 HF2 hmost hsz x0 x1 x2 x3 x4 x5 hnew
        go_wp2_with fail
        go_roundg (n - (j + 1))
        case measure => omega
        case rel => exact ⟨j + 1, by omega, rfl, by go_num, Lib.hid (by rw [HT.out]; exact HN3.out)⟩
      · have hkb : (k1 == 1) = false := by rw [beq_eq_false_iff_ne]; exact hk
        have hpd : plainD lo hi (k1, k2, k3) = ((k1, k2, k3), 0, 0, hi) := by simp [plainD, hk]
        rw [hpd] at HT
        obtain ⟨hf2, hx2, hb2⟩ := two_boxes (k1, k2, k3) ((k1, k2, k3), 0, 0, hi) HF.out HF.out.below
        have HF2 := Lib.hid hf2
        have HX2 := Lib.hid hx2
        clear hpd hf2 hx2 hb2 HF
        go_upto_region 10 with (fail)
        generalize (wr.alloc (.cells #[.int .u8 k1, .int .u8 k2, .int .u8 k3] 37)).alloc (.cells #[.int .u8 k1, .int .u8 k2, .int .u8 k3, .int .i64 0, .int .i64 0, .int .i64 hi] 39) = w2 at *
        generalize wr.heap.size + 1 = Y at *
        have x0 := block_cell (j := 0) HX2.out rfl
        have x1 := block_cell (j := 1) HX2.out rfl
        have x2 := block_cell (j := 2) HX2.out rfl
        have x3 := block_cell (j := 3) HX2.out rfl
        have x4 := block_cell (j := 4) HX2.out rfl
        have x5 := block_cell (j := 5) HX2.out rfl
        have hmost := HF2.out.most
        have hsz := HF2.out.below.size
        have hnew := Lib.hid (decl_news w2 ((k1, k2, k3), 0, 0, hi))
        generalize (L.take j).map (plainD lo hi) = M at *
        clear c0 c1 c2
        go_wp2_with (at_builtin; refine wpList_append_decl rfl _ _ rfl W1.heap.size _ M.length M rfl (HF2.out.own.alloc _) (by omega) ((k1, k2, k3), 0, 0, hi) w2.heap.size rfl hnew.out (by simp; omega) ?_; intro v' w3 h1 h2)
        have HN3 := Lib.hid (HF2.out.step _ h1 h2)
        clear h1 h2 HF2 hmost hsz x0 x1 x2 x3 x4 x5 hnew
        go_wp2_with fail
        go_roundg (n - (j + 1))
        case measure => omega
        case rel => exact ⟨j + 1, by omega, rfl, by go_num, Lib.hid (by rw [HT.out]; exact HN3.out)⟩
    · obtain rfl : n = j := by omega
      go_wp2_with fail
      go_ret
      have e : (L.take n).map (plainD lo hi) = R := by rw [HD.out, List.take_of_length_le (by rw [HN.out]; exact Nat.le_refl _)]
      rw [← e]
      exact gives_widen (HF.out.gives dc_len (by decide)) HB1.out
end Go.Proofs.Ythkeefdapnkgeaa
