import Derived.Test.YtccgjdmbongbaaaGreatDoorPA16
import Derived.LaidMore
namespace Go.Proofs.YtccgjdmbongbaaaGreatDoor
open Go.RowKit Go.ChangeShapes Go.WideShapes
set_option linter.unusedVariables false
set_option maxRecDepth 10000
def wordsL : List (List UInt8) := [[], [116, 97, 107, 101], [102, 114, 101, 101], [115, 101, 110, 100], [98, 97, 99, 107], [112, 117, 116], [100, 114, 97, 119], [111, 119, 101], [112, 97, 121]]
def wordB (t : Nat) : ByteArray := ⟨(wordsL.getD t []).toArray⟩
theorem cells_of_strs {H : Type} {enc : TypeId × Value → H} {P : Program} {w : World} {base : Nat} {sp : Nat → Bool} {held : Bool} {fuel : Nat} {t e : TypeId} {n : Nat} {cs : List Value} {zs : List (List UInt8)} {p : List MemPlace}
 (ht : P.underlying t = some (.array n e)) (he : P.underlying e = some .string) (hce : P.cellsOf e = 1) (hct : P.cellsOf t = n)
 (h : DataW.trod enc P w base sp held fuel t cs = some (.agg (zs.map fun z => .lit (.string z)), p)) : cs = zs.map fun z => Value.string ⟨z.toArray⟩ := by
 cases fuel with
 | zero => simp [DataW.trod] at h
 | succ fuel =>
  simp only [DataW.trod, ht, hce, hct, Nat.mul_one] at h
  split at h
  · rename_i hl
    obtain ⟨xs, hm, hx⟩ := Option.map_eq_some_iff.1 h
    have hxs : xs.map (·.1) = zs.map fun z => (DataW.lit (.string z) : DataW H) := by
     have := congrArg Prod.fst hx
     simpa using this
    have hxl : xs.length = n := by simpa using Lib.mapM_length hm
    have hzl : zs.length = n := by
     have := congrArg List.length hxs
     simp at this
     omega
    apply List.ext_getElem?
    intro i
    by_cases hi : i < n
    · obtain ⟨b, hb, hf⟩ := Lib.mapM_at hm i i (by simp [hi])
      obtain ⟨z, hc, rfl, _⟩ := DataW.trod_string he hf
      have h1 : cs[i]? = some (.string z) := by
       have := congrArg (·[0]?) hc
       simpa [List.getElem?_take, List.getElem?_drop] using this
      have h2 : (xs.map (·.1))[i]? = some (DataW.lit (.string z.data.toList) : DataW H) := by simp [hb]
      rw [hxs] at h2
      simp only [List.getElem?_map, Option.map_eq_some_iff, DataW.lit.injEq, Lit.string.injEq] at h2
      obtain ⟨z', hz', hzz⟩ := h2
      have hz2 : (⟨z'.toArray⟩ : ByteArray) = z := by rw [hzz]
      simp [h1, hz', hz2]
    · rw [List.getElem?_eq_none (by omega), List.getElem?_eq_none (by simp; omega)]
  · cases h
def Words (W : World) : Prop := W.var? Tryz.prog "pledge/step.words" = some (wordsL.map fun z => Value.string ⟨z.toArray⟩).toArray
theorem gWords : Tryz.prog.globalNamed "pledge/step.words" = some 0 := by kernel_rfl
theorem tWords : (Tryz.prog.globals[0]?).map (·.type) = some 193 := by kernel_rfl
theorem Words.later {W W' : World} (h : Words W) (hb : Below W.heap.size W W') : Words W' := Go.Joins.var_stays gWords h hb (Nat.le_refl _)
theorem Words.cell {W : World} (h : Words W) (t : Nat) (ht : t < 9) : W.cell? ⟨0, t, none⟩ = some (.string (wordB t)) := by
 have := World.var?_cell gWords h t
 rw [this]
 rcases (by omega : t = 0 ∨ t = 1 ∨ t = 2 ∨ t = 3 ∨ t = 4 ∨ t = 5 ∨ t = 6 ∨ t = 7 ∨ t = 8) with rfl | rfl | rfl | rfl | rfl | rfl | rfl | rfl | rfl <;> rfl
theorem tagword_any (t : Int) (h0 : 0 ≤ t) (h255 : t ≤ 255) (W : World) (hw : Words W) :
 Calls Tryz.prog 140 #[.int .u8 t] W fun e w' => e = .returned (.string (wordB t.toNat)) ∧ w' = W := by
 by_cases h9 : t < 9
 · obtain ⟨k, rfl⟩ : ∃ k : Nat, t = (k : Int) := ⟨t.toNat, by omega⟩
   have hc := hw.cell k (by omega)
   have hd : decide (9 ≤ (k : Int)) = false := decide_eq_false (by omega)
   have hk : ((k : Nat) : Int).toNat = k := rfl
   rw [hk]
   generalize wordB k = s at *
   clear hw hk
   go_enter Tryz.func140, Tryz.ntmps140
   go_wp2_with fail
   go_ret
   exact ⟨rfl, rfl⟩
 · have hd : decide (9 ≤ t) = true := decide_eq_true (by omega)
   have hk : wordB t.toNat = ⟨#[]⟩ := by
    unfold wordB wordsL
    rw [List.getD, List.getElem?_eq_none (by simp; omega)]; rfl
   rw [hk]
   clear hw hk
   go_enter Tryz.func140, Tryz.ntmps140
   go_wp2_with fail
   go_ret
   exact ⟨rfl, rfl⟩
theorem lineB_at (s : Int) (L : List Ln) (j : Nat) (x : Ln) (h : L.getD j l0 = x) : lineB s L j = (decide (x.1 < s) && decide (1 ≤ x.2) && (decide (j = 0) || decide ((L.getD (j - 1) l0).1 < x.1))) := by
 unfold lineB
 rw [h]
theorem good_not (s w t r : Int) (L : List Ln) (h : sizedB s w = false ∨ ¬ (1 ≤ t ∧ t ≤ 8) ∨ L.length = 0 ∨ linesB s L = false) : goodS s w t r L = false := by
 unfold goodS
 rcases h with h | h | h | h
 · simp [h]
 · rw [decide_eq_false h]; simp
 · rw [decide_eq_false (show ¬ 1 ≤ L.length by omega)]; simp
 · simp [h]
theorem prog_cells (k od po : Int) (lp : Option Addr) (ln lcp : Nat) (tp : Option Addr) (tn tcp : Nat) (wp : Option Addr) (wn wcp : Nat) (sk fr to q : Int) {w : World} {X : Nat} (hx : w.heap[X]? = some (.cells #[.int .u8 k, .int .u32 od, .int .u8 po, .slice lp ln lcp, .slice tp tn tcp, .slice wp wn wcp, .int .u8 sk, .int .u8 fr, .int .u8 to, .int .i64 q] 38 (0, 0))) :
 w.cell? ⟨X, 0, none⟩ = some (.int .u8 k) ∧ w.cell? ⟨X, 1, none⟩ = some (.int .u32 od) ∧ w.cell? ⟨X, 2, none⟩ = some (.int .u8 po) ∧ w.cell? ⟨X, 3, none⟩ = some (.slice lp ln lcp) ∧ w.cell? ⟨X, 4, none⟩ = some (.slice tp tn tcp) ∧ w.cell? ⟨X, 5, none⟩ = some (.slice wp wn wcp) ∧ w.cell? ⟨X, 6, none⟩ = some (.int .u8 sk) ∧ w.cell? ⟨X, 7, none⟩ = some (.int .u8 fr) ∧ w.cell? ⟨X, 8, none⟩ = some (.int .u8 to) ∧ w.cell? ⟨X, 9, none⟩ = some (.int .i64 q) :=
 ⟨block_cell hx rfl, block_cell hx rfl, block_cell hx rfl, block_cell hx rfl, block_cell hx rfl, block_cell hx rfl, block_cell hx rfl, block_cell hx rfl, block_cell hx rfl, block_cell hx rfl⟩
abbrev Hs := Int × Int × Option Addr × Nat × Nat
abbrev hs0 : Hs := (0, 0, none, 0, 0)
def sc (h : Hs) : List Value := [.int .u8 h.1, .int .u8 h.2.1, .slice h.2.2.1 h.2.2.2.1 h.2.2.2.2]
theorem sc_len (h : Hs) : (sc h).length = 3 := rfl
theorem sc_one (h : Hs) : ∀ u ∈ sc h, u.oneCell' = true := by
 intro u hu
 simp only [sc, List.mem_cons, List.not_mem_nil, or_false] at hu
 rcases hu with rfl | rfl | rfl <;> rfl
def Tells (w : World) (h : Hs) (s : Stp) : Prop := h.1 = s.1 ∧ h.2.1 = s.2.1 ∧ LL w h.2.2.1 h.2.2.2.1 h.2.2.2.2 s.2.2
theorem Tells.later {w w' : World} {h : Hs} {s : Stp} (ht : Tells w h s) (hb : Below w.heap.size w w') : Tells w' h s := ⟨ht.1, ht.2.1, ht.2.2.later hb⟩
def TellsAll (w : World) : List Hs → List Stp → Prop
 | [], [] => True
 | h :: H, s :: S => Tells w h s ∧ TellsAll w H S
 | _, _ => False
theorem TellsAll.later {w w' : World} (hb : Below w.heap.size w w') : ∀ {H : List Hs} {S : List Stp}, TellsAll w H S → TellsAll w' H S
 | [], [], _ => trivial
 | _ :: _, _ :: _, h => ⟨h.1.later hb, TellsAll.later hb h.2⟩
 | [], _ :: _, h => h.elim
 | _ :: _, [], h => h.elim
theorem TellsAll.len {w : World} : ∀ {H : List Hs} {S : List Stp}, TellsAll w H S → H.length = S.length
 | [], [], _ => rfl
 | _ :: _, _ :: _, h => by rw [List.length_cons, List.length_cons, TellsAll.len h.2]
 | [], _ :: _, h => h.elim
 | _ :: _, [], h => h.elim
theorem TellsAll.append {w : World} : ∀ {H H' : List Hs} {S S' : List Stp}, TellsAll w H S → TellsAll w H' S' → TellsAll w (H ++ H') (S ++ S')
 | [], _, [], _, _, h => h
 | _ :: _, _, _ :: _, _, h, h' => ⟨h.1, TellsAll.append h.2 h'⟩
 | [], _, _ :: _, _, h, _ => h.elim
 | _ :: _, _, [], _, h, _ => h.elim
theorem TellsAll.at {w : World} : ∀ {H : List Hs} {S : List Stp} (j : Nat), TellsAll w H S → j < H.length → Tells w (H.getD j hs0) (S.getD j (0, 0, []))
 | _ :: _, _ :: _, 0, h, _ => h.1
 | _ :: _, _ :: _, j + 1, h, hj => by simpa using TellsAll.at j h.2 (by simpa using hj)
 | [], [], j, _, hj => by simp at hj
 | [], _ :: _, _, h, _ => h.elim
 | _ :: _, [], _, h, _ => h.elim
abbrev HL (w : World) (p : Option Addr) (n c : Nat) (H : List Hs) : Prop := SlG sc 3 hs0 w p n c H
structure SL (w : World) (p : Option Addr) (n c : Nat) (H : List Hs) (S : List Stp) : Prop where
 row : HL w p n c H
 tells : TellsAll w H S
theorem SL.later {w w' : World} {p : Option Addr} {n c : Nat} {H : List Hs} {S : List Stp} (h : SL w p n c H S) (hb : Below w.heap.size w w') : SL w' p n c H S := ⟨h.row.later hb, h.tells.later hb⟩
theorem info_step : (Tryz.prog.info? 161).map (fun i => (i.zero, i.size, i.bytes)) = some (some (.agg #[.int .u8 0, .int .u8 0, .slice none 0 0]), 3, 32) := by kernel_rfl
structure FillS (W wr : World) (v : Value) (H : List Hs) (S : List Stp) (N : Nat) : Prop where
 own : wr.ownsRow W.heap.size 161 3 v H.length (flatG sc H)
 below : Below W.heap.size W wr
 most : H.length ≤ N
 tells : TellsAll wr H S
 apart : ∀ h ∈ H, 0 < h.2.2.2.1 → ∀ ad, h.2.2.1 = some ad → v.ownBlock ≠ some ad.block
theorem FillS.nil (W : World) : FillS W W (.slice none 0 0) [] [] 0 := ⟨World.ownsRow_nil _ _ _ _, Below.refl _ _, Nat.le_refl _, trivial, fun h hh => by cases hh⟩
theorem FillS.later {W wr w' : World} {v : Value} {H : List Hs} {S : List Stp} {N : Nat} (h : FillS W wr v H S N) (hb : Below wr.heap.size wr w') : FillS W w' v H S N := by
 refine ⟨⟨h.own.1, ?_⟩, h.below.trans (hb.mono h.below.size), h.most, h.tells.later hb, h.apart⟩
 rcases h.own.2 with hn | ⟨g, cap, cur, rfl, h1, h2, h3⟩
 · exact .inl hn
 · exact .inr ⟨g, cap, cur, rfl, h1, (hb.block g (Array.getElem?_eq_some_iff.1 h2).1).trans h2, h3⟩
theorem FillS.mono {W wr : World} {v : Value} {H : List Hs} {S : List Stp} {N K : Nat} (h : FillS W wr v H S N) (hn : N ≤ K) : FillS W wr v H S K := ⟨h.own, h.below, Nat.le_trans h.most hn, h.tells, h.apart⟩
def GivesS (W : World) (S : List Stp) (e : Ending) (w' : World) : Prop := ∃ p c H, e = .returned (.slice p S.length c) ∧ SL w' p S.length c H S ∧ Below W.heap.size W w'
theorem FillS.gives {W wr : World} {v : Value} {H : List Hs} {S : List Stp} {N : Nat} (h : FillS W wr v H S N) : GivesS W S (.returned v) wr := by
 obtain ⟨p, c, rfl, hs, hp⟩ := SlG.of_own (d := hs0) sc_len (by decide) h.own
 rw [h.tells.len] at hs ⊢
 exact ⟨p, c, H, rfl, ⟨hs, h.tells⟩, h.below⟩
theorem GivesS.since {W W2 : World} {S : List Stp} {e : Ending} {w' : World} (h : GivesS W2 S e w') (hb : Below W.heap.size W W2) : GivesS W S e w' := by
 obtain ⟨p, c, H, rfl, hs, hb2⟩ := h
 exact ⟨p, c, H, rfl, hs, hb.trans (hb2.mono hb.size)⟩
theorem step_news {w : World} {B : Nat} {c : Array Value} {H : List Hs} (h : w.heap[B]? = some (.cells c 161 (0, 0))) (hc : c.toList = flatG sc H) : ∀ ad, (some (⟨B, 0, none⟩ : Addr)) = some ad → ∀ j u, (flatG sc H)[j]? = some u → w.cell? (ad.add j) = some u := by
 intro ad he j u hu
 cases he
 rw [Go.WideShapes.add_plain, Nat.zero_add]
 refine block_cell h ?_
 rw [← hc] at hu
 simpa using hu
set_option maxHeartbeats 1000000 in
theorem named_any (t r : Int) (p : Option Addr) (n c : Nat) (x : Ln) (W : World) :
 Calls Tryz.prog 141 #[.agg #[.int .u8 t, .int .u8 r, .slice p n c], .agg #[.int .u8 x.1, .int .i64 x.2]] W fun e w' => e = .returned (.agg #[.int .u8 (kindS t), .int .u8 x.1, .int .u8 r]) ∧ Below W.heap.size W w' := by
 obtain ⟨s, q⟩ := x
 dsimp only
 obtain ⟨k, hk⟩ : ∃ k, kindS t = k := ⟨_, rfl⟩
 rw [hk]
 have hb3 : Below W.heap.size W (((W.alloc (.cells #[.int .u8 t, .int .u8 r, .slice p n c] 161)).alloc (.cells #[.int .u8 s, .int .i64 q] 115)).alloc (.cells #[.int .u8 k, .int .u8 s, .int .u8 r] 34)) := by
  repeat (refine Below.alloc ?_ (by simp; try omega) _)
  exact Below.refl _ _
 have ha := alloc_block ((W.alloc (.cells #[.int .u8 t, .int .u8 r, .slice p n c] 161)).alloc (.cells #[.int .u8 s, .int .i64 q] 115)) (.cells #[.int .u8 k, .int .u8 s, .int .u8 r] 34)
 simp only [World.size_alloc] at ha
 have HA := Lib.hid ha
 have HB := Lib.hid hb3
 clear ha hb3
 by_cases h7 : t = 7
 · subst h7
   obtain rfl : k = 4 := by rw [← hk]; rfl
   clear hk
   go_enter Tryz.func141, Tryz.ntmps141
   go_wp2_with fail
   refine bodyPost_ret (v := .agg #[.int .u8 4, .int .u8 s, .int .u8 r]) ?_ rfl ⟨rfl, HB.out⟩
   exact results_cell_row rfl _ _ (W.heap.size + 1 + 1) 34 _ (0, 0) _ rfl HA.out Tryz.underlying34 rfl (by kernel_rfl)
 by_cases h8 : t = 8
 · subst h8
   obtain rfl : k = 4 := by rw [← hk]; rfl
   clear hk h7
   go_enter Tryz.func141, Tryz.ntmps141
   go_wp2_with fail
   refine bodyPost_ret (v := .agg #[.int .u8 4, .int .u8 s, .int .u8 r]) ?_ rfl ⟨rfl, HB.out⟩
   exact results_cell_row rfl _ _ (W.heap.size + 1 + 1) 34 _ (0, 0) _ rfl HA.out Tryz.underlying34 rfl (by kernel_rfl)
 · obtain rfl : k = 1 := by rw [← hk]; unfold kindS; rw [if_neg (by omega)]
   have e7 : (t == 7) = false := by simpa using h7
   have e8 : (t == 8) = false := by simpa using h8
   clear hk h7 h8
   go_enter Tryz.func141, Tryz.ntmps141
   go_wp2_with fail
   refine bodyPost_ret (v := .agg #[.int .u8 1, .int .u8 s, .int .u8 r]) ?_ rfl ⟨rfl, HB.out⟩
   exact results_cell_row rfl _ _ (W.heap.size + 1 + 1) 34 _ (0, 0) _ rfl HA.out Tryz.underlying34 rfl (by kernel_rfl)
theorem good_round {s w t r : Int} {L : List Ln} {n j : Nat} (hn : L.length = n) (hj : j < n) (h : lineB s L j = false ∨ sizedB s w = false ∨ (if 7 ≤ t then decide (r = 0) else decide (r < w)) = false) : goodS s w t r L = false := by
 rcases h with h | h | h
 · exact good_not s w t r L (.inr (.inr (.inr (lines_false s L j (by omega) h))))
 · exact good_not s w t r L (.inl h)
 · unfold goodS; rw [h]; simp
theorem good_end {s w t r : Int} {L : List Ln} {n : Nat} (hn : L.length = n) (ht : 1 ≤ t ∧ t ≤ 8) (h1 : 1 ≤ n) (h3 : n ≤ 3) (h : ∀ j, j < n → lineB s L j = true ∧ sizedB s w = true ∧ (if 7 ≤ t then decide (r = 0) else decide (r < w)) = true) : goodS s w t r L = true := by
 obtain ⟨_, hs, hw⟩ := h 0 (by omega)
 unfold goodS
 rw [hs, hw, decide_eq_true ht, decide_eq_true (show 1 ≤ L.length by omega), lines_true s L (fun j hj => (h j (by omega)).1), decide_eq_true (show L.length ≤ 3 by omega)]
 rfl
theorem word_empty (t : Int) (h0 : 0 ≤ t) : (wordB t.toNat).toList.isEmpty = !decide (1 ≤ t ∧ t ≤ 8) := by
 rw [ByteArray.toList_eq]
 by_cases h9 : t < 9
 · rcases (by omega : t = 0 ∨ t = 1 ∨ t = 2 ∨ t = 3 ∨ t = 4 ∨ t = 5 ∨ t = 6 ∨ t = 7 ∨ t = 8) with rfl | rfl | rfl | rfl | rfl | rfl | rfl | rfl | rfl <;> rfl
 · rw [decide_eq_false (by omega)]
   have hk : wordB t.toNat = ⟨#[]⟩ := by
    unfold wordB wordsL
    rw [List.getD, List.getElem?_eq_none (by simp; omega)]; rfl
   rw [hk]; rfl
set_option maxHeartbeats 2000000 in
theorem good_s (s w t r : Int) (p : Option Addr) (n c : Nat) (L : List Ln) (W : World) (hw : Words W) (hL : LL W p n c L) (hok : ∀ x ∈ L, Lnok x) (ht : 0 ≤ t ∧ t ≤ 255) (hr : 0 ≤ r ∧ r ≤ 255) (hn : n ≤ 1000) :
 Calls Tryz.prog 125 #[.int .i64 s, .int .i64 w, .agg #[.int .u8 t, .int .u8 r, .slice p n c]] W fun e w' => e = .returned (.bool (goodS s w t r L)) ∧ Below W.heap.size W w' := by
 have hb1 : Below W.heap.size W (W.alloc (.cells #[.int .u8 t, .int .u8 r, .slice p n c] 161)) := (Below.refl _ _).alloc (Nat.le_refl _) _
 have hwd := fun W hv => tagword_any t ht.1 ht.2 W hv
 have hwe := word_empty t ht.1
 have HW := Lib.hid (hw.later hb1)
 have HN := Lib.hid (good_not s w t r L)
 have HLN := Lib.hid hL.len
 have HB := Lib.hid hb1
 have HL := Lib.hid (hL.later hb1)
 have HX := Lib.hid (alloc_block W (.cells #[.int .u8 t, .int .u8 r, .slice p n c] 161))
 have HOK := Lib.hid fun j (hj : j < n) => lnok_at hok (show j < L.length by rw [hL.len]; exact hj)
 obtain ⟨ht0, ht1⟩ := ht
 obtain ⟨hr0, hr1⟩ := hr
 have hcap := hL.cap
 clear hL hok hb1 hw
 generalize wordB t.toNat = ss at *
 by_cases hg : 1 ≤ t ∧ t ≤ 8
 case neg =>
  have HF := Lib.hid (HN.out (.inr (.inl hg)))
  rw [decide_eq_false hg, Bool.not_false] at hwe
  clear hg
  go_enter Tryz.func125, Tryz.ntmps125
  go_wp2_with fail
  refine (hwd _ HW.out).mono ?_
  rintro e w' ⟨rfl, rfl⟩
  clear hwd
  go_wp2_with fail
  go_ret
  exact ⟨by rw [HF.out]; rfl, HB.out⟩
 rw [decide_eq_true hg, Bool.not_true] at hwe
 have HG := Lib.hid hg
 have HNG := Lib.hid fun x => named_good s w t r x hr0 hg
 clear hg
 by_cases h1 : n < 1
 · have HF := Lib.hid (HN.out (.inr (.inr (.inl (by rw [HLN.out]; omega)))))
   obtain rfl : n = 0 := by omega
   go_enter Tryz.func125, Tryz.ntmps125
   go_wp2_with fail
   refine (hwd _ HW.out).mono ?_
   rintro e w' ⟨rfl, rfl⟩
   clear hwd
   go_wp2_with fail
   go_ret
   exact ⟨by rw [HF.out]; rfl, HB.out⟩
 have h1n : decide (n < 1) = false := decide_eq_false h1
 have h1i : decide ((n : Int) < 1) = false := decide_eq_false (by omega)
 by_cases h3 : 3 < n
 · have HF := Lib.hid (HN.out (.inr (.inr (.inr (by unfold linesB; rw [HLN.out, decide_eq_false (show ¬ n ≤ 3 by omega), Bool.and_false])))))
   have h3n : decide (3 < n) = true := decide_eq_true h3
   have h3i : decide (3 < (n : Int)) = true := decide_eq_true (by omega)
   go_enter Tryz.func125, Tryz.ntmps125
   go_wp2_with fail
   refine (hwd _ HW.out).mono ?_
   rintro e w' ⟨rfl, rfl⟩
   clear hwd
   go_wp2_with fail
   go_ret
   exact ⟨by rw [HF.out]; rfl, HB.out⟩
 have h3n : decide (3 < n) = false := decide_eq_false h3
 have h3i : decide (3 < (n : Int)) = false := decide_eq_false (by omega)
 have H1 := Lib.hid h1
 have H3 := Lib.hid h3
 clear h1 h3
 go_enter Tryz.func125, Tryz.ntmps125
 go_wp2_with fail
 refine (hwd _ HW.out).mono ?_
 rintro e w' ⟨rfl, rfl⟩
 clear hwd HN
 go_wp2_with fail
 clear hwe h1n h1i h3n h3i
 generalize W.alloc (.cells #[.int .u8 t, .int .u8 r, .slice p n c] 161) = W1 at *
 go_loopw [28] (fun i wr => ∃ j : Nat, j ≤ n ∧ i = .int .i64 j ∧ Hid (Below W1.heap.size W1 wr) ∧ Hid (∀ i, i < j → lineB s L i = true ∧ sizedB s w = true ∧ (if 7 ≤ t then decide (r = 0) else decide (r < w)) = true)) (fun i _ => n - (Go.RowKit.intOf i).toNat)
 case atStart => exact ⟨0, Nat.zero_le _, rfl, Lib.hid (Below.refl _ _), Lib.hid fun i hi => by omega⟩
 case round =>
  obtain ⟨j, hj, rfl, HBR, HE⟩ := hrel
  by_cases hlt : j < n
  case neg =>
   obtain rfl : j = n := by omega
   have HF := Lib.hid (good_end HLN.out HG.out (by have := H1.out; omega) (by have := H3.out; omega) HE.out)
   go_wp2_with fail
   go_ret
   exact ⟨by rw [HF.out]; rfl, HB.out.trans (HBR.out.mono HB.out.size)⟩
  have hlt' : (j : Int) < n := by omega
  obtain ⟨b, off, rfl, _, c0, c1⟩ := line_cells (HL.out.later HBR.out) hlt
  obtain ⟨⟨hx0, hx1⟩, hx2, hx3⟩ := HOK.out j hlt
  have hlb := lineB_at s L j _ rfl
  have HRD := Lib.hid fun h => good_round (t := t) (r := r) (s := s) (w := w) HLN.out hlt h
  have HPV : Hid (∀ k, k < n → ∀ w', Below W1.heap.size W1 w' → w'.cell? ⟨b, off + k * 2, none⟩ = some (.int .u8 (L.getD k l0).1)) := Lib.hid fun k hk w' h => by
   obtain ⟨b', off', he, _, d0, _⟩ := line_cells (HL.out.later h) hk
   cases he
   exact d0
  generalize L.getD j l0 = x at *
  have hng := HNG.out x
  obtain ⟨a, q⟩ := x
  dsimp only at c0 c1 hx0 hx1 hx2 hx3 hlb hng
  have hnm := fun W => named_any t r (some ⟨b, off, none⟩) n c (a, q) W
  have hkg := fun W => good_any s w (kindS t) a r ⟨hx0, hx1⟩ ⟨hr0, hr1⟩ W
  rw [hng] at hkg
  have HLB := Lib.hid hlb
  clear hng hlb
  have hba : Below wr.heap.size wr (wr.alloc (.cells #[.int .u8 a, .int .i64 q] 115)) := (Below.refl _ _).alloc (Nat.le_refl _) _
  have HBA := Lib.hid (HBR.out.trans (hba.mono HBR.out.size))
  obtain ⟨e0, e1, e2⟩ := cells_step (block_later HX.out HBA.out)
  have hbl := alloc_block wr (.cells #[.int .u8 a, .int .i64 q] 115)
  have f0 : (wr.alloc (.cells #[.int .u8 a, .int .i64 q] 115)).cell? ⟨wr.heap.size, 0, none⟩ = some (.int .u8 a) := block_cell hbl rfl
  have f1 : (wr.alloc (.cells #[.int .u8 a, .int .i64 q] 115)).cell? ⟨wr.heap.size, 1, none⟩ = some (.int .i64 q) := block_cell hbl rfl
  clear hba hbl
  have HPW := Lib.hid fun k hk => HPV.out k hk _ HBA.out
  go_wp2_with fail
  clear c0 c1 HPV
  generalize wr.alloc (.cells #[.int .u8 a, .int .i64 q] 115) = Wa at *
  generalize wr.heap.size = Y at *
  by_cases hj0 : j = 0
  · have hd3 : decide (0 < (j : Int)) = false := decide_eq_false (by omega)
    have hd3n : decide (0 < j) = false := decide_eq_false (by omega)
    have HR : Hid (lineB s L j = (decide (a < s) && decide (1 ≤ q))) := Lib.hid (by rw [HLB.out, decide_eq_true hj0, Bool.true_or, Bool.and_true])
    clear hj0 HLB
    by_cases hq : q < 1
    · have hd2 : decide (q < 1) = true := decide_eq_true hq
      have HF := Lib.hid (HRD.out (.inl (by rw [HR.out, decide_eq_false (show ¬ 1 ≤ q by omega), Bool.and_false])))
      clear hq hnm hkg
      go_quiet (fail)
      go_wp2_with fail
      go_ret
      exact ⟨by rw [HF.out]; rfl, HB.out.trans ((below_drewN HBA.out _).mono HB.out.size)⟩
    have hd2 : decide (q < 1) = false := decide_eq_false hq
    have hd2' : decide (1 ≤ q) = true := decide_eq_true (by omega)
    rw [hd2', Bool.and_true] at HR
    clear hd2' hq
    generalize hwb : (if 7 ≤ t then decide (r = 0) else decide (r < w)) = wb at *
    generalize hsb : sizedB s w = sb at *
    cases hgv : (sb && decide (a < s) && wb) with
    | false =>
     have HF := Lib.hid (HRD.out (by
      rw [HR.out]
      cases h5 : decide (a < s) with
      | false => exact .inl rfl
      | true =>
       rw [h5] at hgv
       cases sb <;> cases wb <;> simp at hgv ⊢))
     rw [hgv] at hkg
     clear hgv hwb hsb
     go_quiet (fail)
     go_wp2_with fail
     refine (hnm _).mono ?_
     rintro e w3 ⟨rfl, h3⟩
     have HB3 := Lib.hid ((below_drewN HBA.out _).trans (h3.mono (below_drewN HBA.out _).size))
     clear hnm h3
     go_wp2_with fail
     refine (hkg _).mono ?_
     rintro e w4 ⟨rfl, h4⟩
     have HB4 := Lib.hid (HB3.out.trans (h4.below.mono HB3.out.size))
     clear hkg h4
     go_wp2_with fail
     go_ret
     exact ⟨by rw [HF.out]; rfl, HB.out.trans (HB4.out.mono HB.out.size)⟩
    | true =>
     have HT : Hid (lineB s L j = true ∧ sb = true ∧ wb = true) := Lib.hid (by
      rw [HR.out]
      cases h5 : decide (a < s) with
      | false => rw [h5] at hgv; cases sb <;> cases wb <;> simp at hgv
      | true =>
       rw [h5] at hgv
       cases sb <;> cases wb <;> simp at hgv ⊢)
     rw [hgv] at hkg
     have HWB := Lib.hid hwb
     have HSB := Lib.hid hsb
     clear hgv hwb hsb HRD
     go_quiet (fail)
     go_wp2_with fail
     refine (hnm _).mono ?_
     rintro e w3 ⟨rfl, h3⟩
     have HB3 := Lib.hid ((below_drewN HBA.out _).trans (h3.mono (below_drewN HBA.out _).size))
     clear hnm h3
     go_wp2_with fail
     refine (hkg _).mono ?_
     rintro e w4 ⟨rfl, h4⟩
     have HB4 := Lib.hid (HB3.out.trans (h4.below.mono HB3.out.size))
     clear hkg h4
     go_wp2_with fail
     go_roundw
     case rel =>
      refine ⟨j + 1, by omega, by go_num, HB4, Lib.hid fun i hi => ?_⟩
      rw [HSB.out, HWB.out]
      by_cases e : i = j
      · subst e; exact HT.out
      · exact HE.out i (by omega)
     case measure => simp [Go.RowKit.intOf]; omega
  obtain ⟨k, hk⟩ : ∃ k, j = k + 1 := ⟨j - 1, by omega⟩
  have d0 := HPW.out k (by omega)
  have hj1 : j - 1 = k := by omega
  have hji : (j : Int) - 1 = k := by omega
  have hd3 : decide (0 < (j : Int)) = true := decide_eq_true (by omega)
  have hd3n : decide (0 < j) = true := decide_eq_true (by omega)
  have hkn : (k : Int) < n := by omega
  rw [hj1] at HLB
  generalize (L.getD k l0).1 = y at *
  clear hj1
  by_cases hy : a ≤ y
  · have hd4 : decide (a ≤ y) = true := decide_eq_true hy
    have HF := Lib.hid (HRD.out (.inl (by rw [HLB.out, decide_eq_false hj0, decide_eq_false (show ¬ y < a by omega)]; simp)))
    clear hk hj0 hy hnm hkg
    go_quiet (fail)
    go_wp2_with fail
    go_ret
    exact ⟨by rw [HF.out]; rfl, HB.out.trans ((below_drewN HBA.out _).mono HB.out.size)⟩
  have hd4 : decide (a ≤ y) = false := decide_eq_false hy
  have HR : Hid (lineB s L j = (decide (a < s) && decide (1 ≤ q))) := Lib.hid (by rw [HLB.out, decide_eq_true (show y < a by omega), Bool.or_true, Bool.and_true])
  clear hk hj0 hy HLB
  by_cases hq : q < 1
  · have hd2 : decide (q < 1) = true := decide_eq_true hq
    have HF := Lib.hid (HRD.out (.inl (by rw [HR.out, decide_eq_false (show ¬ 1 ≤ q by omega), Bool.and_false])))
    clear hq hnm hkg
    go_quiet (fail)
    go_wp2_with fail
    go_ret
    exact ⟨by rw [HF.out]; rfl, HB.out.trans ((below_drewN HBA.out _).mono HB.out.size)⟩
  have hd2 : decide (q < 1) = false := decide_eq_false hq
  have hd2' : decide (1 ≤ q) = true := decide_eq_true (by omega)
  rw [hd2', Bool.and_true] at HR
  clear hd2' hq
  generalize hwb : (if 7 ≤ t then decide (r = 0) else decide (r < w)) = wb at *
  generalize hsb : sizedB s w = sb at *
  cases hgv : (sb && decide (a < s) && wb) with
  | false =>
   have HF := Lib.hid (HRD.out (by
    rw [HR.out]
    cases h5 : decide (a < s) with
    | false => exact .inl rfl
    | true =>
     rw [h5] at hgv
     cases sb <;> cases wb <;> simp at hgv ⊢))
   rw [hgv] at hkg
   clear hgv hwb hsb
   go_quiet (fail)
   go_wp2_with fail
   refine (hnm _).mono ?_
   rintro e w3 ⟨rfl, h3⟩
   have HB3 := Lib.hid ((below_drewN HBA.out _).trans (h3.mono (below_drewN HBA.out _).size))
   clear hnm h3
   go_wp2_with fail
   refine (hkg _).mono ?_
   rintro e w4 ⟨rfl, h4⟩
   have HB4 := Lib.hid (HB3.out.trans (h4.below.mono HB3.out.size))
   clear hkg h4
   go_wp2_with fail
   go_ret
   exact ⟨by rw [HF.out]; rfl, HB.out.trans (HB4.out.mono HB.out.size)⟩
  | true =>
   have HT : Hid (lineB s L j = true ∧ sb = true ∧ wb = true) := Lib.hid (by
    rw [HR.out]
    cases h5 : decide (a < s) with
    | false => rw [h5] at hgv; cases sb <;> cases wb <;> simp at hgv
    | true =>
     rw [h5] at hgv
     cases sb <;> cases wb <;> simp at hgv ⊢)
   rw [hgv] at hkg
   have HWB := Lib.hid hwb
   have HSB := Lib.hid hsb
   clear hgv hwb hsb HRD
   go_quiet (fail)
   go_wp2_with fail
   refine (hnm _).mono ?_
   rintro e w3 ⟨rfl, h3⟩
   have HB3 := Lib.hid ((below_drewN HBA.out _).trans (h3.mono (below_drewN HBA.out _).size))
   clear hnm h3
   go_wp2_with fail
   refine (hkg _).mono ?_
   rintro e w4 ⟨rfl, h4⟩
   have HB4 := Lib.hid (HB3.out.trans (h4.below.mono HB3.out.size))
   clear hkg h4
   go_wp2_with fail
   go_roundw
   case rel =>
    refine ⟨j + 1, by omega, by go_num, HB4, Lib.hid fun i hi => ?_⟩
    rw [HSB.out, HWB.out]
    by_cases e : i = j
    · subst e; exact HT.out
    · exact HE.out i (by omega)
   case measure => simp [Go.RowKit.intOf]; omega
def fiA (sk to : Int) (x : Tk) : Bool := decide (x.1 ≠ 0) && decide (x.2.1 = sk) && decide (x.2.2.1 = to) && decide (1 ≤ x.2.2.2)
theorem fillAt_eq (sk to : Int) (T : List Tk) (j : Nat) : fillAt sk to T j = (fiA sk to (T.getD j tk0) && (List.range j).all fun k => decide ((T.getD k tk0).1 ≠ (T.getD j tk0).1)) := rfl
theorem ask1 (s w od po : Int) (L : List Ln) (T : List Tk) (M : List Ln) (sk fr to q : Int) : askP s w ⟨1, od, po, L, T, M, sk, fr, to, q⟩ = (decide (od ≠ 0) && decide (po ≤ 1) && decide (1 ≤ L.length) && linesB s L && takesB s w od T && linesB s M && coverB T M L && (decide (po = 0) || decide (M.length = 0))) := rfl
theorem qof1 (od po : Int) (L : List Ln) (T : List Tk) (M : List Ln) (sk fr to q : Int) : qofP ⟨1, od, po, L, T, M, sk, fr, to, q⟩ = ⟨1, od, po, L, T, M, 0, 0, 0, 0⟩ := rfl
theorem ask2 (s w od po : Int) (L : List Ln) (T : List Tk) (M : List Ln) (sk fr to q : Int) : askP s w ⟨2, od, po, L, T, M, sk, fr, to, q⟩ = (decide (od ≠ 0) && takesB s w od T && linesB s M && decide (1 ≤ T.length + M.length)) := rfl
theorem qof2 (od po : Int) (L : List Ln) (T : List Tk) (M : List Ln) (sk fr to q : Int) : qofP ⟨2, od, po, L, T, M, sk, fr, to, q⟩ = ⟨2, od, 0, [], T, M, 0, 0, 0, 0⟩ := rfl
theorem ask3 (s w od po : Int) (L : List Ln) (T : List Tk) (M : List Ln) (sk fr to q : Int) : askP s w ⟨3, od, po, L, T, M, sk, fr, to, q⟩ = (decide (od ≠ 0) && takesB s w od T && decide (1 ≤ T.length)) := rfl
theorem qof3 (od po : Int) (L : List Ln) (T : List Tk) (M : List Ln) (sk fr to q : Int) : qofP ⟨3, od, po, L, T, M, sk, fr, to, q⟩ = ⟨3, od, 0, [], T, [], 0, 0, 0, 0⟩ := rfl
theorem ask4 (s w od po : Int) (L : List Ln) (T : List Tk) (M : List Ln) (sk fr to q : Int) : askP s w ⟨4, od, po, L, T, M, sk, fr, to, q⟩ = (decide (od ≠ 0) && takesB s w od T && decide (1 ≤ T.length)) := rfl
theorem qof4 (od po : Int) (L : List Ln) (T : List Tk) (M : List Ln) (sk fr to q : Int) : qofP ⟨4, od, po, L, T, M, sk, fr, to, q⟩ = ⟨4, od, 0, [], T, [], 0, 0, 0, 0⟩ := rfl
theorem ask5 (s w od po : Int) (L : List Ln) (T : List Tk) (M : List Ln) (sk fr to q : Int) : askP s w ⟨5, od, po, L, T, M, sk, fr, to, q⟩ = (decide (sk < s) && decide (to < w) && decide (1 ≤ q) && fillsB sk to q T) := rfl
theorem qof5 (od po : Int) (L : List Ln) (T : List Tk) (M : List Ln) (sk fr to q : Int) : qofP ⟨5, od, po, L, T, M, sk, fr, to, q⟩ = ⟨5, 0, 0, [], T, [], sk, 0, to, q⟩ := rfl
theorem ask6 (s w od po : Int) (L : List Ln) (T : List Tk) (M : List Ln) (sk fr to q : Int) : askP s w ⟨6, od, po, L, T, M, sk, fr, to, q⟩ = (decide (sk < s) && decide (fr < w) && decide (to < w) && decide (fr ≠ to) && decide (1 ≤ q)) := rfl
theorem qof6 (od po : Int) (L : List Ln) (T : List Tk) (M : List Ln) (sk fr to q : Int) : qofP ⟨6, od, po, L, T, M, sk, fr, to, q⟩ = ⟨6, 0, 0, [], [], [], sk, fr, to, q⟩ := rfl
theorem goodP_unsized {s w : Int} {P : Pg} (h : sizedB s w = false) : goodP s w P = false := by unfold goodP; rw [h]; rfl
theorem goodP_kind {s w : Int} {P : Pg} (h : P.kind ≠ 1 ∧ P.kind ≠ 2 ∧ P.kind ≠ 3 ∧ P.kind ≠ 4 ∧ P.kind ≠ 5 ∧ P.kind ≠ 6) : goodP s w P = false := by
 unfold goodP askP
 rw [if_neg h.1, if_neg h.2.1, if_neg (by omega), if_neg h.2.2.2.2.1, if_neg h.2.2.2.2.2, Bool.and_false]; rfl
theorem of_laid {W : World} (h : laidMetH Tryz.prog Rows.journalPlaysRow.laid W) : Words W := by
 rw [MakeChecks.laidMetH_plain _ _ _ (by kernel_rfl)] at h
 obtain ⟨ps, ⟨g', t', cs, fuel, p, q, hg', ht', hvar, hd, _, _⟩, _⟩ := h
 obtain rfl := Option.some.inj (gWords.symm.trans hg')
 obtain rfl := Option.some.inj (tWords.symm.trans ht')
 unfold Words
 rw [hvar, ← cells_of_strs (zs := wordsL) Tryz.underlying193 Tryz.underlying9 (by kernel_rfl) (by kernel_rfl) hd]
theorem door_met (os : Os) (args : Array Value) : laidMetH Tryz.prog Rows.journalPlaysRow.laid ((World.doorLaid Tryz.prog 400 os).forCall (fun _ _ => 0) ⟨#[], args, []⟩).memory :=
 laidMetH_of_parts3 (fuel := 8) (laidMet_of_run' 8 (by kernel_rfl) (by kernel_rfl)) (by kernel_rfl) (by kernel_rfl)
end Go.Proofs.YtccgjdmbongbaaaGreatDoor
