/- What each write does, whole, or its first bytes. -/
import Derived.Test.YtdkpjaobfohdfaaDiskLeaf
import Derived.StillTailTactics
namespace Go.Proofs.Ytdkpjaobfohdfaa
open Go.RowKit Go.ChangeShapes Go.WideShapes
set_option linter.unusedVariables false
set_option maxRecDepth 10000
set_option linter.unusedSimpArgs false

/-- What a write to both parts leaves. -/
def Wrote (w : World) (col : Nat → Nat) (c Bv T s : Nat) (V : List (List Int)) (a : Int) (z : Nat) (t : TS) (e : Ending) (w' : World) : Prop :=
  e = .returned (.tuple #[]) ∧ (∃ col', Ext w col col' ∧ Pa w' col' c Bv T s V a z t) ∧ Chg (fun k => col k = c ∨ col k = c + 1) w w'
abbrev pcells (Bv T : Nat) : Array Value := #[.pointer (some ⟨Bv, 0, none⟩), .pointer (some ⟨T, 0, none⟩)]
/-- The two blocks that such a call makes. -/
theorem two_boxes (w : World) (x y : Array Value) (S T : TypeId) : ((w.alloc (.cells x S)).alloc (.cells y T)).heap[w.heap.size]? = some (.cells x S (0, 0)) ∧ ((w.alloc (.cells x S)).alloc (.cells y T)).heap[w.heap.size + 1]? = some (.cells y T (0, 0)) ∧
    Below w.heap.size w ((w.alloc (.cells x S)).alloc (.cells y T)) := by
  have hs : (w.alloc (.cells x S)).heap.size = w.heap.size + 1 := by simp
  have h2 := alloc_block (w.alloc (.cells x S)) (.cells y T)
  rw [hs] at h2
  exact ⟨block_later (alloc_block w _) ((Below.refl _ _).alloc (Nat.le_refl _) _), h2, ((Below.refl _ _).alloc (Nat.le_refl _) _).alloc (by omega) _⟩
theorem Chg.undrew1 {S : Nat → Prop} {a w : World} (h : Chg S a.drew w) : Chg S a w := ⟨h.os, h.tape, h.output, h.size, h.block⟩
section
variable {w : World} {col : Nat → Nat} {c Bv T s z : Nat} {V : List (List Int)} {a : Int} {t : TS}
/-- A volume that was written. -/
theorem Pa.vol {w1 w2 : World} {G : Nat} {V' : List (List Int)} (h : Pa w col c Bv T s V a z t) (hb : Below w.heap.size w w1) (hG : col G = c) (hv : Vo w2 Bv G s V') (hc : Chg (fun k => k = G) w1 w2) : (∃ col', Ext w col col' ∧ Pa w2 col' c Bv T s V' a z t) ∧ Chg (fun k => col k = c ∨ col k = c + 1) w w2 := by
  obtain ⟨_, h3, mb, h4⟩ := h.later hb
  refine ⟨⟨col, Ext.refl _ _, ⟨G, hv, hG⟩, h3, mb, h4.keep hc fun k hk e => ?_⟩, (Chg.of_below hb).trans hc fun k _ e => ?_⟩
  · subst e
    omega
  · subst e
    exact .inl hG
/-- A tape that was. -/
theorem Pa.tape {w1 w2 : World} {mb' : Option Nat} {t' : TS} (h : Pa w col c Bv T s V a z t) (hb : Below w.heap.size w w1) (ht : Tp w2 T mb' (fun k => col k = c + 1 ∨ w1.heap.size ≤ k) a z t') (hc : Chg (fun k => col k = c + 1) w1 w2) : (∃ col', Ext w col col' ∧ Pa w2 col' c Bv T s V a z t') ∧ Chg (fun k => col k = c ∨ col k = c + 1) w w2 := by
  refine ⟨⟨paint col w.heap.size (c + 1), Ext.paint w col (c + 1), ?_⟩, (Chg.of_below hb).trans hc fun k _ e => .inr e⟩
  have h1 := h.recol (Ext.paint w col (c + 1))
  have h2 := h1.vo
  obtain ⟨G, hv, hG⟩ := h2
  have hBlt := block_lt hv.blk
  have hGlt := block_lt hv.row
  have hs := hb.size
  rw [paint_old hGlt] at hG
  have hcv := h1.cv
  rw [paint_old hBlt] at hcv
  refine ⟨⟨G, (hv.later hb).keep hc (by omega) (by omega), by rw [paint_old hGlt]; exact hG⟩, by rw [paint_old hBlt]; exact hcv, mb', ht.mono fun k hk hl => ?_⟩
  rcases hk with hk | hk
  · by_cases h3 : k < w.heap.size
    · rw [paint_old h3]; exact hk
    · rw [paint_new (by omega)]
  · rw [paint_new (by omega)]
theorem dput_whole (h : Pa w col c Bv T s V a z t) (i : Int) (p : Option Addr) (m cp : Nat) (b : List Int) (hb : BL w p m cp b) (h0 : 0 < m → ∀ a, p = some a → col a.block = 0) (hc : 1 ≤ c) :
    Calls Try.prog 84 #[.agg #[.int .i64 i, .slice p m cp], .agg #[.pointer (some ⟨Bv, 0, none⟩), .pointer (some ⟨T, 0, none⟩)]] w (Wrote w col c Bv T s (tearV s V i b s) a z t) := by
  obtain ⟨g0, g1, hbw⟩ := two_boxes w #[.int .i64 i, .slice p m cp] (pcells Bv T) 97 55
  obtain ⟨G, hv, hG⟩ := h.vo
  have hput := put_any Bv G s V i p m cp b _ (hv.later hbw) (SlG.later hb hbw) (fun hm a ha e => by have := h0 hm a ha; rw [e] at this; omega)
  have H := Lib.hid h
  have HB := Lib.hid hbw
  have HG := Lib.hid hG
  clear g0 g1 hb h0 hv hbw h hG
  generalize tearV s V i b s = V' at *
  generalize tearE s V i b = e0 at *
  go_enter Try.func84, Try.ntmps84
  go_wp2_with fail
  refine hput.mono ?_
  rintro e w2 ⟨rfl, hv2, hc2⟩
  have HX := Lib.hid (H.out.vol HB.out HG.out hv2 hc2)
  clear hv2 hc2 hput
  go_wp2_with fail
  go_end0
  exact ⟨rfl, HX.out.1, HX.out.2⟩
theorem dput_torn (h : Pa w col c Bv T s V a z t) (i : Int) (p : Option Addr) (m cp : Nat) (b : List Int) (hb : BL w p m cp b) (h0 : 0 < m → ∀ a, p = some a → col a.block = 0) (hc : 1 ≤ c) (n : Int) :
    Calls Try.prog 83 #[.agg #[.int .i64 i, .slice p m cp], .agg #[.pointer (some ⟨Bv, 0, none⟩), .pointer (some ⟨T, 0, none⟩)], .int .i64 n] w (Wrote w col c Bv T s (tearV s V i b (kp n s)) a z t) := by
  obtain ⟨g0, g1, hbw⟩ := two_boxes w #[.int .i64 i, .slice p m cp] (pcells Bv T) 97 55
  obtain ⟨G, hv, hG⟩ := h.vo
  have hput := tear_any Bv G s V i n p m cp b _ (hv.later hbw) (SlG.later hb hbw) (fun hm a ha e => by have := h0 hm a ha; rw [e] at this; omega)
  have H := Lib.hid h
  have HB := Lib.hid hbw
  have HG := Lib.hid hG
  clear g0 g1 hb h0 hv hbw h hG
  generalize tearV s V i b (kp n s) = V' at *
  generalize tearE s V i b = e0 at *
  go_enter Try.func83, Try.ntmps83
  go_wp2_with fail
  refine hput.mono ?_
  rintro e w2 ⟨rfl, hv2, hc2⟩
  have HX := Lib.hid (H.out.vol HB.out HG.out hv2 hc2)
  clear hv2 hc2 hput
  go_wp2_with fail
  go_end0
  exact ⟨rfl, HX.out.1, HX.out.2⟩
theorem dgrow_whole (h : Pa w col c Bv T s V a z t) (p : Option Addr) (m cp : Nat) (b : List Int) (hb : BL w p m cp b) (h0 : 0 < m → ∀ a, p = some a → col a.block = 0) (hbig : t.len z + m ≤ 1000000) :
    Calls Try.prog 82 #[.agg #[.slice p m cp], .agg #[.pointer (some ⟨Bv, 0, none⟩), .pointer (some ⟨T, 0, none⟩)]] w (Wrote w col c Bv T s V a z (appT t b)) := by
  obtain ⟨g0, g1, hbw⟩ := two_boxes w #[.slice p m cp] (pcells Bv T) 80 55
  obtain ⟨mb, ht⟩ := h.tp
  have hadd := tape_add (ht.later hbw) p m cp b (SlG.later hb hbw) (fun hm a ha e => by have := h0 hm a ha; rw [this] at e; omega) hbig
  have H := Lib.hid h
  have HB := Lib.hid hbw
  clear g0 g1 hb h0 hbw h ht
  go_enter Try.func82, Try.ntmps82
  go_wp2_with fail
  refine hadd.mono ?_
  rintro e w2 ⟨rfl, ⟨mb', ht2⟩, hc2⟩
  have HX := Lib.hid (H.out.tape HB.out ht2 hc2)
  clear ht2 hc2 hadd
  go_wp2_with fail
  go_end0
  exact ⟨rfl, HX.out.1, HX.out.2⟩
set_option maxHeartbeats 1000000 in
theorem dgrow_torn (h : Pa w col c Bv T s V a z t) (p : Option Addr) (m cp : Nat) (b : List Int) (hb : BL w p m cp b) (h0 : 0 < m → ∀ a, p = some a → col a.block = 0) (hbig : t.len z + m ≤ 1000000) (n : Int) :
    Calls Try.prog 81 #[.agg #[.slice p m cp], .agg #[.pointer (some ⟨Bv, 0, none⟩), .pointer (some ⟨T, 0, none⟩)], .int .i64 n] w (Wrote w col c Bv T s V a z (appT t (b.take (kp n m)))) := by
  obtain ⟨g0, g1, hbw⟩ := two_boxes w #[.slice p m cp] (pcells Bv T) 80 55
  obtain ⟨mb, ht⟩ := h.tp
  have hkm : kp n m ≤ m := by have := kp_le n m (by omega); omega
  have HK := Lib.hid fun w => disk_kept n (m : Nat) w (by omega)
  have hcap := hb.cap
  have hadd := fun k => tape_add ((ht.later hbw).drewN k) p (kp n m) cp (b.take (kp n m)) (SlG.take (SlG.later hb (below_drewN hbw k)) _ hkm) (fun hm a ha e => by have := h0 (by omega) a ha; rw [this] at e; omega) (by have : t.f * z + t.B.length = t.len z := rfl; omega)
  have HADD := Lib.hid hadd
  have H := Lib.hid h
  have HB := Lib.hid hbw
  have a0 : ((w.alloc (.cells #[.slice p m cp] 80)).alloc (.cells (pcells Bv T) 55)).cell? ⟨w.heap.size, 0, none⟩ = some (.slice p m cp) := block_cell g0 rfl
  have a1 : ((w.alloc (.cells #[.slice p m cp] 80)).alloc (.cells (pcells Bv T) 55)).cell? ⟨w.heap.size + 1, 1, none⟩ = some (.pointer (some ⟨T, 0, none⟩)) := block_cell g1 rfl
  clear g0 g1 hb h0 hbw h ht hadd
  generalize appT t (b.take (kp n m)) = t' at *
  generalize kp n m = k at *
  have hk1 : (k : Int) ≤ m := by omega
  have hk2 : (k : Int) ≤ cp := by omega
  go_enter Try.func81, Try.ntmps81
  go_wp2_with fail
  generalize (w.alloc (.cells #[.slice p m cp] 80)).alloc (.cells (pcells Bv T) 55) = W at *
  go_still_tail 10, (by kernel_rfl)
  repeat still_step
  still_call (HK.out _)
  repeat still_step
  refine wpStill_nil ?_
  change wpList _ _ _ _ _ W.drew
  go_wp2_with fail
  have hadd := HADD.out 1
  rw [show W.drewN 1 = W.drew from rfl] at hadd
  refine hadd.mono ?_
  rintro e w2 ⟨rfl, ⟨mb', ht2⟩, hc2⟩
  have HX := Lib.hid (H.out.tape HB.out ht2 hc2.undrew1)
  clear ht2 hc2 hadd
  go_wp2_with fail
  go_end0
  exact ⟨rfl, HX.out.1, HX.out.2⟩
theorem ddrop_whole (h : Pa w col c Bv T s V a z t) (x : Int) (hbig : t.len z ≤ 1000000) :
    Calls Try.prog 86 #[.agg #[.int .i64 x], .agg #[.pointer (some ⟨Bv, 0, none⟩), .pointer (some ⟨T, 0, none⟩)]] w (Wrote w col c Bv T s V a z (dropT z t x)) := by
  obtain ⟨g0, g1, hbw⟩ := two_boxes w #[.int .i64 x] (pcells Bv T) 99 55
  obtain ⟨mb, ht⟩ := h.tp
  have hdo := tape_drop (ht.later hbw) x hbig
  have H := Lib.hid h
  have HB := Lib.hid hbw
  clear g0 g1 hbw h ht
  go_enter Try.func86, Try.ntmps86
  go_wp2_with fail
  refine hdo.mono ?_
  rintro e w2 ⟨rfl, ht2, hc2⟩
  have HX := Lib.hid (H.out.tape HB.out (ht2.mono fun k hk _ => .inl hk) hc2)
  clear ht2 hc2 hdo
  go_wp2_with fail
  go_end0
  exact ⟨rfl, HX.out.1, HX.out.2⟩
theorem ddrop_torn (h : Pa w col c Bv T s V a z t) (x n : Int) :
    Calls Try.prog 85 #[.agg #[.int .i64 x], .agg #[.pointer (some ⟨Bv, 0, none⟩), .pointer (some ⟨T, 0, none⟩)], .int .i64 n] w (Wrote w col c Bv T s V a z t) := by
  obtain ⟨g0, g1, hbw⟩ := two_boxes w #[.int .i64 x] (pcells Bv T) 99 55
  have HX : Hid ((∃ col', Ext w col col' ∧ Pa _ col' c Bv T s V a z t) ∧ Chg (fun k => col k = c ∨ col k = c + 1) w _) := Lib.hid ⟨⟨col, Ext.refl _ _, h.later hbw⟩, Chg.of_below hbw⟩
  clear g0 g1 hbw h
  go_enter Try.func85, Try.ntmps85
  go_wp2_with fail
  go_end0
  exact ⟨rfl, HX.out.1, HX.out.2⟩
theorem dcut_whole (h : Pa w col c Bv T s V a z t) (x : Int) (hbig : t.len z ≤ 1000000) :
    Calls Try.prog 88 #[.agg #[.int .i64 x], .agg #[.pointer (some ⟨Bv, 0, none⟩), .pointer (some ⟨T, 0, none⟩)]] w (Wrote w col c Bv T s V a z (cutT z t x)) := by
  obtain ⟨g0, g1, hbw⟩ := two_boxes w #[.int .i64 x] (pcells Bv T) 101 55
  obtain ⟨mb, ht⟩ := h.tp
  have hdo := tape_cut (ht.later hbw) x hbig
  have H := Lib.hid h
  have HB := Lib.hid hbw
  clear g0 g1 hbw h ht
  go_enter Try.func88, Try.ntmps88
  go_wp2_with fail
  refine hdo.mono ?_
  rintro e w2 ⟨rfl, ht2, hc2⟩
  have HX := Lib.hid (H.out.tape HB.out (ht2.mono fun k hk _ => .inl hk) hc2)
  clear ht2 hc2 hdo
  go_wp2_with fail
  go_end0
  exact ⟨rfl, HX.out.1, HX.out.2⟩
theorem dcut_torn (h : Pa w col c Bv T s V a z t) (x n : Int) :
    Calls Try.prog 87 #[.agg #[.int .i64 x], .agg #[.pointer (some ⟨Bv, 0, none⟩), .pointer (some ⟨T, 0, none⟩)], .int .i64 n] w (Wrote w col c Bv T s V a z t) := by
  obtain ⟨g0, g1, hbw⟩ := two_boxes w #[.int .i64 x] (pcells Bv T) 101 55
  have HX : Hid ((∃ col', Ext w col col' ∧ Pa _ col' c Bv T s V a z t) ∧ Chg (fun k => col k = c ∨ col k = c + 1) w _) := Lib.hid ⟨⟨col, Ext.refl _ _, h.later hbw⟩, Chg.of_below hbw⟩
  clear g0 g1 hbw h
  go_enter Try.func87, Try.ntmps87
  go_wp2_with fail
  go_end0
  exact ⟨rfl, HX.out.1, HX.out.2⟩
/-- A write as a value whose methods are known. -/
def wty : Dw → TypeId
  | .put _ _ => 97
  | .grow _ => 80
  | .drop _ => 99
  | .cut _ => 101
def wval : Pw → Value
  | ⟨.put i b, p, c⟩ => .agg #[.int .i64 i, .slice p b.length c]
  | ⟨.grow b, p, c⟩ => .agg #[.slice p b.length c]
  | ⟨.drop x, _, _⟩ => .agg #[.int .i64 x]
  | ⟨.cut x, _, _⟩ => .agg #[.int .i64 x]
theorem Pw.val_eq (y : Pw) : y.val = .iface (wty y.x) (wval y) := by
  obtain ⟨x, p, c⟩ := y
  cases x <;> rfl
def wholeF : Dw → FuncId
  | .put _ _ => 84
  | .grow _ => 82
  | .drop _ => 86
  | .cut _ => 88
def tornF : Dw → FuncId
  | .put _ _ => 83
  | .grow _ => 81
  | .drop _ => 85
  | .cut _ => 87
theorem whole_meth (y : Pw) (n : Nat) (w : World) : (method (n + 1) (wty y.x) (wval y) "pledge/disk.whole").run Try.prog w = .ok (wholeF y.x, wval y) w := by
  obtain ⟨x, p, c⟩ := y
  cases x <;> kernel_rfl
theorem torn_meth (y : Pw) (n : Nat) (w : World) : (method (n + 1) (wty y.x) (wval y) "pledge/disk.torn").run Try.prog w = .ok (tornF y.x, wval y) w := by
  obtain ⟨x, p, c⟩ := y
  cases x <;> kernel_rfl
theorem whole_ahead (y : Pw) (n : Nat) (w : World) : (nilAhead (n + 1) (wty y.x) (wval y) "pledge/disk.whole").run Try.prog w = .ok (some false) w := by
  obtain ⟨x, p, c⟩ := y
  cases x <;> kernel_rfl
theorem torn_ahead (y : Pw) (n : Nat) (w : World) : (nilAhead (n + 1) (wty y.x) (wval y) "pledge/disk.torn").run Try.prog w = .ok (some false) w := by
  obtain ⟨x, p, c⟩ := y
  cases x <;> kernel_rfl
theorem whole_enter (x : Dw) (args : Array Value) (w : World) : (callFunc (wholeF x) args).run Try.prog w = .ok (.enter (wholeF x) args) w := by
  cases x <;> kernel_rfl
theorem torn_enter (x : Dw) (args : Array Value) (w : World) : (callFunc (tornF x) args).run Try.prog w = .ok (.enter (tornF x) args) w := by
  cases x <;> kernel_rfl
/-- What a write does, whichever it is. -/
theorem whole_any (h : Pa w col c Bv T s V a z t) (hc : 1 ≤ c) (y : Pw) (hy : y.ok w col) (hbig : t.len z + y.x.wt ≤ 1000000) :
    Calls Try.prog (wholeF y.x) #[wval y, .agg #[.pointer (some ⟨Bv, 0, none⟩), .pointer (some ⟨T, 0, none⟩)]] w (Wrote w col c Bv T s (dwV s V y.x) a z (dwT z t y.x)) := by
  obtain ⟨x, p, cp⟩ := y
  cases x with
  | put i b => exact dput_whole h i p _ cp b hy.bl hy.c0 hc
  | grow b => exact dgrow_whole h p _ cp b hy.bl hy.c0 hbig
  | drop x => exact ddrop_whole h x (by simp only [Dw.wt] at hbig; omega)
  | cut x => exact dcut_whole h x (by simp only [Dw.wt] at hbig; omega)
theorem torn_any (h : Pa w col c Bv T s V a z t) (hc : 1 ≤ c) (y : Pw) (hy : y.ok w col) (hbig : t.len z + y.x.wt ≤ 1000000) (n : Int) :
    Calls Try.prog (tornF y.x) #[wval y, .agg #[.pointer (some ⟨Bv, 0, none⟩), .pointer (some ⟨T, 0, none⟩)], .int .i64 n] w (Wrote w col c Bv T s (dwVn s n V y.x) a z (dwTn n t y.x)) := by
  obtain ⟨x, p, cp⟩ := y
  cases x with
  | put i b => exact dput_torn h i p _ cp b hy.bl hy.c0 hc n
  | grow b => exact dgrow_torn h p _ cp b hy.bl hy.c0 hbig n
  | drop x => exact ddrop_torn h x n
  | cut x => exact dcut_torn h x n
end
end Go.Proofs.Ytdkpjaobfohdfaa
