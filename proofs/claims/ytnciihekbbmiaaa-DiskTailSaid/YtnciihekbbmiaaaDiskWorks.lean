/- Disks since a world: what they leave of what was there; the chapter's example. -/
import Derived.Test.YtnciihekbbmiaaaDiskFew
import Derived.Lib.SlBytesConst
namespace Go.Proofs.Ytnciihekbbmiaaa
open Go.RowKit Go.ChangeShapes Go.WideShapes
set_option linter.unusedVariables false
set_option maxRecDepth 10000
set_option linter.unusedSimpArgs false

/-- All that lay in W has colour 0, and lies as it did. -/
structure Hd (W w : World) (col : Nat → Nat) : Prop where
  zero : ∀ k, k < W.heap.size → col k = 0
  below : Below W.heap.size W w
theorem Hd.start (W : World) : Hd W W (fun _ => 0) := ⟨fun _ _ => rfl, Below.refl _ _⟩
theorem Hd.ext {W w : World} {col col' : Nat → Nat} (h : Hd W w col) (he : Ext w col col') : Hd W w col' := ⟨fun k hk => (he k (Nat.lt_of_lt_of_le hk h.below.size)).trans (h.zero k hk), h.below⟩
theorem Hd.later {W w w' : World} {col : Nat → Nat} (h : Hd W w col) (hb : Below w.heap.size w w') : Hd W w' col := ⟨h.zero, h.below.trans (hb.mono h.below.size)⟩
theorem Hd.turn {W w w' : World} {col : Nat → Nat} {c : Nat} (h : Hd W w col) (hc : Chg (own col c) w w') (h0 : 1 ≤ c) : Hd W w' col :=
  ⟨h.zero, (hc.mono (T := fun k => W.heap.size ≤ k) fun k _ hk => by
    rcases Nat.lt_or_ge k W.heap.size with h1 | h1
    · have := h.zero k h1
      unfold own at hk
      omega
    · exact h1).below h.below h.below.size fun k hk => hk⟩
/-- A disk behind an act. -/
theorem Hd.act {W w w' : World} {col : Nat → Nat} {c B : Nat} {d : DS} (h : Hd W w col) (ht : Turned w col c B d w') (h0 : 1 ≤ c) : ∃ col', Ext w col col' ∧ Dk w' col' c B d ∧ Hd W w' col' ∧ Chg (own col c) w w' := by
  obtain ⟨col', he, hd, hc⟩ := ht
  have h1 := h.turn hc h0
  exact ⟨col', he, hd, ⟨fun k hk => (he k (Nat.lt_of_lt_of_le hk h.below.size)).trans (h.zero k hk), h1.below⟩, hc⟩
theorem Dk.c0 {w : World} {col : Nat → Nat} {c B : Nat} {d : DS} (h : Dk w col c B d) : 1 ≤ c := by
  obtain ⟨A, h⟩ := h
  exact h.c0
/-- Two bytes of a constant, in a block of their own. -/
theorem two_bytes (w : World) (x y : Int) : BL (w.alloc (.cells #[.int .u8 x, .int .u8 y] 5 (2, 3))) (some ⟨w.heap.size, 0, none⟩) 2 2 [x, y] ∧ Below w.heap.size w (w.alloc (.cells #[.int .u8 x, .int .u8 y] 5 (2, 3))) := by
  refine ⟨BL.mk rfl (Nat.le_refl _) (by unfold maxLen; omega) (fun e => by cases e) fun _ => ⟨w.heap.size, 0, rfl, by simp, fun j hj => ?_⟩, (Below.refl _ _).alloc (Nat.le_refl _) _⟩
  have h := alloc_block w (.cells #[.int .u8 x, .int .u8 y] 5 (2, 3))
  have h1 : j = 0 ∨ j = 1 := by omega
  rcases h1 with rfl | rfl <;> (show World.cell? _ ⟨w.heap.size, _, none⟩ = _; unfold World.cell?; simp only [h]; rfl)
/-- An append of two bytes of a constant. -/
theorem append_two {W w : World} {col : Nat → Nat} {c B : Nat} {d : DS} (hh : Hd W w col) (h : Dk w col c B d) (hbig : d.tot + 65536 ≤ 1000000) (hL : d.L.length < 1000000) (x y : Int) :
    Calls Try.prog 24 #[.pointer (some ⟨B, 0, none⟩), .slice (some ⟨w.heap.size, 0, none⟩) 2 2] (w.alloc (.cells #[.int .u8 x, .int .u8 y] 5 (2, 3))) fun e w' => e = .returned (.int .i64 (d.addE [x, y])) ∧ ∃ col', Dk w' col' c B (d.app [x, y]) ∧ Hd W w' col' := by
  obtain ⟨hb, hw⟩ := two_bytes w x y
  have he := Ext.paint w col 0
  refine (disk_append ((h.recol he).later hw) hbig hL _ 2 2 [x, y] hb (fun _ a ha ho => ?_)).mono ?_
  · cases ha
    have : paint col w.heap.size 0 w.heap.size = 0 := paint_new (Nat.le_refl _)
    unfold own at ho
    simp only at ho
    rw [this] at ho
    have := h.c0
    omega
  · rintro e w' ⟨rfl, ht⟩
    obtain ⟨col', _, h1, h2, _⟩ := ((hh.ext he).later hw).act ht h.c0
    exact ⟨rfl, col', h1, h2⟩
def wd0 : DS := DS.new 1 8 64 100
def wd1 : DS := wd0.app [97, 98]
def wd2 : DS := wd1.sync
def wd3 : DS := wd2.app [99, 100]
def wd4 : DS := wd3.app [101, 102]
def wd5 : DS := wd4.crash 1 1
theorem wd_facts : (wd0.tot + 65536 ≤ 1000000 ∧ wd0.L.length < 1000000) ∧ (wd1.tot ≤ 1000000 ∧ wd1.L.length ≤ 1000000) ∧ (wd2.tot + 65536 ≤ 1000000 ∧ wd2.L.length < 1000000) ∧ (wd3.tot + 65536 ≤ 1000000 ∧ wd3.L.length < 1000000) ∧ (wd4.tot ≤ 1000000 ∧ wd4.L.length ≤ 1000000) ∧ wd4.L.length = 2 ∧ wd5.L.length = 0 ∧ bytesT wd5.z wd5.sT 0 = [97, 98, 99, 100, 101] ∧ wd5.sT.len wd5.z ≤ 1000000 := by
  decide +kernel
theorem wd_str : strOfNums [97, 98, 99, 100, 101] = ⟨#[97, 98, 99, 100, 101]⟩ := by decide +kernel
set_option maxHeartbeats 2000000 in
theorem disk_works (w : World) : Calls Try.prog 9 #[] w fun e w' => e = .returned (.bool true) ∧ Below w.heap.size w w' := by
  have hn := disk_new 1 8 64 100 w
  obtain ⟨⟨f0, f0'⟩, ⟨f1, f1'⟩, ⟨f2, f2'⟩, ⟨f3, f3'⟩, ⟨f4, f4'⟩, f5, f6, f7, f8⟩ := wd_facts
  have kc := fun (w : World) (C : Array Value) (n c : Nat) => Lib.run_convert_bytes_const (P := Try.prog) w 31 5 C n c Try.underlying31 Try.underlying5
  have F0 := Lib.hid f0
  have F0' := Lib.hid f0'
  have F1 := Lib.hid f1
  have F1' := Lib.hid f1'
  have F2 := Lib.hid f2
  have F2' := Lib.hid f2'
  have F3 := Lib.hid f3
  have F3' := Lib.hid f3'
  have F4 := Lib.hid f4
  have F4' := Lib.hid f4'
  have F5 := Lib.hid f5
  have F6 := Lib.hid f6
  have F7 := Lib.hid f7
  have F8 := Lib.hid f8
  clear f0 f0' f1 f1' f2 f2' f3 f3' f4 f4' f5 f6 f7 f8
  go_enter Try.func9, Try.ntmps9
  go_wp2_with fail
  refine hn.mono ?_
  rintro e w1 ⟨B, rfl, hbo, _, hb1⟩
  obtain ⟨col1, he1, hd1⟩ := hbo (fun _ => 0) 1 (by omega)
  have HH1 : Hid (Hd w w1 col1) := Lib.hid (((Hd.start w).ext he1).later hb1)
  have h1 := append_two HH1.out (d := wd0) hd1 F0.out F0'.out 97 98
  clear hn hbo he1 hd1 hb1
  go_wp2_with fail
  refine h1.mono ?_
  rintro e w2 ⟨rfl, col2, hd2, hh2⟩
  have h2 := disk_sync (d := wd1) hd2 F1.out F1'.out
  have HH2 := Lib.hid hh2
  clear h1 hd2 hh2 HH1
  go_wp2_with fail
  refine h2.mono ?_
  rintro e w3 ⟨rfl, ht3⟩
  obtain ⟨col3, _, hd3, hh3, _⟩ := HH2.out.act ht3 (by omega)
  have h3 := append_two hh3 (d := wd2) hd3 F2.out F2'.out 99 100
  clear h2 ht3 hd3 hh3 HH2
  go_wp2_with fail
  refine h3.mono ?_
  rintro e w4 ⟨rfl, col4, hd4, hh4⟩
  have h4 := append_two hh4 (d := wd3) hd4 F3.out F3'.out 101 102
  clear h3 hd4 hh4
  go_wp2_with fail
  refine h4.mono ?_
  rintro e w5 ⟨rfl, col5, hd5, hh5⟩
  have h5 := disk_pending (d := wd4) hd5
  rw [F5.out] at h5
  have h6 := disk_crash (d := wd4) hd5 F4.out F4'.out 1 1
  have HH5 := Lib.hid hh5
  clear h4 hd5 hh5
  go_wp2_with fail
  refine h5.mono ?_
  rintro e w6 ⟨rfl, rfl⟩
  clear h5
  go_wp2_with fail
  refine h6.mono ?_
  rintro e w7 ⟨rfl, ht7⟩
  obtain ⟨col7, _, hd7, hh7, _⟩ := HH5.out.act ht7 (by omega)
  have h7 := disk_bytes (d := wd5) hd7 F8.out 0
  rw [F7.out] at h7
  have HD7 := Lib.hid hd7
  have HH7 := Lib.hid hh7
  clear h6 ht7 hd7 hh7 HH5
  go_wp2_with fail
  refine h7.mono ?_
  rintro e w8 ⟨p, cp, rfl, hbl, hb8, _⟩
  have hcv0 := conv_bl hbl
  rw [wd_str] at hcv0
  have hcv : (convert 31 9 (.slice p 5 cp)).run Try.prog w8 = .ok (.string ⟨#[97, 98, 99, 100, 101]⟩) w8 := hcv0
  clear hcv0
  have h8 := disk_pending (d := wd5) (HD7.out.later hb8)
  rw [F6.out] at h8
  have HB8 := Lib.hid (HH7.out.later hb8).below
  clear h7 hbl hb8
  go_wp2_with fail
  refine h8.mono ?_
  rintro e w9 ⟨rfl, rfl⟩
  go_wp2_with fail
  go_ret
  exact ⟨rfl, HB8.out⟩
end Go.Proofs.Ytnciihekbbmiaaa
