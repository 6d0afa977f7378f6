/- The document's reading of a text: each key's text is held against it. -/
import Derived.Test.YthkfijgdopjjjaaDoorKeyRefText
namespace Go.Proofs.YthkfijgdopjjjaaDoor
open Go.RowKit Go.ChangeShapes Go.WideShapes
set_option linter.unusedVariables false

/-- No such key has the text L. -/
def NoKey (L : List UInt8) (P : K → Prop) : Prop := ∀ k, Canon k → P k → textL k ≠ L
/-- What the document says of the text L. -/
def Says (L : List UInt8) (e : Ending) : Prop :=
  (∃ k, Canon k ∧ textL k = L ∧ e = .returned (.tuple #[kv k, .bool true])) ∨ (NoKey L (fun _ => True) ∧ e = .returned (.tuple #[kv (0, 0, 0), .bool false]))
theorem below_drewN' {B : Nat} {a w : World} (h : Below B a w) (q : Nat) : Below B a (w.drewN q) := ⟨h.os, h.tape, h.output, h.size, h.block⟩
theorem bytes_self (b : ByteArray) : (b == b) = true := by
  obtain ⟨⟨x⟩⟩ := b
  show ((⟨x⟩ : Array UInt8) == ⟨x⟩) = true
  simp
theorem arr_ne {A B : List UInt8} (h : ¬ A = B) : ¬ (⟨A.toArray⟩ : ByteArray) = ⟨B.toArray⟩ := fun e => h (by have := congrArg (fun b : ByteArray => b.data.toList) e; simpa using this)
theorem extract_arr (A : List UInt8) (m : Nat) : (⟨A.toArray⟩ : ByteArray).extract 0 m = ⟨(A.take m).toArray⟩ := by
  rw [Lib.extract_eq]
  simp
/-- What stands ahead of a warehouse's digits. -/
def ahead (l b : Int) : List UInt8 := ((wordL l ++ [32]) ++ digL b.toNat) ++ [32]
theorem text_ahead (l b c : Int) (hl : l = 1 ∨ l = 2) : textL (l, b, c) = ahead l b ++ digL c.toNat := by
  unfold textL ahead
  rw [if_pos hl]
  simp
theorem ahead_len (l b : Int) : (ahead l b).length ≤ 10 := by
  have h1 := word_len l
  have h2 := dig_len b.toNat
  unfold ahead
  simp only [List.length_append, List.length_cons, List.length_nil]
  omega
theorem text_zero (l b : Int) (hl : l = 1 ∨ l = 2) : (textL (l, b, 0)).length = (ahead l b).length + 1 ∧ (textL (l, b, 0)).take (ahead l b).length = ahead l b := by
  rw [text_ahead l b 0 hl]
  constructor
  · rw [List.length_append]; rfl
  · simp
set_option maxHeartbeats 2000000 in
set_option maxRecDepth 100000 in
theorem refparse_any (L : List UInt8) (hl : L.length ≤ 1000) (W : World) :
    Calls Tryd.prog 22 #[.string ⟨L.toArray⟩] W fun e w' => Says L e ∧ Below W.heap.size W w' := by
  have HT := Lib.hid fun (k : K) (hk : Kok k) W => rtext_any k hk W
  have hsl : ((⟨L.toArray⟩ : ByteArray).size : Int) ≤ 1000 := by rw [size_arr]; omega
  have HSZ := Lib.hid (size_arr L)
  generalize hs : (⟨L.toArray⟩ : ByteArray) = s at *
  have HS := Lib.hid hs
  clear hs hl
  go_enter Tryd.func22, Tryd.ntmps22
  go_wp2_with fail
  have HB0 := Lib.hid ((Below.refl W.heap.size W).alloc (Nat.le_refl _) (.cells #[.int .u8 0, .int .u8 0, .int .u8 0] 23))
  have HR0 : Hid ((W.alloc (.cells #[.int .u8 0, .int .u8 0, .int .u8 0] 23)).heap[W.heap.size]? = some (.cells #[.int .u8 0, .int .u8 0, .int .u8 0] 23 (0, 0))) := Lib.hid (alloc_block _ _)
  generalize W.alloc (.cells #[.int .u8 0, .int .u8 0, .int .u8 0] 23) = W0 at *
  generalize hR : W.heap.size = R at *
  have HRR := Lib.hid hR
  clear hR
  go_loopg [4] 4 (fun g i wr => ∃ l : Nat, 1 ≤ l ∧ l ≤ 5 ∧ g = 5 - l ∧ i = .int .i64 l ∧ Hid (Below R W wr) ∧ Hid (wr.heap[R]? = some (.cells #[.int .u8 0, .int .u8 0, .int .u8 0] 23 (0, 0))) ∧ Hid (NoKey L fun k => k.1 < l))
  case atStart => exact ⟨1, Nat.le_refl _, by omega, rfl, rfl, HB0, HR0, Lib.hid fun k hk h => by have := hk.1; dsimp only at h; omega⟩
  case round =>
    clear HB0 HR0
    obtain ⟨l, hl1, hl5, rfl, rfl, HB, HR, HN⟩ := hrel
    by_cases hlt : l < 5
    · have hle : (l : Int) ≤ 4 := by omega
      go_wp2_with fail
      go_loopg [5] 256 (fun g i wr => ∃ b : Nat, b ≤ 256 ∧ g = 256 - b ∧ i = .int .i64 b ∧ Hid (Below R W wr) ∧ Hid (wr.heap[R]? = some (.cells #[.int .u8 0, .int .u8 0, .int .u8 0] 23 (0, 0))) ∧ Hid (NoKey L fun k => k.1 = l ∧ k.2.1 < b))
      case atStart => exact ⟨0, Nat.zero_le _, rfl, rfl, HB, HR, Lib.hid fun k hk h => by have := hk.2.1; dsimp only at h; omega⟩
      case round =>
        clear HB HR
        obtain ⟨b, hb, rfl, rfl, HB, HR, HN2⟩ := hrel
        by_cases hbs : b < 256
        · have hbs' : (b : Int) < 256 := by omega
          have HT1 := Lib.hid fun W => HT.out ((l : Int), (b : Int), 0) ⟨by dsimp only; omega, by dsimp only; omega, by dsimp only; omega⟩ W
          have HW1 := Lib.hid (HB.out.alloc (by have := HB.out.size; rw [HRR.out] at this; exact this) (.cells #[.int .u8 (l : Int), .int .u8 (b : Int), .int .u8 0] 23))
          have HR1 := Lib.hid (block_later HR.out ((Below.refl _ _).alloc (Nat.le_refl _) (.cells #[.int .u8 (l : Int), .int .u8 (b : Int), .int .u8 0] 23)))
          have HX1 : Hid ((wr.alloc (.cells #[.int .u8 (l : Int), .int .u8 (b : Int), .int .u8 0] 23)).heap[wr.heap.size]? = some (.cells #[.int .u8 (l : Int), .int .u8 (b : Int), .int .u8 0] 23 (0, 0))) := Lib.hid (alloc_block _ _)
          have hXR : R < wr.heap.size := block_lt HR.out
          go_wp2_with fail
          refine (HT1.out _).mono ?_
          rintro e w2 ⟨rfl, h⟩
          have HW2 := Lib.hid (HW1.out.trans (h.mono (by have := HW1.out.size; rw [HRR.out] at this; exact this)))
          have HR2 := Lib.hid (block_later HR1.out h)
          have HX2 := Lib.hid (block_later HX1.out h)
          generalize wr.heap.size = X at *
          clear h HW1 HR1 HX1 HB HR HT1
          have x0 := block_cell (j := 0) HX2.out rfl
          have x1 := block_cell (j := 1) HX2.out rfl
          have x2 := block_cell (j := 2) HX2.out rfl
          have r0 := block_cell (j := 0) HR2.out rfl
          have r1 := block_cell (j := 1) HR2.out rfl
          have r2 := block_cell (j := 2) HR2.out rfl
          have z0 := block_free 0 HR2.out
          have z1 := block_free 1 HR2.out
          have z2 := block_free 2 HR2.out
          by_cases h2 : 2 < l
          · have h2' : (2 : Int) < l := by omega
            by_cases ht : textL ((l : Int), (b : Int), 0) = L
            · have hts : (⟨(textL ((l : Int), (b : Int), 0)).toArray⟩ : ByteArray) = s := by rw [ht]; exact HS.out
              have HSAY : Hid (Says L (.returned (.tuple #[.agg #[.int .u8 (l : Int), .int .u8 (b : Int), .int .u8 0], .bool true]))) := Lib.hid (.inl ⟨((l : Int), (b : Int), 0), ⟨by dsimp only; omega, by dsimp only; omega, by dsimp only; omega, fun _ => rfl⟩, ht, rfl⟩)
              rw [hts]
              clear ht hts
              have hss : (s == s) = true := bytes_self s
              have hss' : (s.toList == s.toList) = true := by rw [← beq_toListBytes]; exact hss
              go_wp2_with fail
              have HF := key_put (.int .u8 (l : Int)) (.int .u8 (b : Int)) (.int .u8 0) HR2.out
              (try simp only [Exit.inBlock, Exit.then]); refine bodyPost_ret (results_key rfl _ _ R (l : Int) (b : Int) 0 _ rfl rfl (block_cell HF rfl) (block_cell HF rfl) (block_cell HF rfl)) rfl ?_
              exact ⟨HSAY.out, by rw [HRR.out]; exact ((HW2.out.setCell (p := ⟨R, 0, none⟩) (Nat.le_refl _) _).setCell (p := ⟨R, 1, none⟩) (Nat.le_refl _) _).setCell (p := ⟨R, 2, none⟩) (Nat.le_refl _) _⟩
            · have hne := bytes_ne _ _ (arr_ne ht)
              rw [HS.out] at hne
              have hne' : ((⟨(textL ((l : Int), (b : Int), 0)).toArray⟩ : ByteArray).toList == s.toList) = false := by rw [← beq_toListBytes]; exact hne
              have HNN : Hid (NoKey L fun k => k.1 = l ∧ k.2.1 < (b + 1 : Nat)) := Lib.hid fun k hk h => by
                dsimp only at h
                by_cases hkb : k.2.1 < b
                · exact HN2.out k hk ⟨h.1, hkb⟩
                · have : k = ((l : Int), (b : Int), 0) := Prod.ext h.1 (Prod.ext (by dsimp only; omega) (hk.2.2.2 (by omega)))
                  rw [this]; exact ht
              clear ht
              generalize (⟨(textL ((l : Int), (b : Int), 0)).toArray⟩ : ByteArray) = t at *
              go_wp2_with fail
              go_quiet (fail)
              go_wp2_with fail
              go_roundg (256 - (b + 1))
              case measure => omega
              case rel => exact ⟨b + 1, by omega, rfl, by go_num, Lib.hid (below_drewN' HW2.out _), Lib.hid HR2.out, HNN⟩
          · have h2' : ¬ (2 : Int) < l := by omega
            have hl12 : (l : Int) = 1 ∨ (l : Int) = 2 := by omega
            obtain ⟨ht1, ht2⟩ := text_zero l b hl12
            have htl : (⟨(textL ((l : Int), (b : Int), 0)).toArray⟩ : ByteArray).size = (ahead l b).length + 1 := by rw [size_arr]; exact ht1
            have hex : (⟨(textL ((l : Int), (b : Int), 0)).toArray⟩ : ByteArray).extract 0 (ahead l b).length = ⟨(ahead l b).toArray⟩ := by rw [extract_arr, ht2]
            have hal := ahead_len l b
            have HTA := Lib.hid fun c => text_ahead l b c hl12
            have HHL : Hid (∀ k : K, k.1 = l → k.2.1 = b → textL k = ahead l b ++ digL k.2.2.toNat) := Lib.hid fun k h1 h2 => by
              have : k = ((l : Int), (b : Int), k.2.2) := Prod.ext h1 (Prod.ext h2 rfl)
              rw [this]; exact text_ahead l b _ hl12
            generalize hP : ahead (l : Int) b = P at *
            have HP := Lib.hid hP
            clear hP ht1 ht2
            generalize hm : P.length = m at *
            have HM := Lib.hid hm
            clear hm
            generalize (⟨(textL ((l : Int), (b : Int), 0)).toArray⟩ : ByteArray) = t at *
            have htz : (t.size : Int) = (m : Int) + 1 := by omega
            by_cases hsm : s.size < m
            · have hsm' : (s.size : Int) < m := by omega
              have HNN : Hid (NoKey L fun k => k.1 = l ∧ k.2.1 < (b + 1 : Nat)) := Lib.hid fun k hk h => by
                dsimp only at h
                by_cases hkb : k.2.1 < b
                · exact HN2.out k hk ⟨h.1, hkb⟩
                · intro e
                  have e1 := HHL.out k h.1 (by omega)
                  have e2 := congrArg List.length (e1.symm.trans e)
                  rw [List.length_append, HM.out, ← HSZ.out] at e2
                  omega
              clear hsm hex
              go_wp2_with fail
              have hwm : IntKind.i64.wrap (m : Int) = m := by simp [IntKind.wrap, IntKind.bits, IntKind.signed]; omega
              have hd2 : decide ((2 : Int) < l) = false := by simp; omega
              have hd3 : decide ((s.size : Int) < m) = true := by simp; omega
              go_quiet (fail)
              go_wp2_with fail
              go_roundg (256 - (b + 1))
              case measure => omega
              case rel => exact ⟨b + 1, by omega, rfl, by go_num, Lib.hid (below_drewN' HW2.out _), Lib.hid HR2.out, HNN⟩
            · have hsm' : ¬ (s.size : Int) < m := by omega
              have hm0 : (0 : Int) ≤ m := by omega
              have hm1 : (m : Int) ≤ s.size := by omega
              have hm2 : (m : Int) ≤ (m : Int) + 1 := by omega
              have hm10 : (m : Int) ≤ 10 := by omega
              have hse : s.extract 0 m = ⟨(L.take m).toArray⟩ := by rw [← HS.out]; exact extract_arr L m
              by_cases hpre : L.take m = P
              · rw [hpre] at hse
                have hpp := bytes_self ⟨P.toArray⟩
                have hpp' : ((⟨P.toArray⟩ : ByteArray).toList == (⟨P.toArray⟩ : ByteArray).toList) = true := by rw [← beq_toListBytes]; exact hpp
                generalize (⟨P.toArray⟩ : ByteArray) = pb at *
                clear hsm hpre
                go_wp2_with fail
                have hwm : IntKind.i64.wrap (m : Int) = m := by simp [IntKind.wrap, IntKind.bits, IntKind.signed]; omega
                have hd2 : decide ((2 : Int) < l) = false := by simp; omega
                have hd3 : decide ((s.size : Int) < m) = false := by simp; omega
                have hd4 : decide (s.size < m) = false := by simp; omega
                have hm3 : m ≤ s.size := by omega
                have hm4 : m ≤ m + 1 := by omega
                have hwm1 : IntKind.i64.wrap ((m : Int) + 1) = (m : Int) + 1 := by simp [IntKind.wrap, IntKind.bits, IntKind.signed]; omega
                go_quiet (fail)
                have HW3 := Lib.hid (below_drewN' HW2.out nq)
                have HR3 : Hid ((w2.drewN nq).heap[R]? = some (.cells #[.int .u8 0, .int .u8 0, .int .u8 0] 23 (0, 0))) := Lib.hid HR2.out
                have HX3 : Hid ((w2.drewN nq).heap[X]? = some (.cells #[.int .u8 (l : Int), .int .u8 (b : Int), .int .u8 0] 23 (0, 0))) := Lib.hid HX2.out
                clear x0 x1 x2 r0 r1 r2 z0 z1 z2 HW2 HR2 HX2 htz htl hex hse hpp hpp' hm0 hm1 hm2 hsm' hwm hd2 hd3 hd4 hm3 hm4 hwm1
                go_wp2_with fail
                go_loopg [8] 256 (fun g i wi => ∃ c : Nat, c ≤ 256 ∧ g = 256 - c ∧ i = .int .i64 c ∧ Hid (Below R W wi) ∧ Hid (wi.heap[R]? = some (.cells #[.int .u8 0, .int .u8 0, .int .u8 0] 23 (0, 0))) ∧ (∃ v : Int, Hid (wi.heap[X]? = some (.cells #[.int .u8 (l : Int), .int .u8 (b : Int), .int .u8 v] 23 (0, 0)))) ∧ Hid (NoKey L fun k => k.1 = l ∧ k.2.1 = b ∧ k.2.2 < c))
                case atStart => exact ⟨0, Nat.zero_le _, rfl, rfl, HW3, HR3, ⟨0, HX3⟩, Lib.hid fun k hk h => by have := hk.2.2.1; dsimp only at h; omega⟩
                case round =>
                  clear HW3 HR3 HX3
                  obtain ⟨c, hc, rfl, rfl, HB, HR, ⟨v, HX⟩, HN3⟩ := hrel
                  by_cases hcs : c < 256
                  · have hcs' : (c : Int) < 256 := by omega
                    have x0 := block_cell (j := 0) HX.out rfl
                    have x1 := block_cell (j := 1) HX.out rfl
                    have x2 := block_cell (j := 2) HX.out rfl
                    have f2 := block_free 2 HX.out
                    have HT1 := Lib.hid fun W => HT.out ((l : Int), (b : Int), (c : Int)) ⟨by dsimp only; omega, by dsimp only; omega, by dsimp only; omega⟩ W
                    have HB1 := Lib.hid (HB.out.setCell (p := ⟨X, 2, none⟩) (by exact Nat.le_of_lt hXR) (.int .u8 (c : Int)))
                    have HX1 := Lib.hid (block_put 2 (.int .u8 (c : Int)) HX.out)
                    have HR1 : Hid ((wr.setCell ⟨X, 2, none⟩ (.int .u8 (c : Int))).heap[R]? = some (.cells #[.int .u8 0, .int .u8 0, .int .u8 0] 23 (0, 0))) := Lib.hid ((Below.heap_setCell _ _ _ _ (by show R ≠ X; omega)).trans HR.out)
                    go_wp2_with fail
                    refine (HT1.out _).mono ?_
                    rintro e w4 ⟨rfl, h⟩
                    have HW4 := Lib.hid (HB1.out.trans (h.mono (by have := HB1.out.size; rw [HRR.out] at this; exact this)))
                    have HR4 := Lib.hid (block_later HR1.out h)
                    have HX4 : Hid (w4.heap[X]? = some (.cells #[.int .u8 (l : Int), .int .u8 (b : Int), .int .u8 (c : Int)] 23 (0, 0))) := Lib.hid (block_later HX1.out h)
                    clear h x0 x1 x2 f2 HB1 HX1 HR1 HB HX HR HT1
                    by_cases ht : textL ((l : Int), (b : Int), (c : Int)) = L
                    · have hts : (⟨(textL ((l : Int), (b : Int), (c : Int))).toArray⟩ : ByteArray) = s := by rw [ht]; exact HS.out
                      have HSAY : Hid (Says L (.returned (.tuple #[.agg #[.int .u8 (l : Int), .int .u8 (b : Int), .int .u8 (c : Int)], .bool true]))) := Lib.hid (.inl ⟨((l : Int), (b : Int), (c : Int)), ⟨by dsimp only; omega, by dsimp only; omega, by dsimp only; omega, fun h => by dsimp only at h; omega⟩, ht, rfl⟩)
                      rw [hts]
                      clear ht hts
                      have hss : (s == s) = true := bytes_self s
                      have hss' : (s.toList == s.toList) = true := by rw [← beq_toListBytes]; exact hss
                      have x0 := block_cell (j := 0) HX4.out rfl
                      have x1 := block_cell (j := 1) HX4.out rfl
                      have x2 := block_cell (j := 2) HX4.out rfl
                      have r0 := block_cell (j := 0) HR4.out rfl
                      have r1 := block_cell (j := 1) HR4.out rfl
                      have r2 := block_cell (j := 2) HR4.out rfl
                      have z0 := block_free 0 HR4.out
                      have z1 := block_free 1 HR4.out
                      have z2 := block_free 2 HR4.out
                      go_wp2_with fail
                      have HF := key_put (.int .u8 (l : Int)) (.int .u8 (b : Int)) (.int .u8 (c : Int)) HR4.out
                      (try simp only [Exit.inBlock, Exit.then]); refine bodyPost_ret (results_key rfl _ _ R (l : Int) (b : Int) (c : Int) _ rfl rfl (block_cell HF rfl) (block_cell HF rfl) (block_cell HF rfl)) rfl ?_
                      exact ⟨HSAY.out, by rw [HRR.out]; exact ((HW4.out.setCell (p := ⟨R, 0, none⟩) (Nat.le_refl _) _).setCell (p := ⟨R, 1, none⟩) (Nat.le_refl _) _).setCell (p := ⟨R, 2, none⟩) (Nat.le_refl _) _⟩
                    · have hne := bytes_ne _ _ (arr_ne ht)
                      rw [HS.out] at hne
                      have hne' : ((⟨(textL ((l : Int), (b : Int), (c : Int))).toArray⟩ : ByteArray).toList == s.toList) = false := by rw [← beq_toListBytes]; exact hne
                      have HNN : Hid (NoKey L fun k => k.1 = l ∧ k.2.1 = b ∧ k.2.2 < (c + 1 : Nat)) := Lib.hid fun k hk h => by
                        dsimp only at h
                        by_cases hkc : k.2.2 < c
                        · exact HN3.out k hk ⟨h.1, h.2.1, hkc⟩
                        · have : k = ((l : Int), (b : Int), (c : Int)) := Prod.ext h.1 (Prod.ext h.2.1 (by dsimp only; omega))
                          rw [this]; exact ht
                      clear ht
                      generalize (⟨(textL ((l : Int), (b : Int), (c : Int))).toArray⟩ : ByteArray) = t' at *
                      go_wp2_with fail
                      go_roundg (256 - (c + 1))
                      case measure => omega
                      case rel => exact ⟨c + 1, by omega, rfl, by go_num, HW4, HR4, ⟨_, HX4⟩, HNN⟩
                  · obtain rfl : c = 256 := by omega
                    go_wp2_with fail
                    go_roundg (256 - (b + 1))
                    case measure => omega
                    case rel => exact ⟨b + 1, by omega, rfl, by go_num, HB, HR, Lib.hid fun k hk h => by
                      dsimp only at h
                      by_cases hkb : k.2.1 < b
                      · exact HN2.out k hk ⟨h.1, hkb⟩
                      · exact HN3.out k hk ⟨h.1, by omega, by have := hk.2.2.1; omega⟩⟩
              · have hne := bytes_ne _ _ (arr_ne hpre)
                rw [← hse] at hne
                have hne' : ((s.extract 0 m).toList == (⟨P.toArray⟩ : ByteArray).toList) = false := by rw [← beq_toListBytes]; exact hne
                have HNN : Hid (NoKey L fun k => k.1 = l ∧ k.2.1 < (b + 1 : Nat)) := Lib.hid fun k hk h => by
                  dsimp only at h
                  by_cases hkb : k.2.1 < b
                  · exact HN2.out k hk ⟨h.1, hkb⟩
                  · intro e
                    have e1 := HHL.out k h.1 (by omega)
                    refine hpre ?_
                    rw [← e, e1, ← HM.out]
                    simp
                generalize (⟨P.toArray⟩ : ByteArray) = pb at *
                clear hsm hpre hse
                go_wp2_with fail
                have hwm : IntKind.i64.wrap (m : Int) = m := by simp [IntKind.wrap, IntKind.bits, IntKind.signed]; omega
                have hd2 : decide ((2 : Int) < l) = false := by simp; omega
                have hd3 : decide ((s.size : Int) < m) = false := by simp; omega
                have hd4 : decide (s.size < m) = false := by simp; omega
                have hm3 : m ≤ s.size := by omega
                have hm4 : m ≤ m + 1 := by omega
                have hwm1 : IntKind.i64.wrap ((m : Int) + 1) = (m : Int) + 1 := by simp [IntKind.wrap, IntKind.bits, IntKind.signed]; omega
                go_quiet (fail)
                go_wp2_with fail
                go_roundg (256 - (b + 1))
                case measure => omega
                case rel => exact ⟨b + 1, by omega, rfl, by go_num, Lib.hid (below_drewN' HW2.out _), Lib.hid HR2.out, HNN⟩
        · obtain rfl : b = 256 := by omega
          go_wp2_with fail
          go_roundg (5 - (l + 1))
          case measure => omega
          case rel => exact ⟨l + 1, by omega, by omega, rfl, by go_num, HB, HR, Lib.hid fun k hk h => by
            dsimp only at h
            by_cases hkl : k.1 < l
            · exact HN.out k hk hkl
            · exact HN2.out k hk ⟨by omega, by have := hk.2.1; omega⟩⟩
    · obtain rfl : l = 5 := by omega
      have HSAY : Hid (Says L (.returned (.tuple #[.agg #[.int .u8 0, .int .u8 0, .int .u8 0], .bool false]))) := Lib.hid (.inr ⟨fun k hk _ => HN.out k hk (by have := hk.1; dsimp only; omega), rfl⟩)
      have r0 := block_cell (j := 0) HR.out rfl
      have r1 := block_cell (j := 1) HR.out rfl
      have r2 := block_cell (j := 2) HR.out rfl
      have z0 := block_free 0 HR.out
      have z1 := block_free 1 HR.out
      have z2 := block_free 2 HR.out
      go_wp2_with fail
      have HF := key_put (.int .u8 0) (.int .u8 0) (.int .u8 0) HR.out
      (try simp only [Exit.inBlock, Exit.then]); refine bodyPost_ret (results_key rfl _ _ R 0 0 0 _ rfl rfl (block_cell HF rfl) (block_cell HF rfl) (block_cell HF rfl)) rfl ?_
      exact ⟨HSAY.out, by rw [HRR.out]; exact ((HB.out.setCell (p := ⟨R, 0, none⟩) (Nat.le_refl _) _).setCell (p := ⟨R, 1, none⟩) (Nat.le_refl _) _).setCell (p := ⟨R, 2, none⟩) (Nat.le_refl _) _⟩
end Go.Proofs.YthkfijgdopjjjaaDoor
