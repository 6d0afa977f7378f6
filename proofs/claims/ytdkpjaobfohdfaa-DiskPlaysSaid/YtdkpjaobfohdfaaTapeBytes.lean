/- Bytes. -/
import Derived.Test.YtdkpjaobfohdfaaTapeCutting
namespace Go.Proofs.Ytdkpjaobfohdfaa
open Go.RowKit Go.ChangeShapes Go.WideShapes
set_option linter.unusedVariables false
set_option maxRecDepth 10000
set_option linter.unusedSimpArgs false

/-- A row with room for n bytes. -/
theorem made_room (n : Nat) (hn : n ≤ 5000000) (w : World) : (Instr.makeSlice 31 (.int .i64 0) (.int .i64 (n : Nat))).run Try.prog w = .ok (.slice (some ⟨w.heap.size, 0, none⟩) 0 n) (w.alloc (.cells (vB (List.replicate n 0)).toArray 5)) := by
  obtain ⟨i, hi, hz0, hz1, hz2⟩ := info_parts info_u8
  have hr := run_make (P := Try.prog) w 31 5 i _ Try.underlying31 hi hz0 .i64 .i64 0 (n : Nat) (by omega) (by omega) (by rw [hz2]; omega) (by omega)
  rw [hr, hz1, Int.toNat_natCast, Nat.mul_one]
  refine congrArg (fun c => Result.ok _ (w.alloc (.cells c 5))) ?_
  apply Array.ext
  · simp [size_madeCells, vB, cells_u8]
  · intro j h1 h2
    simp [madeCells, vB, cells_u8, Nat.mod_one]
/-- What a call that hands back bytes of its own says. -/
def GivesB (W : World) (L : List Int) (e : Ending) (w' : World) : Prop := ∃ p c, e = .returned (.slice p L.length c) ∧ BL w' p L.length c L ∧ Below W.heap.size W w' ∧ ∀ a, p = some a → W.heap.size ≤ a.block
theorem tape_bytes0 (x : Int) (w : World) : Calls Try.prog 41 #[.pointer none, .int .i64 x] w fun e w' => e = .returned (.slice none 0 0) ∧ w' = w := by
  have h1 := tape_first0 w
  have h2 := tape_end0 w
  obtain ⟨y, hy⟩ : ∃ y : Int, max x 0 = y := ⟨_, rfl⟩
  have hy2 : (if x < 0 then 0 else x) = y := by rw [← hy]; split <;> omega
  have hy0 : 0 ≤ y := by omega
  go_enter Try.func41, Try.ntmps41
  go_wp2_with fail
  refine h1.mono ?_
  rintro e w' ⟨rfl, rfl⟩
  go_wp2_with fail
  refine h2.mono ?_
  rintro e w' ⟨rfl, rfl⟩
  go_wp2_with fail
  go_ret
  exact ⟨rfl, rfl⟩
section
variable {w : World} {T : Nat} {mb : Option Nat} {Q : Nat → Prop} {a : Int} {s : Nat} {t : TS}
theorem bytes_none (h : Tp w T mb Q a s t) (x : Int) (hx : (t.f * s + t.B.length : Nat) ≤ max x (t.f * s : Nat)) : Calls Try.prog 41 #[.pointer (some ⟨T, 0, none⟩), .int .i64 x] w fun e w' => e = .returned (.slice none 0 0) ∧ w' = w := by
  have h1 := tape_first h
  have h2 := tape_end h
  clear h
  generalize t.f * s = F at *
  generalize F + t.B.length = E at *
  obtain ⟨y, hy⟩ : ∃ y : Int, max x F = y := ⟨_, rfl⟩
  have hy2 : (if x < F then (F : Int) else x) = y := by rw [← hy]; split <;> omega
  have hy0 : (E : Int) ≤ y := by omega
  clear hx
  go_enter Try.func41, Try.ntmps41
  go_wp2_with fail
  refine h1.mono ?_
  rintro e w' ⟨rfl, rfl⟩
  go_wp2_with fail
  refine h2.mono ?_
  rintro e w' ⟨rfl, rfl⟩
  go_wp2_with fail
  go_ret
  exact ⟨rfl, rfl⟩
/-- The bytes from d on up to segment i; what is skipped of it. -/
def upTo (s : Nat) (B : List Int) (d i : Nat) : List Int := (B.take (i * s)).drop d
def skipAt (y r i : Nat) : Nat := if i = y then r else 0
/-- One more segment's bytes. -/
theorem part_more {s : Nat} (hs : 0 < s) (B : List Int) (d i : Nat) (hd : d < B.length) (hi : i * s < B.length) (hi0 : d / s ≤ i) : skipAt (d / s) (d % s) i ≤ (sg s B i).length ∧ upTo s B d i ++ (sg s B i).drop (skipAt (d / s) (d % s) i) = upTo s B d (i + 1) := by
  unfold skipAt upTo
  have h1 : d / s * s + d % s = d := div_parts
  have h2 := Nat.mod_lt d hs
  rw [sg_len, Nat.add_mul, Nat.one_mul]
  by_cases e : i = d / s
  · subst e
    rw [if_pos rfl]
    refine ⟨by omega, ?_⟩
    have := part_step s B d (d / s) (by omega) (by omega)
    rwa [show d - d / s * s = d % s by omega] at this
  · rw [if_neg e, List.drop_zero]
    have h3 := mul_succ_le (s := s) (show d / s < i by omega)
    exact ⟨Nat.zero_le _, part_next s B d i (by omega) (by omega)⟩
set_option maxHeartbeats 2000000 in
set_option maxRecDepth 100000 in
theorem bytes_some (h : Tp w T mb Q a s t) (hbig : t.f * s + t.B.length ≤ 1000000) (x : Int) (d : Nat) (hx : max x (t.f * s : Nat) = ((t.f * s + d : Nat) : Int)) (hd : d < t.B.length) : Calls Try.prog 41 #[.pointer (some ⟨T, 0, none⟩), .int .i64 x] w (GivesB w (t.B.drop d)) := by
  have hs := h.s_in
  have h1 := tape_first h
  have h2 := tape_end h
  have hsg := tape_seg h
  have HTP := Lib.hid h
  have c2 := h.cells.2.2.1
  obtain ⟨b, rfl⟩ : ∃ b, mb = some b := by
    cases mb with
    | none =>
      have := (h.no rfl).2
      rw [this] at hd
      simp at hd
    | some b => exact ⟨b, rfl⟩
  clear h
  obtain ⟨i1, i2⟩ := idx_div (by omega : 0 < s) t.f d
  have hmod := Nat.mod_lt d (by omega : 0 < s)
  have hdp : d / s * s + d % s = d := div_parts
  have hdle := Nat.div_le_self d s
  have HPART := Lib.hid fun i (hi : i * s < t.B.length) (hi0 : d / s ≤ i) => part_more (by omega) t.B d i hd hi hi0
  have hfs : t.f ≤ t.f * s := Nat.le_mul_of_pos_right _ (by omega)
  have HSTART : Hid (upTo s t.B d (d / s) = []) := Lib.hid (List.drop_eq_nil_of_le (by rw [List.length_take]; omega))
  obtain ⟨X, hX⟩ : ∃ X, t.f * s + d = X := ⟨_, rfl⟩
  rw [hX] at i1 i2 hx
  generalize hF : t.f * s = F at *
  generalize hE : F + t.B.length = E at *
  have HF := Lib.hid hF
  have HE := Lib.hid hE
  have HXX := Lib.hid hX
  generalize hy : d / s = y at *
  generalize hr : d % s = r at *
  have hx2 : (if x < (F : Int) then (F : Int) else x) = (X : Int) := by rw [← hx]; split <;> omega
  have hx3 : max (F : Int) x = (X : Int) := by omega
  have hXE : ¬ (E : Int) ≤ (X : Int) := by omega
  have q0 : ((s : Int) == 0) = false := by simp; omega
  have q1 : ¬ s = 0 := by omega
  have d1 : (X : Int).tdiv (s : Int) = ((t.f + y : Nat) : Int) := by rw [← i1]; rfl
  have d2 : (X : Int).tmod (s : Int) = (r : Int) := by rw [← i2]; rfl
  have d3 : IntKind.i64.wrap ((t.f + y : Nat) : Int) = ((t.f + y : Nat) : Int) := IntWalk.i64_in _ (by omega)
  have d4 : IntKind.i64.wrap (r : Int) = (r : Int) := IntWalk.i64_in _ (by omega)
  obtain ⟨cp, hcp⟩ : ∃ cp, E - X = cp := ⟨_, rfl⟩
  have hEX : (E : Int) - (X : Int) = (cp : Int) := by omega
  have hmk := made_room cp (by omega) w
  have hb1 : Below w.heap.size w (w.alloc (.cells (vB (List.replicate cp 0)).toArray 5)) := (Below.refl _ _).alloc (Nat.le_refl _) _
  have hsg1 := tape_seg (HTP.out.later hb1)
  have HB1 := Lib.hid hb1
  have HR1 : Hid (RowB (w.alloc (.cells (vB (List.replicate cp 0)).toArray 5)) (.slice (some ⟨w.heap.size, 0, none⟩) 0 cp) 0 []) := Lib.hid (RowB.fresh (alloc_block w _) (by simp [vB]) (by unfold maxLen; omega))
  have HDE := Lib.hid hd
  have HTF := Lib.hid hfs
  have HLT : Hid (y ≤ 1000000) := Lib.hid (by omega)
  have d5 : wrap64 ((t.f : Int) + (y : Int)) = (t.f : Int) + (y : Int) := IntWalk.wrap64_in _ (by omega)
  clear i1 i2 hdp hF hE hX hy hr hcp hdle hd hb1 hfs
  go_enter Try.func41, Try.ntmps41
  go_wp2_with fail
  refine h1.mono ?_
  rintro e w' ⟨rfl, rfl⟩
  go_wp2_with fail
  refine h2.mono ?_
  rintro e w' ⟨rfl, rfl⟩
  go_wp2_with fail
  refine hsg1.mono ?_
  rintro e w2 ⟨rfl, rfl⟩
  go_wp2_with fail
  refine hsg1.mono ?_
  rintro e w2 ⟨rfl, rfl⟩
  go_wp2_with fail
  have HTP1 := Lib.hid (HTP.out.later HB1.out)
  have hFE : F ≤ 1000000 := by have := HE.out; omega
  clear h1 h2 hsg hsg1 c2 d1 d2 d3 d4 hx hx2 hx3 hXE hEX hmk
  obtain ⟨pw, hpw⟩ : ∃ pw, pw = w'.heap.size := ⟨_, rfl⟩
  rw [← hpw] at HR1 ⊢
  have HPW := Lib.hid hpw
  clear hpw
  generalize w'.alloc (.cells (vB (List.replicate cp 0)).toArray 5) = W1 at *
  go_loopw [5, 6, 7] (fun bv sk n wr => ∃ (i : Nat) (pb : Option Addr) (cb : Nat), y ≤ i ∧ i ≤ 1000001 ∧ n = .int .i64 (t.f + i : Nat) ∧ sk = .int .i64 ((skipAt y r i : Nat) : Int) ∧ bv = .slice pb (upTo s t.B d i).length cb ∧ Hid (RowB wr (.slice pb (upTo s t.B d i).length cb) (upTo s t.B d i).length (upTo s t.B d i)) ∧ Hid (∀ k, (Value.slice pb (upTo s t.B d i).length cb).ownBlock = some k → w'.heap.size ≤ k) ∧ Hid (Below w'.heap.size w' wr)) (fun _ _ n _ => t.f + 1000002 - (intOf n).toNat)
  case atStart =>
    refine ⟨y, some ⟨pw, 0, none⟩, cp, Nat.le_refl _, by have := HLT.out; omega, by go_num, by unfold skipAt; rw [if_pos rfl], by rw [HSTART.out]; rfl, ?_, ?_, HB1⟩
    · rw [HSTART.out]
      exact HR1
    · exact Lib.hid fun k hk => by cases hk; rw [HPW.out]; exact Nat.le_refl _
  case round =>
    obtain ⟨i, pb, cb, hyi, hi6, rfl, rfl, rfl, HR, HOW, HBW⟩ := hrel
    have HT := Lib.hid (HTP.out.later HBW.out)
    obtain ⟨hK, hL⟩ : skipAt y r i ≤ s ∧ True := ⟨by unfold skipAt; split <;> omega, trivial⟩
    have hP : (t.f + i) * s = F + i * s := by rw [Nat.add_mul, HF.out]
    have hjs : i * s ≤ 1000001 * 4096 := Nat.mul_le_mul hi6 hs.2
    have m1 : ((t.f : Int) + (i : Int)) * (s : Int) = ((F + i * s : Nat) : Int) := by
      rw [← hP]
      push_cast
      rfl
    have m2 : IntKind.i64.wrap ((F + i * s : Nat) : Int) = ((F + i * s : Nat) : Int) := IntWalk.i64_in _ (by omega)
    have hcond : F + i * s < E ↔ i * s < t.B.length := by have := HE.out; omega
    obtain ⟨_, c2, _, hsg⟩ := HT.out.at HF.out HE.out
    clear hP hjs hL
    generalize F + i * s = P at *
    by_cases hlt : P < E
    · have hlt' : decide ((P : Int) < (E : Int)) = true := decide_eq_true (by omega)
      have hlt2 : (P : Int) < (E : Int) := by omega
      have hil := hcond.1 hlt
      obtain ⟨hkl, hpm⟩ := HPART.out i hil hyi
      have HPM := Lib.hid hpm
      have HIL := Lib.hid hil
      clear hcond hpm hil
      generalize hKK : skipAt y r i = K at *
      generalize hLL : upTo s t.B d i = L at *
      go_wp2_with fail
      go_quiet (first
        | (go_at_call 57; exact Calls.quiet_of_same (hsg _)))
      have HT5 := Lib.hid (HT.out.drewN nq)
      have HR5 := Lib.hid (HR.out.later (below_drewN (Below.refl _ _) nq))
      have HB5 := Lib.hid (below_drewN HBW.out nq)
      clear c2 hsg HT HR HBW m1 m2
      generalize wr.drewN nq = W5 at *
      obtain ⟨_, z, D, hown, hT, hS⟩ := HT5.out.yes b rfl
      have c3 := HT5.out.cells.2.2.2
      have htf : t.f + i ≤ 2000001 := by have := HF.out; have : t.f ≤ t.f * s := Nat.le_mul_of_pos_right _ (by omega); omega
      have wf : (Lit.int .i64 ((t.f + i : Nat) : Int)).wf = true := WalkArith.wf_i64 (by omega)
      have hlook := look_at hown hT wf
      rw [So_at, if_pos HIL.out, Int.natCast_add] at hlook
      unfold svV at hlook
      have hrow := (hS.row i HIL.out).2
      have hcapz := hrow.bl.cap
      have hmz := hrow.bl.max
      have hmx : (z (t.f + i)).2 ≤ 9223372036854775807 := by unfold maxLen at hmz; omega
      have hsl : (sg s t.B i).length ≤ 4096 := by rw [sg_len]; omega
      have hLl := HR5.out.len
      have HM := Lib.hid fun (q : Option Addr) (h1 : K < (sg s t.B i).length → q = some ⟨(z (t.f + i)).1, K, none⟩) (h2 : q = none → (z (t.f + i)).2 = K) => BL.drop hrow.bl K hkl q (fun h0 b' off' he => by cases he; rw [Nat.zero_add]; exact h1 h0) h2
      have hLb : L.length + ((sg s t.B i).length - K) ≤ 1000000 := by
        have h9 := congrArg List.length HPM.out
        unfold upTo at h9
        rw [List.length_append, List.length_drop, List.length_drop, List.length_take] at h9
        have := HE.out
        omega
      have HNEW : Hid ((L ++ (sg s t.B i).drop K).length = L.length + ((sg s t.B i).length - K)) := Lib.hid (by rw [List.length_append, List.length_drop])
      clear hown hT hS hrow hmz wf
      generalize (sg s t.B i) = G at *
      generalize hn0 : G.length = n0 at *
      generalize (z (t.f + i)).1 = zg at *
      generalize (z (t.f + i)).2 = zc at *
      go_wp2_with (first | (at_builtin; refine wpList_append_rb rfl _ _ rfl _ _ _ rfl HR5.out _ (n0 - K) (zc - K) _ rfl (HM.out _ (by intro h9; simp; omega) (by intro h9; split at h9 <;> cases h9)) hLb ?_; intro p6 c6 w6 hr6 hc6 hl6 hn6) | fail)
      have HR6 := Lib.hid hr6
      have HOW6 : Hid (∀ k, (Value.slice p6 (L.length + (n0 - K)) c6).ownBlock = some k → w'.heap.size ≤ k) := Lib.hid fun k hk => by
        rcases hl6 k hk with h | h
        · exact HOW.out k h
        · exact Nat.le_trans HB5.out.size h
      have HB6 : Hid (Below w'.heap.size w' w6) := Lib.hid (hc6.below HB5.out HB5.out.size fun k hk => HOW.out k hk)
      rw [HPM.out] at HR6 HNEW
      rw [← HNEW.out] at HR6 HOW6 ⊢
      clear hr6 hc6 hl6 hn6 hlook c3
      go_wp2_with fail
      go_roundw
      case rel => refine ⟨_, _, _, ⟨i + 1, by omega, by have := (lt_nS (s := s) (by omega)).2 HIL.out; have := nS_le (s := s) (n := t.B.length) (by omega); have := HE.out; omega, by go_num, by unfold skipAt; rw [if_neg (by omega)]; rfl, p6, c6, rfl, HR6, HOW6, HB6⟩, rfl, rfl, rfl⟩
      case measure => simp [intOf]; omega
    · have hlt' : decide ((P : Int) < (E : Int)) = false := decide_eq_false (by omega)
      have hlt2 : ¬ (P : Int) < (E : Int) := by omega
      have hnl : ¬ i * s < t.B.length := fun h => hlt (hcond.2 h)
      have hup : upTo s t.B d i = t.B.drop d := by unfold upTo; rw [List.take_of_length_le (by omega)]
      have HUP := Lib.hid hup
      clear hup
      go_wp2_with fail
      go_quiet (first
        | (go_at_call 57; exact Calls.quiet_of_same (hsg _)))
      have HR5 := Lib.hid (HR.out.later (below_drewN (Below.refl _ _) nq))
      have HB5 := Lib.hid (below_drewN HBW.out nq)
      clear c2 hsg HT HR HBW m1 m2 hcond hnl
      generalize wr.drewN nq = W5 at *
      go_wp2_with fail
      go_ret
      rw [← HUP.out]
      obtain ⟨p', c', he, hbl, hown, _⟩ := HR5.out.sl
      cases he
      exact ⟨_, _, rfl, hbl, HB5.out, fun ad ha => HOW.out _ (hown ad ha)⟩
theorem tape_bytes (h : Tp w T mb Q a s t) (hbig : t.f * s + t.B.length ≤ 1000000) (x : Int) : Calls Try.prog 41 #[.pointer (some ⟨T, 0, none⟩), .int .i64 x] w (GivesB w (bytesT s t x)) := by
  have hm : max x (t.f * s : Nat) = ((t.f * s + fromT s t x : Nat) : Int) := by unfold fromT; omega
  by_cases hd : fromT s t x < t.B.length
  · exact bytes_some h hbig x _ hm hd
  · have e : bytesT s t x = [] := List.drop_eq_nil_of_le (by omega)
    rw [e]
    refine (bytes_none h x (by omega)).mono ?_
    rintro e w' ⟨rfl, rfl⟩
    exact ⟨none, 0, rfl, SlG.empty _, Below.refl _ _, fun a ha => by cases ha⟩
end
end Go.Proofs.Ytdkpjaobfohdfaa
