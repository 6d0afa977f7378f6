import Derived.Test.YtfdgnniicjdjdaaGreatDoorPn43
import Derived.Test.YtfdgnniicjdjdaaGreatDoorPn22
import Derived.Test.YtfdgnniicjdjdaaGreatDoorPn07
import Derived.Test.YtfdgnniicjdjdaaGreatDoorPn42
import Derived.Test.YtfdgnniicjdjdaaGreatDoorPn00
import Derived.Deep.RegionHeld
import Derived.Deep.Cut
import Derived.Deep.Slices
import Derived.Deep.Fields
import Derived.Deep.Strs
import Derived.ChangeSame
import Derived.Lib.SmallJoins
import Derived.OpenShut
namespace Go.Proofs.YtfdgnniicjdjdaaGreatDoor
open Go.RowKit Go.ChangeShapes Go.WideShapes
set_option linter.unusedVariables false
set_option linter.unusedSimpArgs false
set_option maxRecDepth 10000
def GivesEn (W : World) (X : Rx) (e : Ending) (w' : World) : Prop := Below W.heap.size W w' ∧ if goodX X = true then ∃ p c, e = .returned (.tuple #[.slice p (bytesX X).length c, .int .i64 0]) ∧ Sl w' p (bytesX X).length c (bytesX X) else e = .returned (.tuple #[.slice none 0 0, .int .i64 1])
theorem rec_write_any (r : Rv) (L : List Ln) (T : List Tk) (M : List Ln) (W : World) (hok : Rxok (r.x L T M)) (hk : kOk r.k = true) (hw : Words W) (hP : RvM W r L T M) (h1 : r.ln ≤ 400 ∧ r.tn ≤ 400 ∧ r.wn ≤ 400) (hg : r.k = 1 → goodP 4 4 (r.pg L T M) = true) : Calls Tryz.prog 84 #[.agg (rcs r)] W (GivesB W (bytesX (r.x L T M))) := by
  rcases kOk_cases hk with h | h | h | h | h | h | h | h | h
  · exact rec_write1 r L T M W hok h hw hP h1 (hg h)
  · exact rec_write2 r L T M W hok h
  · exact rec_write3 r L T M W hok h
  · exact rec_write4 r L T M W hok h
  · exact rec_write5 r L T M W hok h
  · exact rec_write6 r L T M W hok h
  · exact rec_write7 r L T M W hok h
  · exact rec_write8 r L T M W hok h
  · exact rec_write9 r L T M W hok h
set_option maxHeartbeats 2000000 in
theorem rec_encode (r : Rv) (L : List Ln) (T : List Tk) (M : List Ln) (W : World) (hw : Words W) (hP : RvM W r L T M) (hok : Rxok (r.x L T M)) (h1 : r.ln ≤ 400 ∧ r.tn ≤ 400 ∧ r.wn ≤ 400) : Calls Tryz.prog 46 #[.agg (rcs r)] W (GivesEn W (r.x L T M)) := by
  obtain ⟨W1, hW1, hb1⟩ : ∃ W1, W.alloc (.cells (rcs r) 51) = W1 ∧ Below W.heap.size W W1 := ⟨_, rfl, (Below.refl _ _).alloc (Nat.le_refl _) _⟩
  obtain ⟨B, hB⟩ : ∃ B, W.heap.size = B := ⟨_, rfl⟩
  have hrb := RB.new W r
  rw [hW1, hB] at hrb
  have HX1 := Lib.hid hrb
  have HW1 := Lib.hid hW1
  have HB1 := Lib.hid hb1
  have HRE := Lib.hid hB
  clear hW1 hb1 hB hrb
  have hgd := rec_good r L T M W1 (hw.later HB1.out) (hP.later HB1.out) hok h1
  have HWR := Lib.hid (fun (h : goodX (r.x L T M) = true) W' (hb : Below W.heap.size W W') => rec_write_any r L T M W' hok (goodX_kOk h) (hw.later hb) (hP.later hb) h1 (fun hk => by have := goodX_prog h; rw [show (r.x L T M).k = 1 from hk] at this; exact this))
  clear hw hP hok h1
  cases hg : goodX (r.x L T M) with
  | false =>
    rw [hg] at hgd
    have HG := Lib.hid hg
    clear hg
    go_enter Tryz.func46, Tryz.ntmps46
    go_upto_region 1 with (fail)
    rw [HW1.out, HRE.out]
    go_wp2_with ((with_reducible refine wpList_load_rc HX1.out ?_ ?_); rfl)
    refine hgd.mono ?_
    rintro e w2 ⟨rfl, h2⟩
    have HF : Hid (GivesEn W (r.x L T M) (.returned (.tuple #[.slice none 0 0, .int .i64 1])) w2) := Lib.hid ⟨HB1.out.trans (h2.mono HB1.out.size), by rw [HG.out, if_neg (by decide)]⟩
    clear h2 hgd
    go_wp2_with fail
    go_ret2
    exact HF.out
  | true =>
    rw [hg] at hgd
    have HG := Lib.hid hg
    clear hg
    go_enter Tryz.func46, Tryz.ntmps46
    go_upto_region 1 with (fail)
    rw [HW1.out, HRE.out]
    go_wp2_with ((with_reducible refine wpList_load_rc HX1.out ?_ ?_); rfl)
    refine hgd.mono ?_
    rintro e w2 ⟨rfl, h2⟩
    have HB2 := Lib.hid (HB1.out.trans (h2.mono HB1.out.size))
    have HX2 := Lib.hid (HX1.out.later h2)
    clear h2 hgd
    go_wp2_with ((with_reducible refine wpList_load_rc HX2.out ?_ ?_); rfl)
    refine (HWR.out HG.out w2 HB2.out).mono ?_
    rintro e w3 ⟨p3, c3, rfl, hs3, hb3⟩
    have HF : Hid (GivesEn W (r.x L T M) (.returned (.tuple #[.slice p3 (bytesX (r.x L T M)).length c3, .int .i64 0])) w3) := Lib.hid ⟨HB2.out.trans (hb3.mono HB2.out.size), by rw [HG.out, if_pos rfl]; exact ⟨p3, c3, rfl, hs3⟩⟩
    clear hs3 hb3
    generalize (bytesX (r.x L T M)).length = n at *
    go_wp2_with fail
    go_ret2
    exact HF.out
theorem noP_ok : Pgok noP := ⟨by simp [noP], by simp [noP], by simp [noP], (fun x hx => by cases hx), (fun x hx => by cases hx), (fun x hx => by cases hx), by simp [noP], by simp [noP], by simp [noP], by simp [noP, In64]⟩
end Go.Proofs.YtfdgnniicjdjdaaGreatDoor
namespace Go.Proofs.YtfdgnniicjdjdaaGreatDoor
set_option linter.unusedVariables false
set_option maxRecDepth 10000
def frmX (X : Rx) : List Nat := frm (bytesX X)
theorem frmX_len (X : Rx) : (frmX X).length = 6 + (bytesX X).length := frm_len _
theorem bytes_good {X : Rx} (h : goodX X = true) : good (bytesX X) = true ∧ 5 ≤ (bytesX X).length ∧ (bytesX X).length ≤ 407 := by
  have hk := goodX_kOk h
  have hl := bytes_len hk
  have hp := goodX_prog h
  have h1 : X.k = 1 → (bytesP X.pg).length ≤ 400 := fun e => by
    rw [e] at hp
    exact pg_few hp
  have h2 : 5 ≤ (bytesX X).length ∧ (bytesX X).length ≤ 407 := by
    rw [hl]
    unfold lenK
    by_cases e : X.k = 1
    · have := h1 e
      rw [if_pos e, if_pos e]
      omega
    · rw [if_neg e, if_neg e]
      repeat' split
      all_goals omega
  exact ⟨(good_iff _).2 ⟨by omega, by omega⟩, h2⟩
end Go.Proofs.YtfdgnniicjdjdaaGreatDoor
namespace Go.Proofs.YtfdgnniicjdjdaaGreatDoor
open Go.RowKit Go.ChangeShapes Go.WideShapes
set_option linter.unusedVariables false
set_option linter.unusedSimpArgs false
set_option maxRecDepth 10000
theorem isfew_p (k od po : Int) (lp : Option Addr) (ln lcp : Nat) (tp : Option Addr) (tn tcp : Nat) (wp : Option Addr) (wn wcp : Nat) (sk fr to q : Int) (W : World) : Calls Tryz.prog 80 #[.agg #[.int .u8 k, .int .u32 od, .int .u8 po, .slice lp ln lcp, .slice tp tn tcp, .slice wp wn wcp, .int .u8 sk, .int .u8 fr, .int .u8 to, .int .i64 q]] W fun e w' => e = .returned (.bool (decide (ln ≤ 20 ∧ tn ≤ 30 ∧ wn ≤ 20))) ∧ Below W.heap.size W w' := by
  have HB : Hid (Below W.heap.size W (W.alloc (.cells #[.int .u8 k, .int .u32 od, .int .u8 po, .slice lp ln lcp, .slice tp tn tcp, .slice wp wn wcp, .int .u8 sk, .int .u8 fr, .int .u8 to, .int .i64 q] 49))) := Lib.hid ((Below.refl _ _).alloc (Nat.le_refl _) _)
  obtain ⟨r, hr⟩ : ∃ r, decide (ln ≤ 20 ∧ tn ≤ 30 ∧ wn ≤ 20) = r := ⟨_, rfl⟩
  have HR := Lib.hid hr
  rw [hr]
  clear hr
  by_cases h1 : ln ≤ 20
  case neg =>
    have d1 : decide ((ln : Int) ≤ 20) = false := decide_eq_false (by omega)
    obtain rfl : r = false := by rw [← HR.out]; exact decide_eq_false (by omega)
    go_enter Tryz.func80, Tryz.ntmps80
    go_wp2_with fail
    go_ret
    exact ⟨rfl, HB.out⟩
  have d1 : decide ((ln : Int) ≤ 20) = true := decide_eq_true (by omega)
  by_cases h2 : tn ≤ 30
  case neg =>
    have d2 : decide ((tn : Int) ≤ 30) = false := decide_eq_false (by omega)
    obtain rfl : r = false := by rw [← HR.out]; exact decide_eq_false (by omega)
    go_enter Tryz.func80, Tryz.ntmps80
    go_wp2_with fail
    go_ret
    exact ⟨rfl, HB.out⟩
  have d2 : decide ((tn : Int) ≤ 30) = true := decide_eq_true (by omega)
  by_cases h3 : wn ≤ 20
  case neg =>
    have d3 : decide ((wn : Int) ≤ 20) = false := decide_eq_false (by omega)
    obtain rfl : r = false := by rw [← HR.out]; exact decide_eq_false (by omega)
    go_enter Tryz.func80, Tryz.ntmps80
    go_wp2_with fail
    go_ret
    exact ⟨rfl, HB.out⟩
  have d3 : decide ((wn : Int) ≤ 20) = true := decide_eq_true (by omega)
  obtain rfl : r = true := by rw [← HR.out]; exact decide_eq_true (by omega)
  go_enter Tryz.func80, Tryz.ntmps80
  go_wp2_with fail
  go_ret
  exact ⟨rfl, HB.out⟩
def fewI (ln tn wn : Nat) : Int := if ln ≤ 20 ∧ tn ≤ 30 ∧ wn ≤ 20 then 1 else 0
theorem few_p (k od po : Int) (lp : Option Addr) (ln lcp : Nat) (tp : Option Addr) (tn tcp : Nat) (wp : Option Addr) (wn wcp : Nat) (sk fr to q : Int) (W : World) : Calls Tryz.prog 40 #[.agg #[.int .u8 k, .int .u32 od, .int .u8 po, .slice lp ln lcp, .slice tp tn tcp, .slice wp wn wcp, .int .u8 sk, .int .u8 fr, .int .u8 to, .int .i64 q]] W fun e w' => e = .returned (.int .i64 (fewI ln tn wn)) ∧ Below W.heap.size W w' := by
  obtain ⟨W1, hW1, hb1⟩ : ∃ W1, W.alloc (.cells #[.int .u8 k, .int .u32 od, .int .u8 po, .slice lp ln lcp, .slice tp tn tcp, .slice wp wn wcp, .int .u8 sk, .int .u8 fr, .int .u8 to, .int .i64 q] 49) = W1 ∧ Below W.heap.size W W1 := ⟨_, rfl, (Below.refl _ _).alloc (Nat.le_refl _) _⟩
  have HI := Lib.hid (isfew_p k od po lp ln lcp tp tn tcp wp wn wcp sk fr to q W1)
  have HB1 := Lib.hid hb1
  have HW1 := Lib.hid hW1
  clear hW1 hb1
  by_cases h : ln ≤ 20 ∧ tn ≤ 30 ∧ wn ≤ 20
  · have hi := HI.out
    rw [decide_eq_true h] at hi
    have HF : Hid (fewI ln tn wn = 1) := Lib.hid (if_pos h)
    clear h
    go_enter Tryz.func40, Tryz.ntmps40
    go_wp2_with fail
    rw [HW1.out]
    refine hi.mono ?_
    rintro e w2 ⟨rfl, h2⟩
    have HB2 := Lib.hid (HB1.out.trans (h2.mono HB1.out.size))
    clear hi h2
    go_wp2_with fail
    go_ret
    exact ⟨by rw [HF.out]; rfl, HB2.out⟩
  · have hi := HI.out
    rw [decide_eq_false h] at hi
    have HF : Hid (fewI ln tn wn = 0) := Lib.hid (if_neg h)
    clear h
    go_enter Tryz.func40, Tryz.ntmps40
    go_wp2_with fail
    rw [HW1.out]
    refine hi.mono ?_
    rintro e w2 ⟨rfl, h2⟩
    have HB2 := Lib.hid (HB1.out.trans (h2.mono HB1.out.size))
    clear hi h2
    go_wp2_with fail
    go_ret
    exact ⟨by rw [HF.out]; rfl, HB2.out⟩
end Go.Proofs.YtfdgnniicjdjdaaGreatDoor
namespace Go.Proofs.YtfdgnniicjdjdaaGreatDoor
open Go.RowKit Go.ChangeShapes Go.WideShapes Go.Deep
set_option linter.unusedVariables false
set_option maxRecDepth 10000
theorem recCells20 : Tryz.prog.cellsOf 51 = 20 := by kernel_rfl
def RecIn (w : World) (a : Array Value) : Prop := ∃ (r : Rv) (L : List Ln) (T : List Tk) (M : List Ln), a = rcs r ∧ Rxok (r.x L T M) ∧ RvM w r L T M
section
variable {H : Type} {enc : TypeId × Value → H} {w : World} {base : Nat} {held : Bool}
theorem rkey_trod {fuel : Nat} {x y z : Value} {d : DataW H × List MemPlace} (h : DataW.trod enc Tryz.prog w base (fun _ => true) held fuel 45 [x, y, z] = some d) : ∃ k : K, Kok k ∧ x = .int .u8 k.1 ∧ y = .int .u8 k.2.1 ∧ z = .int .u8 k.2.2 := by
  obtain ⟨xs, n, _, _, hlen, hxl, hg⟩ := DataW.trod_struct Tryz.underlying45 h
  have h3 : xs.length = 3 := hxl
  have t0 := hg 0 _ rfl
  have t1 := hg 1 _ rfl
  have t2 := hg 2 _ rfl
  rw [List.getElem?_eq_getElem (by omega)] at t0 t1 t2
  have e0 : DataW.trod enc Tryz.prog w base (fun _ => true) held n 5 [x] = some (xs[0]'(by omega)) := t0
  have e1 : DataW.trod enc Tryz.prog w base (fun _ => true) held n 5 [y] = some (xs[1]'(by omega)) := t1
  have e2 : DataW.trod enc Tryz.prog w base (fun _ => true) held n 5 [z] = some (xs[2]'(by omega)) := t2
  obtain ⟨z0, hv0, _, wf0⟩ := DataW.trod_int Tryz.underlying5 e0
  obtain ⟨z1, hv1, _, wf1⟩ := DataW.trod_int Tryz.underlying5 e1
  obtain ⟨z2, hv2, _, wf2⟩ := DataW.trod_int Tryz.underlying5 e2
  simp at hv0 hv1 hv2
  exact ⟨(z0, z1, z2), ⟨bounds_u8 wf0, bounds_u8 wf1, bounds_u8 wf2⟩, hv0, hv1, hv2⟩
theorem prog_trod {fuel : Nat} {v0 v1 v2 v3 v4 v5 v6 v7 v8 v9 : Value} {d : DataW H × List MemPlace} (hf : DataW.trod enc Tryz.prog w base (fun _ => true) held fuel 49 [v0, v1, v2, v3, v4, v5, v6, v7, v8, v9] = some d) : ∃ (k od po : Int) (lp : Option Addr) (ln lcp : Nat) (tp : Option Addr) (tn tcp : Nat) (wp : Option Addr) (wn wcp : Nat) (sk fr to q : Int) (L : List Ln) (T : List Tk) (M : List Ln), [v0, v1, v2, v3, v4, v5, v6, v7, v8, v9] = [.int .u8 k, .int .u32 od, .int .u8 po, .slice lp ln lcp, .slice tp tn tcp, .slice wp wn wcp, .int .u8 sk, .int .u8 fr, .int .u8 to, .int .i64 q] ∧ Pgok ⟨k, od, po, L, T, M, sk, fr, to, q⟩ ∧ PgM w lp ln lcp L tp tn tcp T wp wn wcp M := by
  obtain ⟨xs, n, _, _, hlen, hxl, hg⟩ := DataW.trod_struct Tryz.underlying49 hf
  have h10 : xs.length = 10 := hxl
  have t0 := hg 0 _ rfl
  have t1 := hg 1 _ rfl
  have t2 := hg 2 _ rfl
  have t3 := hg 3 _ rfl
  have t4 := hg 4 _ rfl
  have t5 := hg 5 _ rfl
  have t6 := hg 6 _ rfl
  have t7 := hg 7 _ rfl
  have t8 := hg 8 _ rfl
  have t9 := hg 9 _ rfl
  rw [List.getElem?_eq_getElem (by omega)] at t0 t1 t2 t3 t4 t5 t6 t7 t8 t9
  have e0 : DataW.trod enc Tryz.prog w base (fun _ => true) held n 5 [v0] = some (xs[0]'(by omega)) := t0
  have e1 : DataW.trod enc Tryz.prog w base (fun _ => true) held n 43 [v1] = some (xs[1]'(by omega)) := t1
  have e2 : DataW.trod enc Tryz.prog w base (fun _ => true) held n 5 [v2] = some (xs[2]'(by omega)) := t2
  have e3 : DataW.trod enc Tryz.prog w base (fun _ => true) held n 46 [v3] = some (xs[3]'(by omega)) := t3
  have e4 : DataW.trod enc Tryz.prog w base (fun _ => true) held n 47 [v4] = some (xs[4]'(by omega)) := t4
  have e5 : DataW.trod enc Tryz.prog w base (fun _ => true) held n 46 [v5] = some (xs[5]'(by omega)) := t5
  have e6 : DataW.trod enc Tryz.prog w base (fun _ => true) held n 5 [v6] = some (xs[6]'(by omega)) := t6
  have e7 : DataW.trod enc Tryz.prog w base (fun _ => true) held n 5 [v7] = some (xs[7]'(by omega)) := t7
  have e8 : DataW.trod enc Tryz.prog w base (fun _ => true) held n 5 [v8] = some (xs[8]'(by omega)) := t8
  have e9 : DataW.trod enc Tryz.prog w base (fun _ => true) held n 2 [v9] = some (xs[9]'(by omega)) := t9
  obtain ⟨z0, hv0, _, wf0⟩ := DataW.trod_int Tryz.underlying5 e0
  obtain ⟨z1, hv1, _, wf1⟩ := DataW.trod_int Tryz.underlying43 e1
  obtain ⟨z2, hv2, _, wf2⟩ := DataW.trod_int Tryz.underlying5 e2
  obtain ⟨z6, hv6, _, wf6⟩ := DataW.trod_int Tryz.underlying5 e6
  obtain ⟨z7, hv7, _, wf7⟩ := DataW.trod_int Tryz.underlying5 e7
  obtain ⟨z8, hv8, _, wf8⟩ := DataW.trod_int Tryz.underlying5 e8
  obtain ⟨z9, hv9, _, wf9⟩ := DataW.trod_int Tryz.underlying2 e9
  simp at hv0 hv1 hv2 hv6 hv7 hv8 hv9
  subst hv0 hv1 hv2 hv6 hv7 hv8 hv9
  obtain ⟨p3, n3, c3, rfl⟩ := slice_shape Tryz.underlying46 e3
  obtain ⟨p4, n4, c4, rfl⟩ := slice_shape Tryz.underlying47 e4
  obtain ⟨p5, n5, c5, rfl⟩ := slice_shape Tryz.underlying46 e5
  obtain ⟨L, hL, hLok⟩ := open_lines e3
  obtain ⟨T, hT, hTok⟩ := open_takes e4
  obtain ⟨M, hM, hMok⟩ := open_lines e5
  exact ⟨z0, z1, z2, p3, n3, c3, p4, n4, c4, p5, n5, c5, z6, z7, z8, z9, L, T, M, rfl, ⟨bounds_u8 wf0, bounds32 wf1, bounds_u8 wf2, hLok, hTok, hMok, bounds_u8 wf6, bounds_u8 wf7, bounds_u8 wf8, bounds_i64 wf9⟩, ⟨hL, hT, hM⟩⟩
end
theorem open_rec {H : Type} {enc : TypeId × Value → H} {w : World} {base b0 : Nat} {held : Bool} {r : Reach} {v : Value} {d : DataW H} {p : List MemPlace}
    (hv : Value.okWide Tryz.prog w r b0 51 v) (h : DataW.Trod enc Tryz.prog w base (fun _ => true) held 51 v d p) : ∃ c, v = .agg c ∧ RecIn w c := by
  obtain ⟨c, rfl, hsz⟩ := okWide_struct Tryz.underlying51 hv
  obtain ⟨fuel, hf⟩ := h
  obtain ⟨xs, n, _, _, hlen, hxl, hg⟩ := DataW.trod_struct Tryz.underlying51 hf
  rw [recCells20] at hlen
  have h9 : xs.length = 9 := hxl
  obtain ⟨v0, v1, v2, v3, v4, v5, v6, v7, v8, v9, v10, v11, v12, v13, v14, v15, v16, v17, v18, v19, hcs⟩ : ∃ v0 v1 v2 v3 v4 v5 v6 v7 v8 v9 v10 v11 v12 v13 v14 v15 v16 v17 v18 v19, c.toList = [v0, v1, v2, v3, v4, v5, v6, v7, v8, v9, v10, v11, v12, v13, v14, v15, v16, v17, v18, v19] := by
    match h : c.toList, hlen with
    | [a0, a1, a2, a3, a4, a5, a6, a7, a8, a9, a10, a11, a12, a13, a14, a15, a16, a17, a18, a19], _ => exact ⟨a0, a1, a2, a3, a4, a5, a6, a7, a8, a9, a10, a11, a12, a13, a14, a15, a16, a17, a18, a19, rfl⟩
  have hcells : (Value.agg c).cells.toList = c.toList := rfl
  rw [hcells, hcs] at hg
  have t0 := hg 0 _ rfl
  have t1 := hg 1 _ rfl
  have t2 := hg 2 _ rfl
  have t3 := hg 3 _ rfl
  have t4 := hg 4 _ rfl
  have t5 := hg 5 _ rfl
  have t6 := hg 6 _ rfl
  have t7 := hg 7 _ rfl
  have t8 := hg 8 _ rfl
  rw [List.getElem?_eq_getElem (by omega)] at t0 t1 t2 t3 t4 t5 t6 t7 t8
  have e0 : DataW.trod enc Tryz.prog w base (fun _ => true) held n 5 [v0] = some (xs[0]'(by omega)) := t0
  have e1 : DataW.trod enc Tryz.prog w base (fun _ => true) held n 43 [v1] = some (xs[1]'(by omega)) := t1
  have e2 : DataW.trod enc Tryz.prog w base (fun _ => true) held n 43 [v2] = some (xs[2]'(by omega)) := t2
  have e3 : DataW.trod enc Tryz.prog w base (fun _ => true) held n 5 [v3] = some (xs[3]'(by omega)) := t3
  have e4 : DataW.trod enc Tryz.prog w base (fun _ => true) held n 4 [v4] = some (xs[4]'(by omega)) := t4
  have e5 : DataW.trod enc Tryz.prog w base (fun _ => true) held n 45 [v5, v6, v7] = some (xs[5]'(by omega)) := t5
  have e6 : DataW.trod enc Tryz.prog w base (fun _ => true) held n 2 [v8] = some (xs[6]'(by omega)) := t6
  have e7 : DataW.trod enc Tryz.prog w base (fun _ => true) held n 5 [v9] = some (xs[7]'(by omega)) := t7
  have e8 : DataW.trod enc Tryz.prog w base (fun _ => true) held n 49 [v10, v11, v12, v13, v14, v15, v16, v17, v18, v19] = some (xs[8]'(by omega)) := t8
  obtain ⟨z0, hv0, _, wf0⟩ := DataW.trod_int Tryz.underlying5 e0
  obtain ⟨z1, hv1, _, wf1⟩ := DataW.trod_int Tryz.underlying43 e1
  obtain ⟨z2, hv2, _, wf2⟩ := DataW.trod_int Tryz.underlying43 e2
  obtain ⟨z3, hv3, _, wf3⟩ := DataW.trod_int Tryz.underlying5 e3
  obtain ⟨z6, hv6, _, wf6⟩ := DataW.trod_int Tryz.underlying2 e6
  obtain ⟨z7, hv7, _, wf7⟩ := DataW.trod_int Tryz.underlying5 e7
  obtain ⟨z4, hv4, _⟩ := DataW.trod_bool Tryz.underlying4 e4
  obtain ⟨key, hkey, hk0, hk1, hk2⟩ := rkey_trod e5
  obtain ⟨k, od, po, lp, ln, lcp, tp, tn, tcp, wp, wn, wcp, sk, fr, to, q, L, T, M, hpe, hpok, hpm⟩ := prog_trod e8
  simp at hv0 hv1 hv2 hv3 hv4 hv6 hv7
  simp only [List.cons.injEq, and_true] at hpe
  obtain ⟨g0, g1, g2, g3, g4, g5, g6, g7, g8, g9⟩ := hpe
  subst hv0 hv1 hv2 hv3 hv4 hv6 hv7 hk0 hk1 hk2 g0 g1 g2 g3 g4 g5 g6 g7 g8 g9
  refine ⟨c, rfl, ⟨z0, z1, z2, z3, z4, key.1, key.2.1, key.2.2, z6, z7, k, od, po, lp, ln, lcp, tp, tn, tcp, wp, wn, wcp, sk, fr, to, q⟩, L, T, M, Array.ext' hcs, ⟨bounds_u8 wf0, bounds32 wf1, bounds32 wf2, bounds_u8 wf3, hkey, bounds_i64 wf6, bounds_u8 wf7, hpok⟩, hpm⟩
end Go.Proofs.YtfdgnniicjdjdaaGreatDoor
