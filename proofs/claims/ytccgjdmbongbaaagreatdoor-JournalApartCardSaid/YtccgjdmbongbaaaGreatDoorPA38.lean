import Derived.Test.YtccgjdmbongbaaaGreatDoorPA37
import Derived.Test.YtccgjdmbongbaaaGreatDoorPA05
import Derived.Test.YtccgjdmbongbaaaGreatDoorPA21
import Derived.Test.YtccgjdmbongbaaaGreatDoorPA06
namespace Go.Proofs.YtccgjdmbongbaaaGreatDoor
open Go.RowKit Go.ChangeShapes Go.WideShapes
set_option linter.unusedVariables false
set_option linter.unusedSimpArgs false
set_option maxRecDepth 10000
def GivesEn (W : World) (X : Rx) (e : Ending) (w' : World) : Prop := Below W.heap.size W w' ∧ if goodX X = true then ∃ p c, e = .returned (.tuple #[.slice p (bytesX X).length c, .int .i64 0]) ∧ Sl w' p (bytesX X).length c (bytesX X) else e = .returned (.tuple #[.slice none 0 0, .int .i64 1])
theorem rec_write_any (r : Rv) (L : List Ln) (T : List Tk) (M : List Ln) (W : World) (hok : Rxok (r.x L T M)) (hk : kOk r.k = true) (hw : Words W) (hP : RvM W r L T M) (h1 : r.ln ≤ 400 ∧ r.tn ≤ 400 ∧ r.wn ≤ 400) (hg : r.k = 1 → goodP 4 4 (r.pg L T M) = true) : Calls Tryz.prog 91 #[.agg (rcs r)] W (GivesB W (bytesX (r.x L T M))) := by
 rcases kOk_cases hk with h | h | h | h | h | h | h | h | h
 · exact rec_write1 r L T M W hok h hw hP h1 (hg h)
 · exact rec_write2 r L T M W hok h
 · exact rec_write3 r L T M W hok h
 · exact rec_write4 r L T M W hok h
 · exact rec_write5 r L T M W hok h
 · exact rec_write6 r L T M W hok h
 · exact rec_write7 r L T M W hok h
 · exact rec_write8 r L T M W hok h
 · exact rec_write9 r L T M W hok h
set_option maxHeartbeats 2000000 in
theorem rec_encode (r : Rv) (L : List Ln) (T : List Tk) (M : List Ln) (W : World) (hw : Words W) (hP : RvM W r L T M) (hok : Rxok (r.x L T M)) (h1 : r.ln ≤ 400 ∧ r.tn ≤ 400 ∧ r.wn ≤ 400) : Calls Tryz.prog 70 #[.agg (rcs r)] W (GivesEn W (r.x L T M)) := by
 obtain ⟨W1, hW1, hb1⟩ : ∃ W1, W.alloc (.cells (rcs r) 40) = W1 ∧ Below W.heap.size W W1 := ⟨_, rfl, (Below.refl _ _).alloc (Nat.le_refl _) _⟩
 obtain ⟨B, hB⟩ : ∃ B, W.heap.size = B := ⟨_, rfl⟩
 have hrb := RB.new W r
 rw [hW1, hB] at hrb
 have HX1 := Lib.hid hrb
 have HW1 := Lib.hid hW1
 have HB1 := Lib.hid hb1
 have HRE := Lib.hid hB
 clear hW1 hb1 hB hrb
 have hgd := rec_good r L T M W1 (hw.later HB1.out) (hP.later HB1.out) hok h1
 have HWR := Lib.hid (fun (h : goodX (r.x L T M) = true) W' (hb : Below W.heap.size W W') => rec_write_any r L T M W' hok (goodX_kOk h) (hw.later hb) (hP.later hb) h1 (fun hk => by have := goodX_prog h; rw [show (r.x L T M).k = 1 from hk] at this; exact this))
 clear hw hP hok h1
 cases hg : goodX (r.x L T M) with
 | false =>
  rw [hg] at hgd
  have HG := Lib.hid hg
  clear hg
  go_enter Tryz.func70, Tryz.ntmps70
  go_upto_region 1 with (fail)
  rw [HW1.out, HRE.out]
  go_wp2_with ((with_reducible refine wpList_load_rc HX1.out ?_ ?_); rfl)
  refine hgd.mono ?_
  rintro e w2 ⟨rfl, h2⟩
  have HF : Hid (GivesEn W (r.x L T M) (.returned (.tuple #[.slice none 0 0, .int .i64 1])) w2) := Lib.hid ⟨HB1.out.trans (h2.mono HB1.out.size), by rw [HG.out, if_neg (by decide)]⟩
  clear h2 hgd
  go_wp2_with fail
  go_ret2
  exact HF.out
 | true =>
  rw [hg] at hgd
  have HG := Lib.hid hg
  clear hg
  go_enter Tryz.func70, Tryz.ntmps70
  go_upto_region 1 with (fail)
  rw [HW1.out, HRE.out]
  go_wp2_with ((with_reducible refine wpList_load_rc HX1.out ?_ ?_); rfl)
  refine hgd.mono ?_
  rintro e w2 ⟨rfl, h2⟩
  have HB2 := Lib.hid (HB1.out.trans (h2.mono HB1.out.size))
  have HX2 := Lib.hid (HX1.out.later h2)
  clear h2 hgd
  go_wp2_with ((with_reducible refine wpList_load_rc HX2.out ?_ ?_); rfl)
  refine (HWR.out HG.out w2 HB2.out).mono ?_
  rintro e w3 ⟨p3, c3, rfl, hs3, hb3⟩
  have HF : Hid (GivesEn W (r.x L T M) (.returned (.tuple #[.slice p3 (bytesX (r.x L T M)).length c3, .int .i64 0])) w3) := Lib.hid ⟨HB2.out.trans (hb3.mono HB2.out.size), by rw [HG.out, if_pos rfl]; exact ⟨p3, c3, rfl, hs3⟩⟩
  clear hs3 hb3
  generalize (bytesX (r.x L T M)).length = n at *
  go_wp2_with fail
  go_ret2
  exact HF.out
def sizeX (X : Rx) : Int := if goodX X = true then 6 + ((bytesX X).length : Int) else 0
theorem good_len {X : Rx} (h : goodX X = true) : 5 ≤ (bytesX X).length ∧ (bytesX X).length ≤ 407 := by
 have hk := goodX_kOk h
 have hp := goodX_prog h
 rw [bytes_len hk]
 rcases kOk_cases hk with h | h | h | h | h | h | h | h | h <;> rw [h]
 · rw [h] at hp
   have hp' : goodP 4 4 X.pg = true := hp
   have := pg_few hp'
   simp [lenK]; omega
 all_goals simp [lenK]
set_option maxHeartbeats 2000000 in
theorem size_x (r : Rv) (L : List Ln) (T : List Tk) (M : List Ln) (W : World) (hw : Words W) (hP : RvM W r L T M) (hok : Rxok (r.x L T M)) (h1 : r.ln ≤ 400 ∧ r.tn ≤ 400 ∧ r.wn ≤ 400) : Calls Tryz.prog 50 #[.agg (rcs r)] W fun e w' => e = .returned (.int .i64 (sizeX (r.x L T M))) ∧ Below W.heap.size W w' := by
 obtain ⟨W1, hW1, hb1⟩ : ∃ W1, W.alloc (.cells (rcs r) 40) = W1 ∧ Below W.heap.size W W1 := ⟨_, rfl, (Below.refl _ _).alloc (Nat.le_refl _) _⟩
 obtain ⟨B, hB⟩ : ∃ B, W.heap.size = B := ⟨_, rfl⟩
 have hrb := RB.new W r
 rw [hW1, hB] at hrb
 have HX1 := Lib.hid hrb
 have HW1 := Lib.hid hW1
 have HB1 := Lib.hid hb1
 have HRE := Lib.hid hB
 clear hW1 hb1 hB hrb
 have hen := rec_encode r L T M W1 (hw.later HB1.out) (hP.later HB1.out) hok h1
 clear hw hP hok h1
 cases hg : goodX (r.x L T M) with
 | false =>
  have HG : Hid (sizeX (r.x L T M) = 0) := Lib.hid (by unfold sizeX; rw [hg]; rfl)
  have HGD := Lib.hid hg
  clear hg
  go_enter Tryz.func50, Tryz.ntmps50
  go_upto_region 1 with (fail)
  rw [HW1.out, HRE.out]
  go_wp2_with ((with_reducible refine wpList_load_rc HX1.out ?_ ?_); rfl)
  refine hen.mono ?_
  rintro e w2 ⟨hb2, hy⟩
  rw [HGD.out, if_neg (by decide)] at hy
  subst hy
  have HB2 := Lib.hid (HB1.out.trans (hb2.mono HB1.out.size))
  clear hb2 hen
  go_wp2_with fail
  refine (fsize_any _ _).mono ?_
  rintro e w3 ⟨rfl, rfl⟩
  go_wp2_with fail
  go_ret
  exact ⟨by rw [HG.out]; rfl, HB2.out⟩
 | true =>
  have hl := good_len hg
  have HG : Hid (sizeX (r.x L T M) = 6 + ((bytesX (r.x L T M)).length : Int)) := Lib.hid (if_pos hg)
  have HGD := Lib.hid hg
  clear hg
  go_enter Tryz.func50, Tryz.ntmps50
  go_upto_region 1 with (fail)
  rw [HW1.out, HRE.out]
  go_wp2_with ((with_reducible refine wpList_load_rc HX1.out ?_ ?_); rfl)
  refine hen.mono ?_
  rintro e w2 ⟨hb2, hy⟩
  rw [HGD.out, if_pos rfl] at hy
  obtain ⟨p2, c2, rfl, _⟩ := hy
  have HB2 := Lib.hid (HB1.out.trans (hb2.mono HB1.out.size))
  clear hb2 hen
  generalize (bytesX (r.x L T M)).length = n at *
  have HL := Lib.hid hl
  clear hl
  go_wp2_with fail
  refine (fsize_any _ _).mono ?_
  rintro e w3 ⟨rfl, rfl⟩
  rw [show sizeI (n : Int) = 6 + (n : Int) from if_neg (by have := HL.out; omega)]
  go_wp2_with fail
  go_ret
  exact ⟨by rw [HG.out]; rfl, HB2.out⟩
def appC (M : List Tc) (at_ : Int) (X : Rx) : List Tc × Int :=
 if goodX X = false ∨ X.k < 2 ∨ 7 < X.k then (M, 1)
 else if X.k = 2 then
  if (getT Tc.id M X.tx).isSome = true ∨ (getT Tc.sg M X.sg).isSome = true then (M, 11)
  else (withT Tc.id M ⟨X.tx, X.sg, X.st, X.cp, false, [], at_, sizeX X⟩, 0)
 else match getT Tc.id M X.tx with
  | none => (M, 10)
  | some t =>
   if X.k = 3 then (if t.dd = true ∨ 6 ≤ t.dn.length then (M, 12) else (withT Tc.id M { t with dn := t.dn ++ [(X.key, X.d)], sz := t.sz + sizeX X }, 0))
   else if X.k = 4 then (if t.dd = true then (M, 12) else (witho Tc.id M X.tx, 0))
   else if X.k = 5 then (if t.dd = true then (M, 12) else (withT Tc.id M { t with dd := true, sz := t.sz + sizeX X }, 0))
   else if X.k = 6 then (if lastC t = ((X.key, X.d), true) then (withT Tc.id M { t with dn := t.dn.dropLast, dd := true, sz := t.sz + sizeX X }, 0) else (M, 12))
   else (if t.dn = [] then (witho Tc.id M X.tx, 0) else (M, 12))
theorem held_load_rc {a : Act} {w : World} {dst : Option Tmp} {x : Operand} {ty : TypeId} {pos : String} {after : Array Edge} {gd : Option (Nat × Bool)} {B : Nat} {r : Rv} (hx : a.eval x = .pointer (some ⟨B, 0, none⟩)) (hC : RB w B r) :
 (execOp a.eval (Oper.mk dst (.load 40 x) ty pos after gd)).run Tryz.prog w = .ok (.value (.agg (rcs r))) w := by
 unfold execOp
 simp only [hx, Instr.loadAt, Instr.sureAddr, Sem.run_bind, Sem.run_pure, Result.andThen_ok, run_loadVar_row w B 40 40 (rcs r) (0, 0) _ hC Tryz.underlying40 rfl (by kernel_rfl)]
def Frs (W : World) (L : List Tv) (t : Tv) : Prop := (∃ u ∈ L, t.p = u.p ∧ t.n = u.n) ∨ ∀ a, t.p = some a → W.heap.size ≤ a.block
theorem size_few {X : Rx} (hg : goodX X = true) : 0 ≤ sizeX X ∧ sizeX X ≤ 10000 := by
 have hl := good_len hg
 unfold sizeX
 rw [if_pos hg]
 omega
theorem appC_k {M : List Tc} {at_ : Int} {X : Rx} {t : Tc} (hg : goodX X = true) (h3 : 3 ≤ X.k ∧ X.k ≤ 7) (ht : getT Tc.id M X.tx = some t) : appC M at_ X =
 if X.k = 3 then (if t.dd = true ∨ 6 ≤ t.dn.length then (M, 12) else (withT Tc.id M ⟨t.id, t.sg, t.st, t.cp, t.dd, t.dn ++ [(X.key, X.d)], t.fs, t.sz + sizeX X⟩, 0))
  else if X.k = 4 then (if t.dd = true then (M, 12) else (witho Tc.id M X.tx, 0))
  else if X.k = 5 then (if t.dd = true then (M, 12) else (withT Tc.id M ⟨t.id, t.sg, t.st, t.cp, true, t.dn, t.fs, t.sz + sizeX X⟩, 0))
  else if X.k = 6 then (if lastC t = ((X.key, X.d), true) then (withT Tc.id M ⟨t.id, t.sg, t.st, t.cp, true, t.dn.dropLast, t.fs, t.sz + sizeX X⟩, 0) else (M, 12))
  else (if t.dn = [] then (witho Tc.id M X.tx, 0) else (M, 12)) := by
 unfold appC
 rw [if_neg (by rw [hg]; simp; omega), if_neg (by omega), ht]
theorem appC_n {at_ : Int} (M : List Tc) (X : Rx) (hg : goodX X = true) (h3 : 3 ≤ X.k ∧ X.k ≤ 7) (ht : getT Tc.id M X.tx = none) : appC M at_ X = (M, 10) := by
 unfold appC
 rw [if_neg (by rw [hg]; simp; omega), if_neg (by omega), ht]
theorem appC_2 {at_ : Int} (M : List Tc) (X : Rx) (hg : goodX X = true) (hk : X.k = 2) : appC M at_ X = if (getT Tc.id M X.tx).isSome = true ∨ (getT Tc.sg M X.sg).isSome = true then (M, 11) else (withT Tc.id M ⟨X.tx, X.sg, X.st, X.cp, false, [], at_, sizeX X⟩, 0) := by
 unfold appC
 rw [if_neg (by rw [hg]; simp; omega), if_pos hk]
theorem TsOk.mono {M : List Tc} {n m : Nat} {y z : Int} (h : TsOk M n y) (hn : n ≤ m) (hz : y ≤ z) : TsOk M m z := ⟨h.ok, h.up, Nat.le_trans h.len hn, h.few, fun t ht => ⟨(h.sz t ht).1, Int.le_trans (h.sz t ht).2 hz⟩⟩
theorem TsOk.with {M : List Tc} {n : Nat} {z : Int} (h : TsOk M n z) {t : Tc} (h1 : Tcok t) (h2 : t.dn.length ≤ 20) (h3 : 0 ≤ t.sz ∧ t.sz ≤ z) : TsOk (withT Tc.id M t) (n + 1) z := by
 refine ⟨fun x hx => ?_, up_withT h.up, Nat.le_trans (len_withT M t) (by have := h.len; omega), fun x hx => ?_, fun x hx => ?_⟩
 · rcases mem_withT.1 hx with rfl | hx
   · exact h1
   · exact h.ok x hx.1
 · rcases mem_withT.1 hx with rfl | hx
   · exact h2
   · exact h.few x hx.1
 · rcases mem_withT.1 hx with rfl | hx
   · exact h3
   · exact h.sz x hx.1
theorem TsOk.without {M : List Tc} {n : Nat} {z : Int} (h : TsOk M n z) (i : Int) : TsOk (witho Tc.id M i) n z :=
 ⟨fun x hx => h.ok x (mem_witho.1 hx).1, up_witho i h.up, Nat.le_trans (len_witho M i) h.len, fun x hx => h.few x (mem_witho.1 hx).1, fun x hx => h.sz x (mem_witho.1 hx).1⟩
theorem TsOk.new {L : List Tc} {n : Nat} {z : Int} (h1 : ∀ t ∈ L, Tcok t) (hn : L.length ≤ n) (h2 : ∀ t ∈ L, t.dn.length ≤ 20) (h3 : ∀ t ∈ L, 0 ≤ t.sz ∧ t.sz ≤ z) : TsOk (newT Tc.id L) n z :=
 ⟨fun x hx => h1 x (mem_newT hx), up_newT L, Nat.le_trans (len_newT L) hn, fun x hx => h2 x (mem_newT hx), fun x hx => h3 x (mem_newT hx)⟩
theorem TsOk.app {M : List Tc} {n : Nat} {z at_ : Int} {X : Rx} (h : TsOk M n z) (hz : 0 ≤ z ∧ z ≤ 1099511627776) (hX : Rxok X) (ha : In64 at_) : TsOk (appC M at_ X).1 (n + 1) (z + 10000) := by
 have hm : TsOk M (n + 1) (z + 10000) := h.mono (by omega) (by omega)
 have hm0 : TsOk M n (z + 10000) := h.mono (by omega) (by omega)
 by_cases hb : goodX X = false ∨ X.k < 2 ∨ 7 < X.k
 · rw [show appC M at_ X = (M, 1) from if_pos hb]
   exact hm
 have hg : goodX X = true := by
  cases hq : goodX X with
  | false => exact absurd (.inl hq) hb
  | true => rfl
 obtain ⟨s1, s2⟩ : 0 ≤ sizeX X ∧ sizeX X ≤ 10000 := size_few hg
 by_cases hk : X.k = 2
 · rw [appC_2 M X hg hk]
   split
   · exact hm
   · exact hm0.with ⟨hX.tx, hX.sg, hX.st, (fun o ho => by cases ho), ha, by simp only; unfold In64; omega⟩ (by simp) ⟨s1, by simp only; omega⟩
 have h3 : 3 ≤ X.k ∧ X.k ≤ 7 := by omega
 cases ht : getT Tc.id M X.tx with
 | none => rw [appC_n M X hg h3 ht]; exact hm
 | some t =>
  obtain ⟨htm, _⟩ := getT_mem ht
  have hok := h.ok t htm
  have hfw := h.few t htm
  have hsz := h.sz t htm
  have hs : In64 (t.sz + sizeX X) := by unfold In64; omega
  rw [appC_k hg h3 ht]
  split
  · split
    · exact hm
    · rename_i hc
      refine hm0.with ⟨hok.id, hok.sg, hok.st, fun o ho => ?_, hok.fs, hs⟩ ?_ ⟨by simp only; omega, by simp only; omega⟩
      · rcases List.mem_append.1 ho with ho | ho
        · exact hok.dn o ho
        · rw [List.mem_singleton.1 ho]
          exact ⟨hX.key, hX.d⟩
      · simp only [List.length_append, List.length_cons, List.length_nil]
        have : ¬ 6 ≤ t.dn.length := fun e => hc (.inr e)
        omega
  · split
    · split
      · exact hm
      · exact hm.without _
    · split
      · split
        · exact hm
        · exact hm0.with ⟨hok.id, hok.sg, hok.st, hok.dn, hok.fs, hs⟩ hfw ⟨by simp only; omega, by simp only; omega⟩
      · split
        · split
          · refine hm0.with ⟨hok.id, hok.sg, hok.st, (fun o ho => hok.dn o ((List.dropLast_sublist t.dn).subset ho)), hok.fs, hs⟩ ?_ ⟨by simp only; omega, by simp only; omega⟩
            simp only [List.length_dropLast]
            omega
          · exact hm
        · split
          · exact hm.without _
          · exact hm
end Go.Proofs.YtccgjdmbongbaaaGreatDoor
namespace Go.Proofs.YtccgjdmbongbaaaGreatDoor
open Go.RowKit Go.ChangeShapes Go.WideShapes Go.Deep
set_option linter.unusedVariables false
set_option maxRecDepth 10000
set_option linter.unusedSimpArgs false
theorem recCells20 : Tryz.prog.cellsOf 40 = 20 := by kernel_rfl
def RecIn (w : World) (a : Array Value) : Prop := ∃ (r : Rv) (L : List Ln) (T : List Tk) (M : List Ln), a = rcs r ∧ Rxok (r.x L T M) ∧ RvM w r L T M
section
variable {H : Type} {enc : TypeId × Value → H} {w : World} {base : Nat} {held : Bool}
theorem rkey_trod {fuel : Nat} {x y z : Value} {d : DataW H × List MemPlace} (h : DataW.trod enc Tryz.prog w base (fun _ => true) held fuel 34 [x, y, z] = some d) : ∃ k : K, Kok k ∧ x = .int .u8 k.1 ∧ y = .int .u8 k.2.1 ∧ z = .int .u8 k.2.2 := by
 obtain ⟨xs, n, _, _, hlen, hxl, hg⟩ := DataW.trod_struct Tryz.underlying34 h
 have h3 : xs.length = 3 := hxl
 have t0 := hg 0 _ rfl
 have t1 := hg 1 _ rfl
 have t2 := hg 2 _ rfl
 rw [List.getElem?_eq_getElem (by omega)] at t0 t1 t2
 have e0 : DataW.trod enc Tryz.prog w base (fun _ => true) held n 5 [x] = some (xs[0]'(by omega)) := t0
 have e1 : DataW.trod enc Tryz.prog w base (fun _ => true) held n 5 [y] = some (xs[1]'(by omega)) := t1
 have e2 : DataW.trod enc Tryz.prog w base (fun _ => true) held n 5 [z] = some (xs[2]'(by omega)) := t2
 obtain ⟨z0, hv0, _, wf0⟩ := DataW.trod_int Tryz.underlying5 e0
 obtain ⟨z1, hv1, _, wf1⟩ := DataW.trod_int Tryz.underlying5 e1
 obtain ⟨z2, hv2, _, wf2⟩ := DataW.trod_int Tryz.underlying5 e2
 simp at hv0 hv1 hv2
 exact ⟨(z0, z1, z2), ⟨bounds_u8 wf0, bounds_u8 wf1, bounds_u8 wf2⟩, hv0, hv1, hv2⟩
theorem prog_trod {fuel : Nat} {v0 v1 v2 v3 v4 v5 v6 v7 v8 v9 : Value} {d : DataW H × List MemPlace} (hf : DataW.trod enc Tryz.prog w base (fun _ => true) held fuel 38 [v0, v1, v2, v3, v4, v5, v6, v7, v8, v9] = some d) : ∃ (k od po : Int) (lp : Option Addr) (ln lcp : Nat) (tp : Option Addr) (tn tcp : Nat) (wp : Option Addr) (wn wcp : Nat) (sk fr to q : Int) (L : List Ln) (T : List Tk) (M : List Ln), [v0, v1, v2, v3, v4, v5, v6, v7, v8, v9] = [.int .u8 k, .int .u32 od, .int .u8 po, .slice lp ln lcp, .slice tp tn tcp, .slice wp wn wcp, .int .u8 sk, .int .u8 fr, .int .u8 to, .int .i64 q] ∧ Pgok ⟨k, od, po, L, T, M, sk, fr, to, q⟩ ∧ PgM w lp ln lcp L tp tn tcp T wp wn wcp M := by
 obtain ⟨xs, n, _, _, hlen, hxl, hg⟩ := DataW.trod_struct Tryz.underlying38 hf
 have h10 : xs.length = 10 := hxl
 have t0 := hg 0 _ rfl
 have t1 := hg 1 _ rfl
 have t2 := hg 2 _ rfl
 have t3 := hg 3 _ rfl
 have t4 := hg 4 _ rfl
 have t5 := hg 5 _ rfl
 have t6 := hg 6 _ rfl
 have t7 := hg 7 _ rfl
 have t8 := hg 8 _ rfl
 have t9 := hg 9 _ rfl
 rw [List.getElem?_eq_getElem (by omega)] at t0 t1 t2 t3 t4 t5 t6 t7 t8 t9
 have e0 : DataW.trod enc Tryz.prog w base (fun _ => true) held n 5 [v0] = some (xs[0]'(by omega)) := t0
 have e1 : DataW.trod enc Tryz.prog w base (fun _ => true) held n 32 [v1] = some (xs[1]'(by omega)) := t1
 have e2 : DataW.trod enc Tryz.prog w base (fun _ => true) held n 5 [v2] = some (xs[2]'(by omega)) := t2
 have e3 : DataW.trod enc Tryz.prog w base (fun _ => true) held n 35 [v3] = some (xs[3]'(by omega)) := t3
 have e4 : DataW.trod enc Tryz.prog w base (fun _ => true) held n 36 [v4] = some (xs[4]'(by omega)) := t4
 have e5 : DataW.trod enc Tryz.prog w base (fun _ => true) held n 35 [v5] = some (xs[5]'(by omega)) := t5
 have e6 : DataW.trod enc Tryz.prog w base (fun _ => true) held n 5 [v6] = some (xs[6]'(by omega)) := t6
 have e7 : DataW.trod enc Tryz.prog w base (fun _ => true) held n 5 [v7] = some (xs[7]'(by omega)) := t7
 have e8 : DataW.trod enc Tryz.prog w base (fun _ => true) held n 5 [v8] = some (xs[8]'(by omega)) := t8
 have e9 : DataW.trod enc Tryz.prog w base (fun _ => true) held n 2 [v9] = some (xs[9]'(by omega)) := t9
 obtain ⟨z0, hv0, _, wf0⟩ := DataW.trod_int Tryz.underlying5 e0
 obtain ⟨z1, hv1, _, wf1⟩ := DataW.trod_int Tryz.underlying32 e1
 obtain ⟨z2, hv2, _, wf2⟩ := DataW.trod_int Tryz.underlying5 e2
 obtain ⟨z6, hv6, _, wf6⟩ := DataW.trod_int Tryz.underlying5 e6
 obtain ⟨z7, hv7, _, wf7⟩ := DataW.trod_int Tryz.underlying5 e7
 obtain ⟨z8, hv8, _, wf8⟩ := DataW.trod_int Tryz.underlying5 e8
 obtain ⟨z9, hv9, _, wf9⟩ := DataW.trod_int Tryz.underlying2 e9
 simp at hv0 hv1 hv2 hv6 hv7 hv8 hv9
 subst hv0 hv1 hv2 hv6 hv7 hv8 hv9
 obtain ⟨p3, n3, c3, rfl⟩ := slice_shape Tryz.underlying35 e3
 obtain ⟨p4, n4, c4, rfl⟩ := slice_shape Tryz.underlying36 e4
 obtain ⟨p5, n5, c5, rfl⟩ := slice_shape Tryz.underlying35 e5
 obtain ⟨L, hL, hLok⟩ := open_lines e3
 obtain ⟨T, hT, hTok⟩ := open_takes e4
 obtain ⟨M, hM, hMok⟩ := open_lines e5
 exact ⟨z0, z1, z2, p3, n3, c3, p4, n4, c4, p5, n5, c5, z6, z7, z8, z9, L, T, M, rfl, ⟨bounds_u8 wf0, bounds32 wf1, bounds_u8 wf2, hLok, hTok, hMok, bounds_u8 wf6, bounds_u8 wf7, bounds_u8 wf8, bounds_i64 wf9⟩, ⟨hL, hT, hM⟩⟩
end
theorem rec_trod {H : Type} {enc : TypeId × Value → H} {w : World} {base : Nat} {held : Bool} {fuel : Nat} {cs : List Value} {d : DataW H × List MemPlace} (hf : DataW.trod enc Tryz.prog w base (fun _ => true) held fuel 40 cs = some d) : ∃ (r : Rv) (L : List Ln) (T : List Tk) (M : List Ln), cs = (rcs r).toList ∧ Rxok (r.x L T M) ∧ RvM w r L T M := by
 obtain ⟨xs, n, _, _, hlen, hxl, hg⟩ := DataW.trod_struct Tryz.underlying40 hf
 rw [recCells20] at hlen
 have h9 : xs.length = 9 := hxl
 obtain ⟨v0, v1, v2, v3, v4, v5, v6, v7, v8, v9, v10, v11, v12, v13, v14, v15, v16, v17, v18, v19, rfl⟩ : ∃ v0 v1 v2 v3 v4 v5 v6 v7 v8 v9 v10 v11 v12 v13 v14 v15 v16 v17 v18 v19, cs = [v0, v1, v2, v3, v4, v5, v6, v7, v8, v9, v10, v11, v12, v13, v14, v15, v16, v17, v18, v19] := by
  match cs, hlen with
  | [a0, a1, a2, a3, a4, a5, a6, a7, a8, a9, a10, a11, a12, a13, a14, a15, a16, a17, a18, a19], _ => exact ⟨a0, a1, a2, a3, a4, a5, a6, a7, a8, a9, a10, a11, a12, a13, a14, a15, a16, a17, a18, a19, rfl⟩
 have t0 := hg 0 _ rfl
 have t1 := hg 1 _ rfl
 have t2 := hg 2 _ rfl
 have t3 := hg 3 _ rfl
 have t4 := hg 4 _ rfl
 have t5 := hg 5 _ rfl
 have t6 := hg 6 _ rfl
 have t7 := hg 7 _ rfl
 have t8 := hg 8 _ rfl
 rw [List.getElem?_eq_getElem (by omega)] at t0 t1 t2 t3 t4 t5 t6 t7 t8
 have e0 : DataW.trod enc Tryz.prog w base (fun _ => true) held n 5 [v0] = some (xs[0]'(by omega)) := t0
 have e1 : DataW.trod enc Tryz.prog w base (fun _ => true) held n 32 [v1] = some (xs[1]'(by omega)) := t1
 have e2 : DataW.trod enc Tryz.prog w base (fun _ => true) held n 32 [v2] = some (xs[2]'(by omega)) := t2
 have e3 : DataW.trod enc Tryz.prog w base (fun _ => true) held n 5 [v3] = some (xs[3]'(by omega)) := t3
 have e4 : DataW.trod enc Tryz.prog w base (fun _ => true) held n 4 [v4] = some (xs[4]'(by omega)) := t4
 have e5 : DataW.trod enc Tryz.prog w base (fun _ => true) held n 34 [v5, v6, v7] = some (xs[5]'(by omega)) := t5
 have e6 : DataW.trod enc Tryz.prog w base (fun _ => true) held n 2 [v8] = some (xs[6]'(by omega)) := t6
 have e7 : DataW.trod enc Tryz.prog w base (fun _ => true) held n 5 [v9] = some (xs[7]'(by omega)) := t7
 have e8 : DataW.trod enc Tryz.prog w base (fun _ => true) held n 38 [v10, v11, v12, v13, v14, v15, v16, v17, v18, v19] = some (xs[8]'(by omega)) := t8
 obtain ⟨z0, hv0, _, wf0⟩ := DataW.trod_int Tryz.underlying5 e0
 obtain ⟨z1, hv1, _, wf1⟩ := DataW.trod_int Tryz.underlying32 e1
 obtain ⟨z2, hv2, _, wf2⟩ := DataW.trod_int Tryz.underlying32 e2
 obtain ⟨z3, hv3, _, wf3⟩ := DataW.trod_int Tryz.underlying5 e3
 obtain ⟨z6, hv6, _, wf6⟩ := DataW.trod_int Tryz.underlying2 e6
 obtain ⟨z7, hv7, _, wf7⟩ := DataW.trod_int Tryz.underlying5 e7
 obtain ⟨z4, hv4, _⟩ := DataW.trod_bool Tryz.underlying4 e4
 obtain ⟨key, hkey, hk0, hk1, hk2⟩ := rkey_trod e5
 obtain ⟨k, od, po, lp, ln, lcp, tp, tn, tcp, wp, wn, wcp, sk, fr, to, q, L, T, M, hpe, hpok, hpm⟩ := prog_trod e8
 simp at hv0 hv1 hv2 hv3 hv4 hv6 hv7
 simp only [List.cons.injEq, and_true] at hpe
 obtain ⟨g0, g1, g2, g3, g4, g5, g6, g7, g8, g9⟩ := hpe
 subst hv0 hv1 hv2 hv3 hv4 hv6 hv7 hk0 hk1 hk2 g0 g1 g2 g3 g4 g5 g6 g7 g8 g9
 exact ⟨⟨z0, z1, z2, z3, z4, key.1, key.2.1, key.2.2, z6, z7, k, od, po, lp, ln, lcp, tp, tn, tcp, wp, wn, wcp, sk, fr, to, q⟩, L, T, M, rfl, ⟨bounds_u8 wf0, bounds32 wf1, bounds32 wf2, bounds_u8 wf3, hkey, bounds_i64 wf6, bounds_u8 wf7, hpok⟩, hpm⟩
theorem open_rec {H : Type} {enc : TypeId × Value → H} {w : World} {base b0 : Nat} {held : Bool} {r : Reach} {v : Value} {d : DataW H} {p : List MemPlace}
 (hv : Value.okWide Tryz.prog w r b0 40 v) (h : DataW.Trod enc Tryz.prog w base (fun _ => true) held 40 v d p) : ∃ c, v = .agg c ∧ RecIn w c := by
 obtain ⟨c, rfl, hsz⟩ := okWide_struct Tryz.underlying40 hv
 obtain ⟨fuel, hf⟩ := h
 obtain ⟨r, L, T, M, hcs, hok, hm⟩ := rec_trod hf
 exact ⟨c, rfl, r, L, T, M, Array.ext' hcs, hok, hm⟩
def rce (r : Rv) : List Value := (rcs r).toList
def RvIn (w : World) (r : Rv) : Prop := ∃ L T M, Rxok (r.x L T M) ∧ RvM w r L T M
theorem RvIn.later {w w' : World} {r : Rv} (h : RvIn w r) (hb : Below w.heap.size w w') : RvIn w' r := by
 obtain ⟨L, T, M, h1, h2⟩ := h
 exact ⟨L, T, M, h1, h2.later hb⟩
structure RcL (w : World) (p : Option Addr) (n c : Nat) (H : List Rv) : Prop where
 row : SlG rce 20 rz w p n c H
 each : ∀ y ∈ H, RvIn w y
theorem RcL.later {w w' : World} {p : Option Addr} {n c : Nat} {H : List Rv} (h : RcL w p n c H) (hb : Below w.heap.size w w') : RcL w' p n c H := ⟨h.row.later hb, fun y hy => (h.each y hy).later hb⟩
theorem RcL.in {w : World} {p : Option Addr} {n c : Nat} {H : List Rv} (h : RcL w p n c H) {j : Nat} (hj : j < n) : RvIn w (H.getD j rz) := by
 refine h.each _ ?_
 rw [List.getD, List.getElem?_eq_getElem (by rw [h.row.len]; exact hj)]
 exact List.getElem_mem _
theorem RcL.at {w : World} {p : Option Addr} {n c : Nat} {H : List Rv} (h : RcL w p n c H) {j : Nat} (hj : j < n) : ∃ b off, p = some ⟨b, off, none⟩ ∧ b < w.heap.size ∧ ∀ i u, (rcs (H.getD j rz)).toList[i]? = some u → w.cell? ⟨b, off + j * 20 + i, none⟩ = some u := by
 obtain ⟨b, off, rfl, hb, hc⟩ := h.row.cell (by omega)
 exact ⟨b, off, rfl, hb, fun i u hu => hc j hj i u hu⟩
def AnyR (_ : Rv) : Prop := True
section
variable {H : Type} {enc : TypeId × Value → H} {w : World} {base : Nat} {held : Bool}
theorem open_recs {fuel : Nat} {a : Option Addr} {len cap : Nat} {x : DataW H × List MemPlace}
 (h : DataW.trod enc Tryz.prog w base (fun _ => true) held fuel 23 [.slice a len cap] = some x) : ∃ L, RcL w a len cap L ∧ ∀ y ∈ L, AnyR y := by
 rcases open_slice Tryz.underlying23 h with ⟨hcs, _⟩ | ⟨a', l, c, m, n, D, Pl, hcs, hb, hl, hm, hmm, hx, hi⟩
 · simp at hcs
   obtain ⟨rfl, rfl, rfl⟩ := hcs
   exact ⟨[], ⟨SlG.empty w, fun y hy => by cases hy⟩, fun y hy => by cases hy⟩
 · simp at hcs
   obtain ⟨rfl, rfl, rfl⟩ := hcs
   rw [if_pos rfl] at hmm
   subst hmm
   have hall : ∀ i, i < len → ∃ y : Rv, RvIn w y ∧ ∀ j u, (rce y)[j]? = some u → w.cell? (a'.add (i * 20 + j)) = some u := by
    intro i hil
    obtain ⟨cs', hc, ht⟩ := hi i (by omega)
    rw [recCells20] at hc
    obtain ⟨r, L, T, M, hr, hok, hm2⟩ := rec_trod ht
    obtain ⟨_, hcl, hat⟩ := World.cells?_some hc
    refine ⟨r, ⟨L, T, M, hok, hm2⟩, fun j u hu => ?_⟩
    have hj : j < 20 := (List.getElem?_eq_some_iff.1 hu).1
    have := hat j hj
    rw [← Go.Deep.add_add, this]
    rw [hr]
    exact hu
   obtain ⟨f, hf⟩ : ∃ f : Nat → Rv, ∀ i, i < len → RvIn w (f i) ∧ ∀ j u, (rce (f i))[j]? = some u → w.cell? (a'.add (i * 20 + j)) = some u :=
    ⟨fun i => if h : i < len then Classical.choose (hall i h) else rz, fun i h => by dsimp only; rw [dif_pos h]; exact Classical.choose_spec (hall i h)⟩
   refine ⟨(List.range len).map f, ⟨⟨by simp, hl, hm, (fun h => by cases h), fun h0 => ?_⟩, fun y hy => ?_⟩, fun y hy => trivial⟩
   · have h00 := (hf 0 h0).2 0 _ rfl
     have hsp : a'.spot = none := World.cell?_spot (a := a') (by simpa [Addr.add] using h00)
     obtain ⟨b, off, sp⟩ := a'
     replace hsp : sp = none := hsp
     subst hsp
     rw [Go.WideShapes.add_plain] at h00
     refine ⟨b, off, rfl, World.block_lt_of_cell? _ _ h00, fun j hj i v hv => ?_⟩
     have e : ((List.range len).map f).getD j rz = f j := by
      rw [List.getD, List.getElem?_map, List.getElem?_range hj]; rfl
     rw [e] at hv
     have := (hf j hj).2 i v hv
     rwa [Go.WideShapes.add_plain, ← Nat.add_assoc] at this
   · obtain ⟨i, hi', rfl⟩ := List.mem_map.1 hy
     exact (hf i (List.mem_range.1 hi')).1
end
end Go.Proofs.YtccgjdmbongbaaaGreatDoor
namespace Go.Proofs.YtccgjdmbongbaaaGreatDoor
open Go.RowKit Go.ChangeShapes Go.WideShapes
set_option linter.unusedVariables false
set_option linter.unusedSimpArgs false
set_option maxRecDepth 10000
theorem isfew_p (k od po : Int) (lp : Option Addr) (ln lcp : Nat) (tp : Option Addr) (tn tcp : Nat) (wp : Option Addr) (wn wcp : Nat) (sk fr to q : Int) (W : World) : Calls Tryz.prog 40 #[.agg #[.int .u8 k, .int .u32 od, .int .u8 po, .slice lp ln lcp, .slice tp tn tcp, .slice wp wn wcp, .int .u8 sk, .int .u8 fr, .int .u8 to, .int .i64 q]] W fun e w' => e = .returned (.bool (decide (ln ≤ 20 ∧ tn ≤ 30 ∧ wn ≤ 20))) ∧ Below W.heap.size W w' := by
 have HB : Hid (Below W.heap.size W (W.alloc (.cells #[.int .u8 k, .int .u32 od, .int .u8 po, .slice lp ln lcp, .slice tp tn tcp, .slice wp wn wcp, .int .u8 sk, .int .u8 fr, .int .u8 to, .int .i64 q] 38))) := Lib.hid ((Below.refl _ _).alloc (Nat.le_refl _) _)
 obtain ⟨r, hr⟩ : ∃ r, decide (ln ≤ 20 ∧ tn ≤ 30 ∧ wn ≤ 20) = r := ⟨_, rfl⟩
 have HR := Lib.hid hr
 rw [hr]
 clear hr
 by_cases h1 : ln ≤ 20
 case neg =>
  have d1 : decide ((ln : Int) ≤ 20) = false := decide_eq_false (by omega)
  obtain rfl : r = false := by rw [← HR.out]; exact decide_eq_false (by omega)
  go_enter Tryz.func40, Tryz.ntmps40
  go_wp2_with fail
  go_ret
  exact ⟨rfl, HB.out⟩
 have d1 : decide ((ln : Int) ≤ 20) = true := decide_eq_true (by omega)
 by_cases h2 : tn ≤ 30
 case neg =>
  have d2 : decide ((tn : Int) ≤ 30) = false := decide_eq_false (by omega)
  obtain rfl : r = false := by rw [← HR.out]; exact decide_eq_false (by omega)
  go_enter Tryz.func40, Tryz.ntmps40
  go_wp2_with fail
  go_ret
  exact ⟨rfl, HB.out⟩
 have d2 : decide ((tn : Int) ≤ 30) = true := decide_eq_true (by omega)
 by_cases h3 : wn ≤ 20
 case neg =>
  have d3 : decide ((wn : Int) ≤ 20) = false := decide_eq_false (by omega)
  obtain rfl : r = false := by rw [← HR.out]; exact decide_eq_false (by omega)
  go_enter Tryz.func40, Tryz.ntmps40
  go_wp2_with fail
  go_ret
  exact ⟨rfl, HB.out⟩
 have d3 : decide ((wn : Int) ≤ 20) = true := decide_eq_true (by omega)
 obtain rfl : r = true := by rw [← HR.out]; exact decide_eq_true (by omega)
 go_enter Tryz.func40, Tryz.ntmps40
 go_wp2_with fail
 go_ret
 exact ⟨rfl, HB.out⟩
def fewI (ln tn wn : Nat) : Int := if ln ≤ 20 ∧ tn ≤ 30 ∧ wn ≤ 20 then 1 else 0
theorem few_p (k od po : Int) (lp : Option Addr) (ln lcp : Nat) (tp : Option Addr) (tn tcp : Nat) (wp : Option Addr) (wn wcp : Nat) (sk fr to q : Int) (W : World) : Calls Tryz.prog 20 #[.agg #[.int .u8 k, .int .u32 od, .int .u8 po, .slice lp ln lcp, .slice tp tn tcp, .slice wp wn wcp, .int .u8 sk, .int .u8 fr, .int .u8 to, .int .i64 q]] W fun e w' => e = .returned (.int .i64 (fewI ln tn wn)) ∧ Below W.heap.size W w' := by
 obtain ⟨W1, hW1, hb1⟩ : ∃ W1, W.alloc (.cells #[.int .u8 k, .int .u32 od, .int .u8 po, .slice lp ln lcp, .slice tp tn tcp, .slice wp wn wcp, .int .u8 sk, .int .u8 fr, .int .u8 to, .int .i64 q] 38) = W1 ∧ Below W.heap.size W W1 := ⟨_, rfl, (Below.refl _ _).alloc (Nat.le_refl _) _⟩
 have HI := Lib.hid (isfew_p k od po lp ln lcp tp tn tcp wp wn wcp sk fr to q W1)
 have HB1 := Lib.hid hb1
 have HW1 := Lib.hid hW1
 clear hW1 hb1
 by_cases h : ln ≤ 20 ∧ tn ≤ 30 ∧ wn ≤ 20
 · have hi := HI.out
   rw [decide_eq_true h] at hi
   have HF : Hid (fewI ln tn wn = 1) := Lib.hid (if_pos h)
   clear h
   go_enter Tryz.func20, Tryz.ntmps20
   go_wp2_with fail
   rw [HW1.out]
   refine hi.mono ?_
   rintro e w2 ⟨rfl, h2⟩
   have HB2 := Lib.hid (HB1.out.trans (h2.mono HB1.out.size))
   clear hi h2
   go_wp2_with fail
   go_ret
   exact ⟨by rw [HF.out]; rfl, HB2.out⟩
 · have hi := HI.out
   rw [decide_eq_false h] at hi
   have HF : Hid (fewI ln tn wn = 0) := Lib.hid (if_neg h)
   clear h
   go_enter Tryz.func20, Tryz.ntmps20
   go_wp2_with fail
   rw [HW1.out]
   refine hi.mono ?_
   rintro e w2 ⟨rfl, h2⟩
   have HB2 := Lib.hid (HB1.out.trans (h2.mono HB1.out.size))
   clear hi h2
   go_wp2_with fail
   go_ret
   exact ⟨by rw [HF.out]; rfl, HB2.out⟩
def SmV (r : Rv) : Prop := r.ln ≤ 20 ∧ r.tn ≤ 30 ∧ r.wn ≤ 20
section
theorem run_loadVar_atT {P : Program} (w : World) (g i : Nat) (ty : TypeId) (part : Array Value) (d : TypeDesc) (hp : ∀ j u, part.toList[j]? = some u → w.cell? ⟨g, i + j, none⟩ = some u)
 (hu : P.underlying ty = some d) (hd : (match d with | .struct _ | .array _ _ => true | _ => false) = true) (hi : (P.info? ty).map (·.size) = some part.size) :
 (loadVar ty ⟨g, i, none⟩).run P w = .ok (.agg part) w := by
 have hl : (loadCells ⟨g, i, none⟩ part.toList.length).run P w = .ok part.toList.toArray w :=
  run_loadCells_list (P := P) w ⟨g, i, none⟩ part.toList (fun j v hv => by
   rw [add_none]
   exact hp j v hv)
 cases hq : P.info? ty with
 | none => simp [hq] at hi
 | some inf =>
  have hs : inf.size = part.size := by simpa [hq] using hi
  have hagg : (isAgg ty).run P w = .ok true w := by
   unfold isAgg
   rw [Sem.run_bind, run_underlying hu w]
   cases d <;> simp_all
  simp only [Array.length_toList, Array.toArray_toList] at hl
  simp [loadVar, Sem.run_bind, hagg, sizeOf, typeInfo, hq, hs, hl]
section
variable {ops : Array Oper} {rest : List Oper} {a : Act} {w : World} {Q : Exit → Act → World → Prop} {dst : Option Tmp} {ty : TypeId} {pos : String} {after : Array Edge}
theorem wpList_load_ratT {x : Operand} {g i : Nat} {r : Rv} (hx : a.eval x = .pointer (some ⟨g, i, none⟩)) (hC : ∀ j u, (rcs r).toList[j]? = some u → w.cell? ⟨g, i + j, none⟩ = some u)
 (h : wpList Tryz.prog ops Q rest (a.put dst (.agg (rcs r))) w) : wpList Tryz.prog ops Q (Oper.mk dst (.load 40 x) ty pos after none :: rest) a w := by
 refine wpList_plain rfl fun K hK => ?_
 unfold Oper.wp execOp
 simp only [hx, Instr.loadAt, Instr.sureAddr, Sem.run_bind, Sem.run_pure, Result.andThen_ok, run_loadVar_atT (P := Tryz.prog) w g i 40 (rcs r) _ hC Tryz.underlying40 rfl (by kernel_rfl)]
 exact hK _ _ h
theorem wpList_load_patT {x : Operand} {g i : Nat} {r : Rv} (hx : a.eval x = .pointer (some ⟨g, i, none⟩)) (hC : ∀ j u, (pcs r).toList[j]? = some u → w.cell? ⟨g, i + j, none⟩ = some u)
 (h : wpList Tryz.prog ops Q rest (a.put dst (.agg (pcs r))) w) : wpList Tryz.prog ops Q (Oper.mk dst (.load 38 x) ty pos after none :: rest) a w := by
 refine wpList_plain rfl fun K hK => ?_
 unfold Oper.wp execOp
 simp only [hx, Instr.loadAt, Instr.sureAddr, Sem.run_bind, Sem.run_pure, Result.andThen_ok, run_loadVar_atT (P := Tryz.prog) w g i 38 (pcs r) _ hC Tryz.underlying38 rfl (by kernel_rfl)]
 exact hK _ _ h
end
end
def FewR (W : World) (n : Nat) (H : List Rv) (e : Ending) (w' : World) : Prop := ∃ t : Bool, e = .returned (.bool t) ∧ (t = true → n ≤ 60 ∧ ∀ j, j < n → SmV (H.getD j rz)) ∧ Below W.heap.size W w'
set_option maxHeartbeats 2000000 in
theorem jfew_any (p : Option Addr) (n c : Nat) (H : List Rv) (w : World) (h : RcL w p n c H) : Calls Tryz.prog 7 #[.slice p n c] w (FewR w n H) := by
 have HA := Lib.hid h
 have hcap := h.row.cap
 clear h
 go_enter Tryz.func7, Tryz.ntmps7
 by_cases hn : 60 < n
 · have hn' : (60 : Int) < n := by omega
   have HX : Hid (FewR w n H (.returned (.bool false)) w) := Lib.hid ⟨false, rfl, (fun h => by cases h), Below.refl _ _⟩
   go_wp2_with fail
   go_ret
   exact HX.out
 · have hn' : ¬ (60 : Int) < n := by omega
   have HNK : Hid (n ≤ 60) := Lib.hid (by omega)
   go_wp2_with fail
   go_loopw [3] (fun i wr => ∃ j : Nat, j ≤ n ∧ i = .int .i64 (j : Int) ∧ Hid ((∀ i, i < j → SmV (H.getD i rz)) ∧ Below w.heap.size w wr)) (fun i _ => n - (Go.RowKit.intOf i).toNat)
   case atStart => exact ⟨0, Nat.zero_le _, rfl, Lib.hid ⟨(fun j hj => by omega), Below.refl _ _⟩⟩
   case round =>
    obtain ⟨j, hj, rfl, HR⟩ := hrel
    by_cases hlt : j < n
    · have hlt' : (j : Int) < n := by omega
      obtain ⟨b, off, rfl, _, hpc⟩ := (HA.out.later HR.out.2).at hlt
      have hfw := few_p (H.getD j rz).pk (H.getD j rz).od (H.getD j rz).po (H.getD j rz).lp (H.getD j rz).ln (H.getD j rz).lcp (H.getD j rz).tp (H.getD j rz).tn (H.getD j rz).tcp (H.getD j rz).wp (H.getD j rz).wn (H.getD j rz).wcp (H.getD j rz).sk (H.getD j rz).fr (H.getD j rz).to (H.getD j rz).q wr
      have HST : Hid (fewI (H.getD j rz).ln (H.getD j rz).tn (H.getD j rz).wn = 1 → ∀ i, i < j + 1 → SmV (H.getD i rz)) := Lib.hid fun h i hi => by
       rcases Nat.lt_or_ge i j with h' | h'
       · exact HR.out.1 i h'
       · obtain rfl : i = j := by omega
         unfold fewI at h
         by_cases hs : (H.getD i rz).ln ≤ 20 ∧ (H.getD i rz).tn ≤ 30 ∧ (H.getD i rz).wn ≤ 20
         · exact hs
         · rw [if_neg hs] at h
           cases h
      have HFI : Hid (fewI (H.getD j rz).ln (H.getD j rz).tn (H.getD j rz).wn = 0 ∨ fewI (H.getD j rz).ln (H.getD j rz).tn (H.getD j rz).wn = 1) := Lib.hid (by
       unfold fewI
       split
       · exact .inr rfl
       · exact .inl rfl)
      have HPC : Hid (∀ k u, (pcs (H.getD j rz)).toList[k]? = some u → w.cell? ⟨b, off + j * 20 + 10 + k, none⟩ = some u ∧ wr.cell? ⟨b, off + j * 20 + 10 + k, none⟩ = some u) := Lib.hid fun k u hu => by
       have hk : k < (pcs (H.getD j rz)).size := by
        have := (List.getElem?_eq_some_iff.1 hu).1
        simpa using this
       have h2 := hpc (10 + k) u (by
        rw [Array.getElem?_toList, rcs_prog _ k hk, ← Array.getElem?_toList]
        exact hu)
       have e : off + j * 20 + (10 + k) = off + j * 20 + 10 + k := by omega
       rw [e] at h2
       exact ⟨by
        have hlt2 := HA.out.at hlt
        obtain ⟨b2, off2, hp2, _, hc2⟩ := hlt2
        cases hp2
        have h3 := hc2 (10 + k) u (by
         rw [Array.getElem?_toList, rcs_prog _ k hk, ← Array.getElem?_toList]
         exact hu)
        rwa [e] at h3, h2⟩
      have HPW := Lib.hid fun k u hu => (HPC.out k u hu).2
      have HFW := Lib.hid hfw
      clear hpc hfw HPC
      generalize H.getD j rz = y at *
      generalize fewI y.ln y.tn y.wn = fi at *
      rcases HFI.out with rfl | rfl
      · go_wp2_with ((with_reducible refine wpList_load_patT (r := y) ?_ HPW.out ?_); rfl)
        refine HFW.out.mono ?_
        rintro e w2 ⟨rfl, hb2⟩
        have HX : Hid (FewR w n H (.returned (.bool false)) w2) := Lib.hid ⟨false, rfl, (fun h => by cases h), HR.out.2.trans (hb2.mono HR.out.2.size)⟩
        clear hb2
        go_wp2_with fail
        go_ret
        exact HX.out
      · go_wp2_with ((with_reducible refine wpList_load_patT (r := y) ?_ HPW.out ?_); rfl)
        refine HFW.out.mono ?_
        rintro e w2 ⟨rfl, hb2⟩
        have HB2 := Lib.hid (HR.out.2.trans (hb2.mono HR.out.2.size))
        clear hb2
        go_wp2_with fail
        go_roundw
        case rel => exact ⟨j + 1, by omega, by go_num, Lib.hid ⟨HST.out (by trivial), HB2.out⟩⟩
        case measure =>
         simp [Go.RowKit.intOf]
         omega
    · obtain rfl : n = j := by omega
      have HX : Hid (FewR w n H (.returned (.bool true)) wr) := Lib.hid ⟨true, rfl, fun _ => ⟨HNK.out, HR.out.1⟩, HR.out.2⟩
      go_wp2_with fail
      go_ret
      exact HX.out
def FewT (n : Nat) (L : List Tv) : Prop := n ≤ 12 ∧ ∀ j, j < n → (L.getD j tv0).n ≤ 20 ∧ 0 ≤ (L.getD j tv0).c.sz ∧ (L.getD j tv0).c.sz ≤ 1048576
def GivesF (W : World) (n : Nat) (L : List Tv) (e : Ending) (w' : World) : Prop := ∃ t : Bool, e = .returned (.bool t) ∧ (t = true → FewT n L) ∧ Below W.heap.size W w'
set_option maxHeartbeats 2000000 in
theorem jisfew_any (p : Option Addr) (n c : Nat) (L : List Tv) (w : World) (h : SlG tce 8 tv0 w p n c L) : Calls Tryz.prog 19 #[.slice p n c] w (GivesF w n L) := by
 have HA := Lib.hid h
 have hcap := h.cap
 clear h
 go_enter Tryz.func19, Tryz.ntmps19
 by_cases hn : 12 < n
 · have hn' : (12 : Int) < n := by omega
   have HX : Hid (GivesF w n L (.returned (.bool false)) w) := Lib.hid ⟨false, rfl, (fun h => by cases h), Below.refl _ _⟩
   go_wp2_with fail
   go_ret
   exact HX.out
 · have hn' : ¬ (12 : Int) < n := by omega
   have HNK : Hid (n ≤ 12) := Lib.hid (by omega)
   go_wp2_with fail
   go_loopw [3] (fun i wr => ∃ j : Nat, j ≤ n ∧ i = .int .i64 (j : Int) ∧ Hid ((∀ j', j' < j → (L.getD j' tv0).n ≤ 20 ∧ 0 ≤ (L.getD j' tv0).c.sz ∧ (L.getD j' tv0).c.sz ≤ 1048576) ∧ Below w.heap.size w wr)) (fun i _ => n - (Go.RowKit.intOf i).toNat)
   case atStart => exact ⟨0, Nat.zero_le _, rfl, Lib.hid ⟨(fun j hj => by omega), Below.refl _ _⟩⟩
   case round =>
    obtain ⟨j, hj, rfl, HR⟩ := hrel
    by_cases hlt : j < n
    · have hlt' : (j : Int) < n := by omega
      obtain ⟨b, off, rfl, _, c0, c1, c2, c3, c4, c5, c6, c7⟩ := txr_cells (HA.out.later HR.out.2) hlt
      have HST : Hid (((L.getD j tv0).n ≤ 20 ∧ 0 ≤ (L.getD j tv0).c.sz ∧ (L.getD j tv0).c.sz ≤ 1048576) → ∀ i, i < j + 1 → (L.getD i tv0).n ≤ 20 ∧ 0 ≤ (L.getD i tv0).c.sz ∧ (L.getD i tv0).c.sz ≤ 1048576) := Lib.hid fun h i hi => by
       rcases Nat.lt_or_ge i j with h' | h'
       · exact HR.out.1 i h'
       · obtain rfl : i = j := by omega
         exact h
      clear c0 c1 c2 c3 c4 c6
      generalize L.getD j tv0 = x at *
      by_cases h1 : 20 < x.n
      · have g1 : (20 : Int) < x.n := by omega
        have g2 : decide ((20 : Int) < (x.n : Int)) = true := decide_eq_true g1
        have HH := Lib.hid h1
        clear h1
        have HX : Hid (GivesF w n L (.returned (.bool false)) wr) := Lib.hid ⟨false, rfl, (fun h => by cases h), HR.out.2⟩
        go_wp2_with fail
        go_ret
        exact HX.out
      · have g1 : ¬ (20 : Int) < x.n := by omega
        have g2 : decide ((20 : Int) < (x.n : Int)) = false := decide_eq_false g1
        by_cases h2 : x.c.sz < 0
        · have g3 : decide (x.c.sz < 0) = true := decide_eq_true h2
          have HH := Lib.hid h1
          clear h1
          have HX : Hid (GivesF w n L (.returned (.bool false)) wr) := Lib.hid ⟨false, rfl, (fun h => by cases h), HR.out.2⟩
          go_wp2_with fail
          go_ret
          exact HX.out
        · have g3 : decide (x.c.sz < 0) = false := decide_eq_false h2
          by_cases h4 : 1048576 < x.c.sz
          · have g5 : decide (1048576 < x.c.sz) = true := decide_eq_true h4
            have HH := Lib.hid h1
            clear h1
            have HX : Hid (GivesF w n L (.returned (.bool false)) wr) := Lib.hid ⟨false, rfl, (fun h => by cases h), HR.out.2⟩
            go_wp2_with fail
            go_ret
            exact HX.out
          · have g5 : decide (1048576 < x.c.sz) = false := decide_eq_false h4
            have HX := Lib.hid (HST.out ⟨by omega, by omega, by omega⟩)
            have HH := Lib.hid h1
            clear h1
            go_wp2_with fail
            go_roundw
            case rel => exact ⟨j + 1, by omega, by go_num, Lib.hid ⟨HX.out, HR.out.2⟩⟩
            case measure =>
             simp [Go.RowKit.intOf]
             omega
    · obtain rfl : n = j := by omega
      have HX : Hid (GivesF w n L (.returned (.bool true)) wr) := Lib.hid ⟨true, rfl, fun _ => ⟨HNK.out, HR.out.1⟩, HR.out.2⟩
      go_wp2_with fail
      go_ret
      exact HX.out
theorem jFew_any (p : Option Addr) (n c : Nat) (L : List Tv) (w : World) (h : SlG tce 8 tv0 w p n c L) : Calls Tryz.prog 6 #[.slice p n c] w fun e w' => ∃ t : Bool, e = .returned (.int .i64 (if t then 1 else 0)) ∧ (t = true → FewT n L) ∧ Below w.heap.size w w' := by
 have HF := Lib.hid (jisfew_any p n c L w h)
 clear h
 go_enter Tryz.func6, Tryz.ntmps6
 go_wp2_with fail
 refine HF.out.mono ?_
 rintro e1 w1 ⟨t, rfl, ht, hb⟩
 have HT := Lib.hid (And.intro ht hb)
 clear ht hb HF
 cases t with
 | true =>
  go_wp2_with fail
  go_ret
  exact ⟨true, rfl, fun _ => HT.out.1 (by trivial), HT.out.2⟩
 | false =>
  go_wp2_with fail
  go_ret
  exact ⟨false, rfl, (fun h => by cases h), HT.out.2⟩
abbrev JOk (M : List Tc) : Prop := TsOk M 200 1000000000000
def JActed (Ju : World → Nat → List Tc → (Nat → Prop) → Prop) (w w' : World) (B : Nat) (M : List Tc) (Q : Nat → Prop) : Prop := ∃ Q', Ju w' B M Q' ∧ (∀ j, Q' j → Q j ∨ w.heap.size ≤ j) ∧ Turn Q w w'
structure NewT (w w' : World) (r : Option Addr) (L : List Tv) : Prop where
 row : ∀ a, r = some a → w.heap.size ≤ a.block
 each : ∀ t ∈ L, 0 < t.n → ∀ a, t.p = some a → w.heap.size ≤ a.block ∧ ∀ b, r = some b → b.block ≠ a.block
 free : ∀ t ∈ L, 0 < t.n → ∀ a, t.p = some a → ∃ cs T, w'.heap[a.block]? = some (.cells cs T (0, 0))
 apart : ∀ i j, i < L.length → j < L.length → i ≠ j → 0 < (L.getD i tv0).n → 0 < (L.getD j tv0).n → ∀ a b, (L.getD i tv0).p = some a → (L.getD j tv0).p = some b → a.block ≠ b.block
structure JnI (NB : Nat) (Wd : World → Prop) (Ju : World → Nat → List Tc → (Nat → Prop) → Prop) : Prop where
 wd : ∀ {w w' : World}, Wd w → Below w.heap.size w w' → Wd w'
 keep : ∀ {w w' : World} {B : Nat} {M : List Tc} {Q S : Nat → Prop}, Ju w B M Q → Turn S w w' → (∀ j, Q j → ¬ S j) → Ju w' B M Q
 lt : ∀ {w : World} {B : Nat} {M : List Tc} {Q : Nat → Prop}, Ju w B M Q → ∀ j, Q j → j < w.heap.size
 new : ∀ (p : Option Addr) (n c : Nat) (L : List Tv) (w : World), TL w p n c L → n ≤ 100 → (∀ t ∈ L, t.n ≤ 100) → (∀ t ∈ L, 0 ≤ t.c.id ∧ t.c.id ≤ 4294967295) → Calls Tryz.prog 9 #[.slice p n c] w fun e w' => ∃ B Q, e = .returned (.pointer (some ⟨B, 0, none⟩)) ∧ Ju w' B (newT Tc.id (L.map (·.c))) Q ∧ (∀ j, Q j → w.heap.size ≤ j) ∧ Below w.heap.size w w'
 get : ∀ (w : World) (B : Nat) (M : List Tc) (Q : Nat → Prop) (i : Int), Ju w B M Q → JOk M → 0 ≤ i ∧ i ≤ 4294967295 → Calls Tryz.prog 16 #[.pointer (some ⟨B, 0, none⟩), .int .u32 i] w fun e w' => ∃ t : Tv, e = .returned (.tuple #[.agg #[.int .u32 t.c.id, .int .u32 t.c.sg, .int .u8 t.c.st, .bool t.c.cp, .bool t.c.dd, .slice t.p t.n t.m, .int .i64 t.c.fs, .int .i64 t.c.sz], .bool (getT Tc.id M i).isSome]) ∧ t.c = (getT Tc.id M i).getD tc0 ∧ TvM w' t ∧ Below w.heap.size w w'
 all : ∀ (w : World) (B : Nat) (M : List Tc) (Q : Nat → Prop), Ju w B M Q → JOk M → M.length ≤ NB → Calls Tryz.prog 14 #[.pointer (some ⟨B, 0, none⟩)] w fun e w' => ∃ r m d L, e = .returned (.slice r m d) ∧ TL w' r m d L ∧ L.map (·.c) = M ∧ NewT w w' r L ∧ Below w.heap.size w w'
 apply : ∀ (w : World) (B : Nat) (M : List Tc) (Q : Nat → Prop) (at_ : Int) (r : Rv) (La : List Ln) (Ta : List Tk) (Ma : List Ln), Wd w → Ju w B M Q → JOk M → In64 at_ → RvM w r La Ta Ma → Rxok (r.x La Ta Ma) → SmV r → Calls Tryz.prog 12 #[.pointer (some ⟨B, 0, none⟩), .int .i64 at_, .agg (rcs r)] w fun e w' => e = .returned (.int .i64 (appC M at_ (r.x La Ta Ma)).2) ∧ JActed Ju w w' B (appC M at_ (r.x La Ta Ma)).1 Q
 last : ∀ (w : World) (t : Tv), TvM w t → (∀ o ∈ t.c.dn, Ook o) → t.n ≤ 100 → Calls Tryz.prog 72 #[.agg #[.int .u32 t.c.id, .int .u32 t.c.sg, .int .u8 t.c.st, .bool t.c.cp, .bool t.c.dd, .slice t.p t.n t.m, .int .i64 t.c.fs, .int .i64 t.c.sz]] w fun e w' => e = .returned (.tuple #[.agg #[.int .u8 (lastC t.c).1.1.1, .int .u8 (lastC t.c).1.1.2.1, .int .u8 (lastC t.c).1.1.2.2, .int .i64 (lastC t.c).1.2], .bool (lastC t.c).2]) ∧ Below w.heap.size w w'
structure JnI2 (NB : Nat) (Ju : World → Nat → List Tc → (Nat → Prop) → Prop) : Prop where
 of_ : ∀ (w : World) (B : Nat) (M : List Tc) (Q : Nat → Prop) (i : Int), Ju w B M Q → JOk M → 0 ≤ i ∧ i ≤ 4294967295 → Calls Tryz.prog 17 #[.pointer (some ⟨B, 0, none⟩), .int .u32 i] w fun e w' => ∃ t : Tv, e = .returned (.tuple #[.agg #[.int .u32 t.c.id, .int .u32 t.c.sg, .int .u8 t.c.st, .bool t.c.cp, .bool t.c.dd, .slice t.p t.n t.m, .int .i64 t.c.fs, .int .i64 t.c.sz], .bool (getT Tc.sg M i).isSome]) ∧ t.c = (getT Tc.sg M i).getD tc0 ∧ TvM w' t ∧ Below w.heap.size w w'
structure JnI3 (NB : Nat) (Ju : World → Nat → List Tc → (Nat → Prop) → Prop) : Prop where
 copy : ∀ (w : World) (B : Nat) (M : List Tc) (Q : Nat → Prop), Ju w B M Q → JOk M → M.length ≤ NB → Calls Tryz.prog 15 #[.pointer (some ⟨B, 0, none⟩)] w fun e w' => ∃ B' Q', e = .returned (.pointer (some ⟨B', 0, none⟩)) ∧ Ju w' B' M Q' ∧ (∀ j, Q' j → w.heap.size ≤ j) ∧ Below w.heap.size w w'
structure JnI5 (NB : Nat) (Ju : World → Nat → List Tc → (Nat → Prop) → Prop) : Prop where
 first : ∀ (w : World) (B : Nat) (M : List Tc) (Q : Nat → Prop), Ju w B M Q → JOk M → Calls Tryz.prog 18 #[.pointer (some ⟨B, 0, none⟩)] w fun e w' => e = .returned (.tuple #[.int .i64 (firstC M).1, .bool (firstC M).2]) ∧ Below w.heap.size w w'
variable {NB : Nat} {Wd : World → Prop} {Ju : World → Nat → List Tc → (Nat → Prop) → Prop}
theorem JnI.later (I : JnI NB Wd Ju) {w w' : World} {B : Nat} {M : List Tc} {Q : Nat → Prop} (h : Ju w B M Q) (hb : Below w.heap.size w w') : Ju w' B M Q := I.keep (S := fun _ => False) h (Turn.of_below hb) (fun _ _ h => h)
theorem JActed.ahead {w w1 w' : World} {B : Nat} {M : List Tc} {Q : Nat → Prop} (hb : Below w.heap.size w w1) (h : JActed Ju w1 w' B M Q) : JActed Ju w w' B M Q := by
 obtain ⟨Q', h1, h2, h3⟩ := h
 exact ⟨Q', h1, fun j hj => (h2 j hj).imp id (Nat.le_trans hb.size), (Turn.of_below (S := Q) hb).trans h3 (fun _ _ h => h)⟩
def fitB (c : Tc) (k : Int) (key : K) (d : Int) : Bool := if k = 3 then !c.dd && decide ((c.dn.length : Int) < 6) else if k = 4 ∨ k = 5 then !c.dd else if k = 6 then (lastC c).2 && decide ((lastC c).1 = (key, d)) else if k = 7 then decide ((c.dn.length : Int) = 0) else false
theorem grown_any (a b : Int) (h0 : 0 ≤ a) (h1 : 0 ≤ b) (h2 : a + b ≤ 9223372036854775807) (W : World) : Calls Tryz.prog 73 #[.int .i64 a, .int .i64 b] W fun e w' => e = .returned (.int .i64 (a + b)) ∧ w' = W := by
 have t1 : ¬ 9223372036854775807 - b < a := by omega
 go_enter Tryz.func73, Tryz.ntmps73
 go_wp2_with fail
 go_ret
 exact ⟨rfl, rfl⟩
set_option maxHeartbeats 4000000 in
theorem jfits_any (t : Tv) (r : Rv) (W : World) (hM : TvM W t) (hx : ∀ o ∈ t.c.dn, Ook o) (hn : t.n ≤ 100) (hk : 3 ≤ r.k ∧ r.k ≤ 7) :
 Calls Tryz.prog 51 #[.agg #[.int .u32 t.c.id, .int .u32 t.c.sg, .int .u8 t.c.st, .bool t.c.cp, .bool t.c.dd, .slice t.p t.n t.m, .int .i64 t.c.fs, .int .i64 t.c.sz], .agg (rcs r)] W fun e w' => e = .returned (.bool (fitB t.c r.k (r.ka, r.kb, r.kc) r.d)) ∧ Below W.heap.size W w' := by
 obtain ⟨hb0, hx0, hy0⟩ := ttwo W #[.int .u32 t.c.id, .int .u32 t.c.sg, .int .u8 t.c.st, .bool t.c.cp, .bool t.c.dd, .slice t.p t.n t.m, .int .i64 t.c.fs, .int .i64 t.c.sz] (rcs r) 47 40
 have HB0 := Lib.hid hb0
 have HX := Lib.hid hx0
 have HY : Hid (RB _ (W.heap.size + 1) r) := Lib.hid hy0
 have HL := Lib.hid fun w' (hb : Below W.heap.size W w') => jlast_any t w' (hM.later hb) hx (by omega)
 have HLN := Lib.hid hM.len
 have HN := Lib.hid hn
 obtain ⟨X, hX⟩ : ∃ X, W.heap.size = X := ⟨_, rfl⟩
 rw [hX] at HX HY
 have HXW := Lib.hid hX
 clear hb0 hx0 hy0 hM hx hn
 go_enter Tryz.func51, Tryz.ntmps51
 go_upto_region 1 with (fail)
 clear hX
 generalize (W.alloc (.cells #[.int .u32 t.c.id, .int .u32 t.c.sg, .int .u8 t.c.st, .bool t.c.cp, .bool t.c.dd, .slice t.p t.n t.m, .int .i64 t.c.fs, .int .i64 t.c.sz] 47)).alloc (.cells (rcs r) 40) = V0 at *
 generalize X + 1 = Y at *
 obtain ⟨x0, x1, x2, x3, x4, x5, x6, x7⟩ := txv_cells HX.out
 have hr0 := block_cell (j := 0) HY.out (v := .int .u8 r.k) rfl
 have y5 := block_cell (j := 5) HY.out (v := .int .u8 r.ka) rfl
 have y6 := block_cell (j := 6) HY.out (v := .int .u8 r.kb) rfl
 have y7 := block_cell (j := 7) HY.out (v := .int .u8 r.kc) rfl
 have y8 := block_cell (j := 8) HY.out (v := .int .i64 r.d) rfl
 have hkk : r.k = 3 ∨ r.k = 4 ∨ r.k = 5 ∨ r.k = 6 ∨ r.k = 7 := by omega
 clear hk
 rcases hkk with hk | hk | hk | hk | hk
 · have HF : Hid (fitB t.c r.k (r.ka, r.kb, r.kc) r.d = (!t.c.dd && decide ((t.n : Int) < 6))) := Lib.hid (by unfold fitB; rw [if_pos hk, HLN.out])
   rw [hk] at hr0
   clear hk
   obtain ⟨q, hq⟩ : ∃ q, decide ((t.n : Int) < 6) = q := ⟨_, rfl⟩
   rw [hq] at HF
   have HNN := HN.out
   generalize t.c.dd = dd at *
   cases dd with
   | false =>
    go_wp2_with fail
    go_ret
    exact ⟨by rw [HF.out]; rfl, HB0.out⟩
   | true =>
    go_wp2_with fail
    go_ret
    exact ⟨by rw [HF.out]; rfl, HB0.out⟩
 · have HF : Hid (fitB t.c r.k (r.ka, r.kb, r.kc) r.d = !t.c.dd) := Lib.hid (by unfold fitB; rw [if_neg (by omega), if_pos (by omega)])
   rw [hk] at hr0
   clear hk
   go_wp2_with fail
   go_ret
   exact ⟨by rw [HF.out]; rfl, HB0.out⟩
 · have HF : Hid (fitB t.c r.k (r.ka, r.kb, r.kc) r.d = !t.c.dd) := Lib.hid (by unfold fitB; rw [if_neg (by omega), if_pos (by omega)])
   rw [hk] at hr0
   clear hk
   go_wp2_with fail
   go_ret
   exact ⟨by rw [HF.out]; rfl, HB0.out⟩
 · have HF : Hid (fitB t.c r.k (r.ka, r.kb, r.kc) r.d = ((lastC t.c).2 && decide ((lastC t.c).1 = ((r.ka, r.kb, r.kc), r.d)))) := Lib.hid (by unfold fitB; rw [if_neg (by omega), if_neg (by omega), if_pos hk])
   rw [hk] at hr0
   clear hk
   obtain ⟨⟨⟨⟨k1, k2, k3⟩, dl⟩, q⟩, hz⟩ : ∃ z, lastC t.c = z := ⟨_, rfl⟩
   rw [hz] at HF HL
   clear hz
   dsimp only at HF HL
   have hop := fun w => op_eql k1 k2 k3 dl r.ka r.kb r.kc r.d w
   go_wp2_with fail
   refine (HL.out _ HB0.out).mono ?_
   rintro e w2 ⟨rfl, hb2⟩
   have HB2 := Lib.hid (HB0.out.trans ((hb2.trans (((Below.refl w2.heap.size w2).alloc (Nat.le_refl _) (.cells #[.int .u8 k1, .int .u8 k2, .int .u8 k3, .int .i64 dl] 50)).mono hb2.size)).mono HB0.out.size))
   have HT := Lib.hid (alloc_block w2 (.cells #[.int .u8 k1, .int .u8 k2, .int .u8 k3, .int .i64 dl] 50))
   have HY2 := Lib.hid ((HY.out.later hb2).later ((Below.refl w2.heap.size w2).alloc (Nat.le_refl _) (.cells #[.int .u8 k1, .int .u8 k2, .int .u8 k3, .int .i64 dl] 50)))
   clear hb2 HL x0 x1 x2 x3 x4 x5 x6 x7 hr0 y5 y6 y7 y8
   go_upto_region 9 with (fail)
   obtain ⟨T, hT⟩ : ∃ T, w2.heap.size = T := ⟨_, rfl⟩
   rw [hT] at HT
   rw [hT]
   clear hT
   generalize w2.alloc (.cells #[.int .u8 k1, .int .u8 k2, .int .u8 k3, .int .i64 dl] 50) = W3 at *
   obtain ⟨t0, t1, t2, t3⟩ := ov_cells HT.out
   have y5 := block_cell (j := 5) HY2.out (v := .int .u8 r.ka) rfl
   have y6 := block_cell (j := 6) HY2.out (v := .int .u8 r.kb) rfl
   have y7 := block_cell (j := 7) HY2.out (v := .int .u8 r.kc) rfl
   have y8 := block_cell (j := 8) HY2.out (v := .int .i64 r.d) rfl
   cases q with
   | false =>
    go_wp2_with fail
    go_ret
    exact ⟨by rw [HF.out]; rfl, HB2.out⟩
   | true =>
    obtain ⟨z, hz⟩ : ∃ z, decide ((((k1, k2, k3), dl) : O) = ((r.ka, r.kb, r.kc), r.d)) = z := ⟨_, rfl⟩
    rw [hz] at HF
    simp only [hz] at hop
    clear hz
    go_wp2_with fail
    go_ret
    exact ⟨by rw [HF.out]; rfl, HB2.out⟩
 · have HF : Hid (fitB t.c r.k (r.ka, r.kb, r.kc) r.d = decide ((t.n : Int) = 0)) := Lib.hid (by unfold fitB; rw [if_neg (by omega), if_neg (by omega), if_neg (by omega), if_pos hk, HLN.out])
   rw [hk] at hr0
   clear hk
   have HQ : Hid (((t.n : Int) == 0) = decide ((t.n : Int) = 0)) := Lib.hid (by
    by_cases h : (t.n : Int) = 0
    · rw [decide_eq_true h]; simpa using h
    · rw [decide_eq_false h]; simpa using h)
   obtain ⟨q, hq⟩ : ∃ q, ((t.n : Int) == 0) = q := ⟨_, rfl⟩
   have HNN := HN.out
   go_wp2_with fail
   go_ret
   exact ⟨by rw [HF.out, ← HQ.out, hq]; rfl, HB0.out⟩
end Go.Proofs.YtccgjdmbongbaaaGreatDoor
