import Derived.Test.YtccgjdmbongbaaaDoorPD37
import Derived.Test.YtccgjdmbongbaaaDoorPD05
import Derived.Test.YtccgjdmbongbaaaDoorPD21
import Derived.Test.YtccgjdmbongbaaaDoorPD06
namespace Go.Proofs.YtccgjdmbongbaaaDoor
open Go.RowKit Go.ChangeShapes Go.WideShapes
set_option linter.unusedVariables false
set_option linter.unusedSimpArgs false
set_option maxRecDepth 10000
def GivesEn (W : World) (X : Rx) (e : Ending) (w' : World) : Prop := Below W.heap.size W w' ∧ if goodX X = true then ∃ p c, e = .returned (.tuple #[.slice p (bytesX X).length c, .int .i64 0]) ∧ Sl w' p (bytesX X).length c (bytesX X) else e = .returned (.tuple #[.slice none 0 0, .int .i64 1])
theorem rec_write_any (r : Rv) (L : List Ln) (T : List Tk) (M : List Ln) (W : World) (hok : Rxok (r.x L T M)) (hk : kOk r.k = true) (hw : Words W) (hP : RvM W r L T M) (h1 : r.ln ≤ 400 ∧ r.tn ≤ 400 ∧ r.wn ≤ 400) (hg : r.k = 1 → goodP 4 4 (r.pg L T M) = true) : Calls Tryd.prog 62 #[.agg (rcs r)] W (GivesB W (bytesX (r.x L T M))) := by
 rcases kOk_cases hk with h | h | h | h | h | h | h | h | h
 · exact rec_write1 r L T M W hok h hw hP h1 (hg h)
 · exact rec_write2 r L T M W hok h
 · exact rec_write3 r L T M W hok h
 · exact rec_write4 r L T M W hok h
 · exact rec_write5 r L T M W hok h
 · exact rec_write6 r L T M W hok h
 · exact rec_write7 r L T M W hok h
 · exact rec_write8 r L T M W hok h
 · exact rec_write9 r L T M W hok h
set_option maxHeartbeats 2000000 in
theorem rec_encode (r : Rv) (L : List Ln) (T : List Tk) (M : List Ln) (W : World) (hw : Words W) (hP : RvM W r L T M) (hok : Rxok (r.x L T M)) (h1 : r.ln ≤ 400 ∧ r.tn ≤ 400 ∧ r.wn ≤ 400) : Calls Tryd.prog 46 #[.agg (rcs r)] W (GivesEn W (r.x L T M)) := by
 obtain ⟨W1, hW1, hb1⟩ : ∃ W1, W.alloc (.cells (rcs r) 50) = W1 ∧ Below W.heap.size W W1 := ⟨_, rfl, (Below.refl _ _).alloc (Nat.le_refl _) _⟩
 obtain ⟨B, hB⟩ : ∃ B, W.heap.size = B := ⟨_, rfl⟩
 have hrb := RB.new W r
 rw [hW1, hB] at hrb
 have HX1 := Lib.hid hrb
 have HW1 := Lib.hid hW1
 have HB1 := Lib.hid hb1
 have HRE := Lib.hid hB
 clear hW1 hb1 hB hrb
 have hgd := rec_good r L T M W1 (hw.later HB1.out) (hP.later HB1.out) hok h1
 have HWR := Lib.hid (fun (h : goodX (r.x L T M) = true) W' (hb : Below W.heap.size W W') => rec_write_any r L T M W' hok (goodX_kOk h) (hw.later hb) (hP.later hb) h1 (fun hk => by have := goodX_prog h; rw [show (r.x L T M).k = 1 from hk] at this; exact this))
 clear hw hP hok h1
 cases hg : goodX (r.x L T M) with
 | false =>
  rw [hg] at hgd
  have HG := Lib.hid hg
  clear hg
  go_enter Tryd.func46, Tryd.ntmps46
  go_upto_region 1 with (fail)
  rw [HW1.out, HRE.out]
  go_wp2_with ((with_reducible refine wpList_load_rc HX1.out ?_ ?_); rfl)
  refine hgd.mono ?_
  rintro e w2 ⟨rfl, h2⟩
  have HF : Hid (GivesEn W (r.x L T M) (.returned (.tuple #[.slice none 0 0, .int .i64 1])) w2) := Lib.hid ⟨HB1.out.trans (h2.mono HB1.out.size), by rw [HG.out, if_neg (by decide)]⟩
  clear h2 hgd
  go_wp2_with fail
  go_ret2
  exact HF.out
 | true =>
  rw [hg] at hgd
  have HG := Lib.hid hg
  clear hg
  go_enter Tryd.func46, Tryd.ntmps46
  go_upto_region 1 with (fail)
  rw [HW1.out, HRE.out]
  go_wp2_with ((with_reducible refine wpList_load_rc HX1.out ?_ ?_); rfl)
  refine hgd.mono ?_
  rintro e w2 ⟨rfl, h2⟩
  have HB2 := Lib.hid (HB1.out.trans (h2.mono HB1.out.size))
  have HX2 := Lib.hid (HX1.out.later h2)
  clear h2 hgd
  go_wp2_with ((with_reducible refine wpList_load_rc HX2.out ?_ ?_); rfl)
  refine (HWR.out HG.out w2 HB2.out).mono ?_
  rintro e w3 ⟨p3, c3, rfl, hs3, hb3⟩
  have HF : Hid (GivesEn W (r.x L T M) (.returned (.tuple #[.slice p3 (bytesX (r.x L T M)).length c3, .int .i64 0])) w3) := Lib.hid ⟨HB2.out.trans (hb3.mono HB2.out.size), by rw [HG.out, if_pos rfl]; exact ⟨p3, c3, rfl, hs3⟩⟩
  clear hs3 hb3
  generalize (bytesX (r.x L T M)).length = n at *
  go_wp2_with fail
  go_ret2
  exact HF.out
def sizeX (X : Rx) : Int := if goodX X = true then 6 + ((bytesX X).length : Int) else 0
theorem good_len {X : Rx} (h : goodX X = true) : 5 ≤ (bytesX X).length ∧ (bytesX X).length ≤ 407 := by
 have hk := goodX_kOk h
 have hp := goodX_prog h
 rw [bytes_len hk]
 rcases kOk_cases hk with h | h | h | h | h | h | h | h | h <;> rw [h]
 · rw [h] at hp
   have hp' : goodP 4 4 X.pg = true := hp
   have := pg_few hp'
   simp [lenK]; omega
 all_goals simp [lenK]
set_option maxHeartbeats 2000000 in
theorem size_x (r : Rv) (L : List Ln) (T : List Tk) (M : List Ln) (W : World) (hw : Words W) (hP : RvM W r L T M) (hok : Rxok (r.x L T M)) (h1 : r.ln ≤ 400 ∧ r.tn ≤ 400 ∧ r.wn ≤ 400) : Calls Tryd.prog 37 #[.agg (rcs r)] W fun e w' => e = .returned (.int .i64 (sizeX (r.x L T M))) ∧ Below W.heap.size W w' := by
 obtain ⟨W1, hW1, hb1⟩ : ∃ W1, W.alloc (.cells (rcs r) 50) = W1 ∧ Below W.heap.size W W1 := ⟨_, rfl, (Below.refl _ _).alloc (Nat.le_refl _) _⟩
 obtain ⟨B, hB⟩ : ∃ B, W.heap.size = B := ⟨_, rfl⟩
 have hrb := RB.new W r
 rw [hW1, hB] at hrb
 have HX1 := Lib.hid hrb
 have HW1 := Lib.hid hW1
 have HB1 := Lib.hid hb1
 have HRE := Lib.hid hB
 clear hW1 hb1 hB hrb
 have hen := rec_encode r L T M W1 (hw.later HB1.out) (hP.later HB1.out) hok h1
 clear hw hP hok h1
 cases hg : goodX (r.x L T M) with
 | false =>
  have HG : Hid (sizeX (r.x L T M) = 0) := Lib.hid (by unfold sizeX; rw [hg]; rfl)
  have HGD := Lib.hid hg
  clear hg
  go_enter Tryd.func37, Tryd.ntmps37
  go_upto_region 1 with (fail)
  rw [HW1.out, HRE.out]
  go_wp2_with ((with_reducible refine wpList_load_rc HX1.out ?_ ?_); rfl)
  refine hen.mono ?_
  rintro e w2 ⟨hb2, hy⟩
  rw [HGD.out, if_neg (by decide)] at hy
  subst hy
  have HB2 := Lib.hid (HB1.out.trans (hb2.mono HB1.out.size))
  clear hb2 hen
  go_wp2_with fail
  refine (fsize_any _ _).mono ?_
  rintro e w3 ⟨rfl, rfl⟩
  go_wp2_with fail
  go_ret
  exact ⟨by rw [HG.out]; rfl, HB2.out⟩
 | true =>
  have hl := good_len hg
  have HG : Hid (sizeX (r.x L T M) = 6 + ((bytesX (r.x L T M)).length : Int)) := Lib.hid (if_pos hg)
  have HGD := Lib.hid hg
  clear hg
  go_enter Tryd.func37, Tryd.ntmps37
  go_upto_region 1 with (fail)
  rw [HW1.out, HRE.out]
  go_wp2_with ((with_reducible refine wpList_load_rc HX1.out ?_ ?_); rfl)
  refine hen.mono ?_
  rintro e w2 ⟨hb2, hy⟩
  rw [HGD.out, if_pos rfl] at hy
  obtain ⟨p2, c2, rfl, _⟩ := hy
  have HB2 := Lib.hid (HB1.out.trans (hb2.mono HB1.out.size))
  clear hb2 hen
  generalize (bytesX (r.x L T M)).length = n at *
  have HL := Lib.hid hl
  clear hl
  go_wp2_with fail
  refine (fsize_any _ _).mono ?_
  rintro e w3 ⟨rfl, rfl⟩
  rw [show sizeI (n : Int) = 6 + (n : Int) from if_neg (by have := HL.out; omega)]
  go_wp2_with fail
  go_ret
  exact ⟨by rw [HG.out]; rfl, HB2.out⟩
def appC (M : List Tc) (at_ : Int) (X : Rx) : List Tc × Int :=
 if goodX X = false ∨ X.k < 2 ∨ 7 < X.k then (M, 1)
 else if X.k = 2 then
  if (getT Tc.id M X.tx).isSome = true ∨ (getT Tc.sg M X.sg).isSome = true then (M, 11)
  else (withT Tc.id M ⟨X.tx, X.sg, X.st, X.cp, false, [], at_, sizeX X⟩, 0)
 else match getT Tc.id M X.tx with
  | none => (M, 10)
  | some t =>
   if X.k = 3 then (if t.dd = true ∨ 6 ≤ t.dn.length then (M, 12) else (withT Tc.id M { t with dn := t.dn ++ [(X.key, X.d)], sz := t.sz + sizeX X }, 0))
   else if X.k = 4 then (if t.dd = true then (M, 12) else (witho Tc.id M X.tx, 0))
   else if X.k = 5 then (if t.dd = true then (M, 12) else (withT Tc.id M { t with dd := true, sz := t.sz + sizeX X }, 0))
   else if X.k = 6 then (if lastC t = ((X.key, X.d), true) then (withT Tc.id M { t with dn := t.dn.dropLast, dd := true, sz := t.sz + sizeX X }, 0) else (M, 12))
   else (if t.dn = [] then (witho Tc.id M X.tx, 0) else (M, 12))
theorem held_load_rc {a : Act} {w : World} {dst : Option Tmp} {x : Operand} {ty : TypeId} {pos : String} {after : Array Edge} {gd : Option (Nat × Bool)} {B : Nat} {r : Rv} (hx : a.eval x = .pointer (some ⟨B, 0, none⟩)) (hC : RB w B r) :
 (execOp a.eval (Oper.mk dst (.load 50 x) ty pos after gd)).run Tryd.prog w = .ok (.value (.agg (rcs r))) w := by
 unfold execOp
 simp only [hx, Instr.loadAt, Instr.sureAddr, Sem.run_bind, Sem.run_pure, Result.andThen_ok, run_loadVar_row w B 50 50 (rcs r) (0, 0) _ hC Tryd.underlying50 rfl (by kernel_rfl)]
theorem size_few {X : Rx} (hg : goodX X = true) : 0 ≤ sizeX X ∧ sizeX X ≤ 10000 := by
 have hl := good_len hg
 unfold sizeX
 rw [if_pos hg]
 omega
theorem map_of_isSome (L : List Tv) (i : Int) : (getT Tc.sg (L.map (·.c)) i).isSome = (getT Tv.sg L i).isSome := by
 rw [← map_getT (ix := Tv.sg) (jx := Tc.sg) (f := (·.c)) (fun _ => rfl)]
 cases getT Tv.sg L i <;> rfl
theorem appC_k {M : List Tc} {at_ : Int} {X : Rx} {t : Tc} (hg : goodX X = true) (h3 : 3 ≤ X.k ∧ X.k ≤ 7) (ht : getT Tc.id M X.tx = some t) : appC M at_ X =
 if X.k = 3 then (if t.dd = true ∨ 6 ≤ t.dn.length then (M, 12) else (withT Tc.id M ⟨t.id, t.sg, t.st, t.cp, t.dd, t.dn ++ [(X.key, X.d)], t.fs, t.sz + sizeX X⟩, 0))
  else if X.k = 4 then (if t.dd = true then (M, 12) else (witho Tc.id M X.tx, 0))
  else if X.k = 5 then (if t.dd = true then (M, 12) else (withT Tc.id M ⟨t.id, t.sg, t.st, t.cp, true, t.dn, t.fs, t.sz + sizeX X⟩, 0))
  else if X.k = 6 then (if lastC t = ((X.key, X.d), true) then (withT Tc.id M ⟨t.id, t.sg, t.st, t.cp, true, t.dn.dropLast, t.fs, t.sz + sizeX X⟩, 0) else (M, 12))
  else (if t.dn = [] then (witho Tc.id M X.tx, 0) else (M, 12)) := by
 unfold appC
 rw [if_neg (by rw [hg]; simp; omega), if_neg (by omega), ht]
theorem appC_3 {at_ : Int} (M : List Tc) (X : Rx) {t : Tc} (hg : goodX X = true) (hk : X.k = 3) (ht : getT Tc.id M X.tx = some t) : appC M at_ X = (if t.dd = true ∨ 6 ≤ t.dn.length then (M, 12) else (withT Tc.id M ⟨t.id, t.sg, t.st, t.cp, t.dd, t.dn ++ [(X.key, X.d)], t.fs, t.sz + sizeX X⟩, 0)) := by
 rw [appC_k hg (by omega) ht]
 simp [hk]
theorem appC_4 {at_ : Int} (M : List Tc) (X : Rx) {t : Tc} (hg : goodX X = true) (hk : X.k = 4) (ht : getT Tc.id M X.tx = some t) : appC M at_ X = (if t.dd = true then (M, 12) else (witho Tc.id M X.tx, 0)) := by
 rw [appC_k hg (by omega) ht]
 simp [hk]
theorem appC_5 {at_ : Int} (M : List Tc) (X : Rx) {t : Tc} (hg : goodX X = true) (hk : X.k = 5) (ht : getT Tc.id M X.tx = some t) : appC M at_ X = (if t.dd = true then (M, 12) else (withT Tc.id M ⟨t.id, t.sg, t.st, t.cp, true, t.dn, t.fs, t.sz + sizeX X⟩, 0)) := by
 rw [appC_k hg (by omega) ht]
 simp [hk]
theorem appC_6 {at_ : Int} (M : List Tc) (X : Rx) {t : Tc} (hg : goodX X = true) (hk : X.k = 6) (ht : getT Tc.id M X.tx = some t) : appC M at_ X = (if lastC t = ((X.key, X.d), true) then (withT Tc.id M ⟨t.id, t.sg, t.st, t.cp, true, t.dn.dropLast, t.fs, t.sz + sizeX X⟩, 0) else (M, 12)) := by
 rw [appC_k hg (by omega) ht]
 simp [hk]
theorem appC_7 {at_ : Int} (M : List Tc) (X : Rx) {t : Tc} (hg : goodX X = true) (hk : X.k = 7) (ht : getT Tc.id M X.tx = some t) : appC M at_ X = (if t.dn = [] then (witho Tc.id M X.tx, 0) else (M, 12)) := by
 rw [appC_k hg (by omega) ht]
 simp [hk]
theorem appC_n {at_ : Int} (M : List Tc) (X : Rx) (hg : goodX X = true) (h3 : 3 ≤ X.k ∧ X.k ≤ 7) (ht : getT Tc.id M X.tx = none) : appC M at_ X = (M, 10) := by
 unfold appC
 rw [if_neg (by rw [hg]; simp; omega), if_neg (by omega), ht]
theorem appC_2 {at_ : Int} (M : List Tc) (X : Rx) (hg : goodX X = true) (hk : X.k = 2) : appC M at_ X = if (getT Tc.id M X.tx).isSome = true ∨ (getT Tc.sg M X.sg).isSome = true then (M, 11) else (withT Tc.id M ⟨X.tx, X.sg, X.st, X.cp, false, [], at_, sizeX X⟩, 0) := by
 unfold appC
 rw [if_neg (by rw [hg]; simp; omega), if_pos hk]
theorem map_id_isSome (L : List Tv) (i : Int) : (getT Tc.id (L.map (·.c)) i).isSome = (getT Tv.id L i).isSome := by
 rw [← map_getT (ix := Tv.id) (jx := Tc.id) (f := (·.c)) (fun _ => rfl)]
 cases getT Tv.id L i <;> rfl
theorem TsOk.mono {M : List Tc} {n m : Nat} {y z : Int} (h : TsOk M n y) (hn : n ≤ m) (hz : y ≤ z) : TsOk M m z := ⟨h.ok, h.up, Nat.le_trans h.len hn, h.few, fun t ht => ⟨(h.sz t ht).1, Int.le_trans (h.sz t ht).2 hz⟩⟩
theorem TsOk.with {M : List Tc} {n : Nat} {z : Int} (h : TsOk M n z) {t : Tc} (h1 : Tcok t) (h2 : t.dn.length ≤ 20) (h3 : 0 ≤ t.sz ∧ t.sz ≤ z) : TsOk (withT Tc.id M t) (n + 1) z := by
 refine ⟨fun x hx => ?_, up_withT h.up, Nat.le_trans (len_withT M t) (by have := h.len; omega), fun x hx => ?_, fun x hx => ?_⟩
 · rcases mem_withT.1 hx with rfl | hx
   · exact h1
   · exact h.ok x hx.1
 · rcases mem_withT.1 hx with rfl | hx
   · exact h2
   · exact h.few x hx.1
 · rcases mem_withT.1 hx with rfl | hx
   · exact h3
   · exact h.sz x hx.1
theorem TsOk.without {M : List Tc} {n : Nat} {z : Int} (h : TsOk M n z) (i : Int) : TsOk (witho Tc.id M i) n z :=
 ⟨fun x hx => h.ok x (mem_witho.1 hx).1, up_witho i h.up, Nat.le_trans (len_witho M i) h.len, fun x hx => h.few x (mem_witho.1 hx).1, fun x hx => h.sz x (mem_witho.1 hx).1⟩
theorem TsOk.new {L : List Tc} {n : Nat} {z : Int} (h1 : ∀ t ∈ L, Tcok t) (hn : L.length ≤ n) (h2 : ∀ t ∈ L, t.dn.length ≤ 20) (h3 : ∀ t ∈ L, 0 ≤ t.sz ∧ t.sz ≤ z) : TsOk (newT Tc.id L) n z :=
 ⟨fun x hx => h1 x (mem_newT hx), up_newT L, Nat.le_trans (len_newT L) hn, fun x hx => h2 x (mem_newT hx), fun x hx => h3 x (mem_newT hx)⟩
theorem TsOk.app {M : List Tc} {n : Nat} {z at_ : Int} {X : Rx} (h : TsOk M n z) (hz : 0 ≤ z ∧ z ≤ 1099511627776) (hX : Rxok X) (ha : In64 at_) : TsOk (appC M at_ X).1 (n + 1) (z + 10000) := by
 have hm : TsOk M (n + 1) (z + 10000) := h.mono (by omega) (by omega)
 have hm0 : TsOk M n (z + 10000) := h.mono (by omega) (by omega)
 by_cases hb : goodX X = false ∨ X.k < 2 ∨ 7 < X.k
 · rw [show appC M at_ X = (M, 1) from if_pos hb]
   exact hm
 have hg : goodX X = true := by
  cases hq : goodX X with
  | false => exact absurd (.inl hq) hb
  | true => rfl
 obtain ⟨s1, s2⟩ : 0 ≤ sizeX X ∧ sizeX X ≤ 10000 := size_few hg
 by_cases hk : X.k = 2
 · rw [appC_2 M X hg hk]
   split
   · exact hm
   · exact hm0.with ⟨hX.tx, hX.sg, hX.st, (fun o ho => by cases ho), ha, by simp only; unfold In64; omega⟩ (by simp) ⟨s1, by simp only; omega⟩
 have h3 : 3 ≤ X.k ∧ X.k ≤ 7 := by omega
 cases ht : getT Tc.id M X.tx with
 | none => rw [appC_n M X hg h3 ht]; exact hm
 | some t =>
  obtain ⟨htm, _⟩ := getT_mem ht
  have hok := h.ok t htm
  have hfw := h.few t htm
  have hsz := h.sz t htm
  have hs : In64 (t.sz + sizeX X) := by unfold In64; omega
  rw [appC_k hg h3 ht]
  split
  · split
    · exact hm
    · rename_i hc
      refine hm0.with ⟨hok.id, hok.sg, hok.st, fun o ho => ?_, hok.fs, hs⟩ ?_ ⟨by simp only; omega, by simp only; omega⟩
      · rcases List.mem_append.1 ho with ho | ho
        · exact hok.dn o ho
        · rw [List.mem_singleton.1 ho]
          exact ⟨hX.key, hX.d⟩
      · simp only [List.length_append, List.length_cons, List.length_nil]
        have : ¬ 6 ≤ t.dn.length := fun e => hc (.inr e)
        omega
  · split
    · split
      · exact hm
      · exact hm.without _
    · split
      · split
        · exact hm
        · exact hm0.with ⟨hok.id, hok.sg, hok.st, hok.dn, hok.fs, hs⟩ hfw ⟨by simp only; omega, by simp only; omega⟩
      · split
        · split
          · refine hm0.with ⟨hok.id, hok.sg, hok.st, (fun o ho => hok.dn o ((List.dropLast_sublist t.dn).subset ho)), hok.fs, hs⟩ ?_ ⟨by simp only; omega, by simp only; omega⟩
            simp only [List.length_dropLast]
            omega
          · exact hm
        · split
          · exact hm.without _
          · exact hm
def SmV (r : Rv) : Prop := r.ln ≤ 20 ∧ r.tn ≤ 30 ∧ r.wn ≤ 20
section
section
variable {ops : Array Oper} {rest : List Oper} {a : Act} {w : World} {Q : Exit → Act → World → Prop} {dst : Option Tmp} {ty : TypeId} {pos : String} {after : Array Edge}
end
end
def FewT (n : Nat) (L : List Tv) : Prop := n ≤ 12 ∧ ∀ j, j < n → (L.getD j tv0).n ≤ 20 ∧ 0 ≤ (L.getD j tv0).c.sz ∧ (L.getD j tv0).c.sz ≤ 1048576
def GivesF (W : World) (n : Nat) (L : List Tv) (e : Ending) (w' : World) : Prop := ∃ t : Bool, e = .returned (.bool t) ∧ (t = true → FewT n L) ∧ Below W.heap.size W w'
set_option maxHeartbeats 2000000 in
theorem jisfew_any (p : Option Addr) (n c : Nat) (L : List Tv) (w : World) (h : SlG tce 8 tv0 w p n c L) : Calls Tryd.prog 19 #[.slice p n c] w (GivesF w n L) := by
 have HA := Lib.hid h
 have hcap := h.cap
 clear h
 go_enter Tryd.func19, Tryd.ntmps19
 by_cases hn : 12 < n
 · have hn' : (12 : Int) < n := by omega
   have HX : Hid (GivesF w n L (.returned (.bool false)) w) := Lib.hid ⟨false, rfl, (fun h => by cases h), Below.refl _ _⟩
   go_wp2_with fail
   go_ret
   exact HX.out
 · have hn' : ¬ (12 : Int) < n := by omega
   have HNK : Hid (n ≤ 12) := Lib.hid (by omega)
   go_wp2_with fail
   go_loopw [3] (fun i wr => ∃ j : Nat, j ≤ n ∧ i = .int .i64 (j : Int) ∧ Hid ((∀ j', j' < j → (L.getD j' tv0).n ≤ 20 ∧ 0 ≤ (L.getD j' tv0).c.sz ∧ (L.getD j' tv0).c.sz ≤ 1048576) ∧ Below w.heap.size w wr)) (fun i _ => n - (Go.RowKit.intOf i).toNat)
   case atStart => exact ⟨0, Nat.zero_le _, rfl, Lib.hid ⟨(fun j hj => by omega), Below.refl _ _⟩⟩
   case round =>
    obtain ⟨j, hj, rfl, HR⟩ := hrel
    by_cases hlt : j < n
    · have hlt' : (j : Int) < n := by omega
      obtain ⟨b, off, rfl, _, c0, c1, c2, c3, c4, c5, c6, c7⟩ := txr_cells (HA.out.later HR.out.2) hlt
      have HST : Hid (((L.getD j tv0).n ≤ 20 ∧ 0 ≤ (L.getD j tv0).c.sz ∧ (L.getD j tv0).c.sz ≤ 1048576) → ∀ i, i < j + 1 → (L.getD i tv0).n ≤ 20 ∧ 0 ≤ (L.getD i tv0).c.sz ∧ (L.getD i tv0).c.sz ≤ 1048576) := Lib.hid fun h i hi => by
       rcases Nat.lt_or_ge i j with h' | h'
       · exact HR.out.1 i h'
       · obtain rfl : i = j := by omega
         exact h
      clear c0 c1 c2 c3 c4 c6
      generalize L.getD j tv0 = x at *
      by_cases h1 : 20 < x.n
      · have g1 : (20 : Int) < x.n := by omega
        have g2 : decide ((20 : Int) < (x.n : Int)) = true := decide_eq_true g1
        have HH := Lib.hid h1
        clear h1
        have HX : Hid (GivesF w n L (.returned (.bool false)) wr) := Lib.hid ⟨false, rfl, (fun h => by cases h), HR.out.2⟩
        go_wp2_with fail
        go_ret
        exact HX.out
      · have g1 : ¬ (20 : Int) < x.n := by omega
        have g2 : decide ((20 : Int) < (x.n : Int)) = false := decide_eq_false g1
        by_cases h2 : x.c.sz < 0
        · have g3 : decide (x.c.sz < 0) = true := decide_eq_true h2
          have HH := Lib.hid h1
          clear h1
          have HX : Hid (GivesF w n L (.returned (.bool false)) wr) := Lib.hid ⟨false, rfl, (fun h => by cases h), HR.out.2⟩
          go_wp2_with fail
          go_ret
          exact HX.out
        · have g3 : decide (x.c.sz < 0) = false := decide_eq_false h2
          by_cases h4 : 1048576 < x.c.sz
          · have g5 : decide (1048576 < x.c.sz) = true := decide_eq_true h4
            have HH := Lib.hid h1
            clear h1
            have HX : Hid (GivesF w n L (.returned (.bool false)) wr) := Lib.hid ⟨false, rfl, (fun h => by cases h), HR.out.2⟩
            go_wp2_with fail
            go_ret
            exact HX.out
          · have g5 : decide (1048576 < x.c.sz) = false := decide_eq_false h4
            have HX := Lib.hid (HST.out ⟨by omega, by omega, by omega⟩)
            have HH := Lib.hid h1
            clear h1
            go_wp2_with fail
            go_roundw
            case rel => exact ⟨j + 1, by omega, by go_num, Lib.hid ⟨HX.out, HR.out.2⟩⟩
            case measure =>
             simp [Go.RowKit.intOf]
             omega
    · obtain rfl : n = j := by omega
      have HX : Hid (GivesF w n L (.returned (.bool true)) wr) := Lib.hid ⟨true, rfl, fun _ => ⟨HNK.out, HR.out.1⟩, HR.out.2⟩
      go_wp2_with fail
      go_ret
      exact HX.out
theorem jFew_any (p : Option Addr) (n c : Nat) (L : List Tv) (w : World) (h : SlG tce 8 tv0 w p n c L) : Calls Tryd.prog 5 #[.slice p n c] w fun e w' => ∃ t : Bool, e = .returned (.int .i64 (if t then 1 else 0)) ∧ (t = true → FewT n L) ∧ Below w.heap.size w w' := by
 have HF := Lib.hid (jisfew_any p n c L w h)
 clear h
 go_enter Tryd.func5, Tryd.ntmps5
 go_wp2_with fail
 refine HF.out.mono ?_
 rintro e1 w1 ⟨t, rfl, ht, hb⟩
 have HT := Lib.hid (And.intro ht hb)
 clear ht hb HF
 cases t with
 | true =>
  go_wp2_with fail
  go_ret
  exact ⟨true, rfl, fun _ => HT.out.1 (by trivial), HT.out.2⟩
 | false =>
  go_wp2_with fail
  go_ret
  exact ⟨false, rfl, (fun h => by cases h), HT.out.2⟩
abbrev JOk (M : List Tc) : Prop := TsOk M 200 1000000000000
def JActed (Ju : World → Nat → List Tc → (Nat → Prop) → Prop) (w w' : World) (B : Nat) (M : List Tc) (Q : Nat → Prop) : Prop := ∃ Q', Ju w' B M Q' ∧ (∀ j, Q' j → Q j ∨ w.heap.size ≤ j) ∧ Turn Q w w'
structure NewT (w w' : World) (r : Option Addr) (L : List Tv) : Prop where
 row : ∀ a, r = some a → w.heap.size ≤ a.block
 each : ∀ t ∈ L, 0 < t.n → ∀ a, t.p = some a → w.heap.size ≤ a.block ∧ ∀ b, r = some b → b.block ≠ a.block
 free : ∀ t ∈ L, 0 < t.n → ∀ a, t.p = some a → ∃ cs T, w'.heap[a.block]? = some (.cells cs T (0, 0))
 apart : ∀ i j, i < L.length → j < L.length → i ≠ j → 0 < (L.getD i tv0).n → 0 < (L.getD j tv0).n → ∀ a b, (L.getD i tv0).p = some a → (L.getD j tv0).p = some b → a.block ≠ b.block
structure JnI (NB : Nat) (Wd : World → Prop) (Ju : World → Nat → List Tc → (Nat → Prop) → Prop) : Prop where
 wd : ∀ {w w' : World}, Wd w → Below w.heap.size w w' → Wd w'
 keep : ∀ {w w' : World} {B : Nat} {M : List Tc} {Q S : Nat → Prop}, Ju w B M Q → Turn S w w' → (∀ j, Q j → ¬ S j) → Ju w' B M Q
 lt : ∀ {w : World} {B : Nat} {M : List Tc} {Q : Nat → Prop}, Ju w B M Q → ∀ j, Q j → j < w.heap.size
 new : ∀ (p : Option Addr) (n c : Nat) (L : List Tv) (w : World), TL w p n c L → n ≤ 100 → (∀ t ∈ L, t.n ≤ 100) → (∀ t ∈ L, 0 ≤ t.c.id ∧ t.c.id ≤ 4294967295) → Calls Tryd.prog 7 #[.slice p n c] w fun e w' => ∃ B Q, e = .returned (.pointer (some ⟨B, 0, none⟩)) ∧ Ju w' B (newT Tc.id (L.map (·.c))) Q ∧ (∀ j, Q j → w.heap.size ≤ j) ∧ Below w.heap.size w w'
 get : ∀ (w : World) (B : Nat) (M : List Tc) (Q : Nat → Prop) (i : Int), Ju w B M Q → JOk M → 0 ≤ i ∧ i ≤ 4294967295 → Calls Tryd.prog 9 #[.pointer (some ⟨B, 0, none⟩), .int .u32 i] w fun e w' => ∃ t : Tv, e = .returned (.tuple #[.agg #[.int .u32 t.c.id, .int .u32 t.c.sg, .int .u8 t.c.st, .bool t.c.cp, .bool t.c.dd, .slice t.p t.n t.m, .int .i64 t.c.fs, .int .i64 t.c.sz], .bool (getT Tc.id M i).isSome]) ∧ t.c = (getT Tc.id M i).getD tc0 ∧ TvM w' t ∧ Below w.heap.size w w'
 all : ∀ (w : World) (B : Nat) (M : List Tc) (Q : Nat → Prop), Ju w B M Q → JOk M → M.length ≤ NB → Calls Tryd.prog 18 #[.pointer (some ⟨B, 0, none⟩)] w fun e w' => ∃ r m d L, e = .returned (.slice r m d) ∧ TL w' r m d L ∧ L.map (·.c) = M ∧ NewT w w' r L ∧ Below w.heap.size w w'
 apply : ∀ (w : World) (B : Nat) (M : List Tc) (Q : Nat → Prop) (at_ : Int) (r : Rv) (La : List Ln) (Ta : List Tk) (Ma : List Ln), Wd w → Ju w B M Q → JOk M → In64 at_ → RvM w r La Ta Ma → Rxok (r.x La Ta Ma) → SmV r → Calls Tryd.prog 17 #[.pointer (some ⟨B, 0, none⟩), .int .i64 at_, .agg (rcs r)] w fun e w' => e = .returned (.int .i64 (appC M at_ (r.x La Ta Ma)).2) ∧ JActed Ju w w' B (appC M at_ (r.x La Ta Ma)).1 Q
 last : ∀ (w : World) (t : Tv), TvM w t → (∀ o ∈ t.c.dn, Ook o) → t.n ≤ 100 → Calls Tryd.prog 14 #[.agg #[.int .u32 t.c.id, .int .u32 t.c.sg, .int .u8 t.c.st, .bool t.c.cp, .bool t.c.dd, .slice t.p t.n t.m, .int .i64 t.c.fs, .int .i64 t.c.sz]] w fun e w' => e = .returned (.tuple #[.agg #[.int .u8 (lastC t.c).1.1.1, .int .u8 (lastC t.c).1.1.2.1, .int .u8 (lastC t.c).1.1.2.2, .int .i64 (lastC t.c).1.2], .bool (lastC t.c).2]) ∧ Below w.heap.size w w'
structure JnI2 (NB : Nat) (Ju : World → Nat → List Tc → (Nat → Prop) → Prop) : Prop where
 of_ : ∀ (w : World) (B : Nat) (M : List Tc) (Q : Nat → Prop) (i : Int), Ju w B M Q → JOk M → 0 ≤ i ∧ i ≤ 4294967295 → Calls Tryd.prog 11 #[.pointer (some ⟨B, 0, none⟩), .int .u32 i] w fun e w' => ∃ t : Tv, e = .returned (.tuple #[.agg #[.int .u32 t.c.id, .int .u32 t.c.sg, .int .u8 t.c.st, .bool t.c.cp, .bool t.c.dd, .slice t.p t.n t.m, .int .i64 t.c.fs, .int .i64 t.c.sz], .bool (getT Tc.sg M i).isSome]) ∧ t.c = (getT Tc.sg M i).getD tc0 ∧ TvM w' t ∧ Below w.heap.size w w'
structure JnI4 (NB : Nat) (Ju : World → Nat → List Tc → (Nat → Prop) → Prop) : Prop where
 same : ∀ (w : World) (a b : Tv), TvM w a → TvM w b → a.n ≤ 100 → b.n ≤ 100 → Calls Tryd.prog 16 #[.agg #[.int .u32 a.c.id, .int .u32 a.c.sg, .int .u8 a.c.st, .bool a.c.cp, .bool a.c.dd, .slice a.p a.n a.m, .int .i64 a.c.fs, .int .i64 a.c.sz], .agg #[.int .u32 b.c.id, .int .u32 b.c.sg, .int .u8 b.c.st, .bool b.c.cp, .bool b.c.dd, .slice b.p b.n b.m, .int .i64 b.c.fs, .int .i64 b.c.sz]] w fun e w' => e = .returned (.bool (decide (a.c = b.c))) ∧ Below w.heap.size w w'
variable {NB : Nat} {Wd : World → Prop} {Ju : World → Nat → List Tc → (Nat → Prop) → Prop}
theorem JnI.later (I : JnI NB Wd Ju) {w w' : World} {B : Nat} {M : List Tc} {Q : Nat → Prop} (h : Ju w B M Q) (hb : Below w.heap.size w w') : Ju w' B M Q := I.keep (S := fun _ => False) h (Turn.of_below hb) (fun _ _ h => h)
theorem JActed.ahead {w w1 w' : World} {B : Nat} {M : List Tc} {Q : Nat → Prop} (hb : Below w.heap.size w w1) (h : JActed Ju w1 w' B M Q) : JActed Ju w w' B M Q := by
 obtain ⟨Q', h1, h2, h3⟩ := h
 exact ⟨Q', h1, fun j hj => (h2 j hj).imp id (Nat.le_trans hb.size), (Turn.of_below (S := Q) hb).trans h3 (fun _ _ h => h)⟩
def fitB (c : Tc) (k : Int) (key : K) (d : Int) : Bool := if k = 3 then !c.dd && decide ((c.dn.length : Int) < 6) else if k = 4 ∨ k = 5 then !c.dd else if k = 6 then (lastC c).2 && decide ((lastC c).1 = (key, d)) else if k = 7 then decide ((c.dn.length : Int) = 0) else false
theorem grown_any (a b : Int) (h0 : 0 ≤ a) (h1 : 0 ≤ b) (h2 : a + b ≤ 9223372036854775807) (W : World) : Calls Tryd.prog 48 #[.int .i64 a, .int .i64 b] W fun e w' => e = .returned (.int .i64 (a + b)) ∧ w' = W := by
 have t1 : ¬ 9223372036854775807 - b < a := by omega
 go_enter Tryd.func48, Tryd.ntmps48
 go_wp2_with fail
 go_ret
 exact ⟨rfl, rfl⟩
set_option maxHeartbeats 4000000 in
theorem jfits_any (t : Tv) (r : Rv) (W : World) (hM : TvM W t) (hx : ∀ o ∈ t.c.dn, Ook o) (hn : t.n ≤ 100) (hk : 3 ≤ r.k ∧ r.k ≤ 7) :
 Calls Tryd.prog 38 #[.agg #[.int .u32 t.c.id, .int .u32 t.c.sg, .int .u8 t.c.st, .bool t.c.cp, .bool t.c.dd, .slice t.p t.n t.m, .int .i64 t.c.fs, .int .i64 t.c.sz], .agg (rcs r)] W fun e w' => e = .returned (.bool (fitB t.c r.k (r.ka, r.kb, r.kc) r.d)) ∧ Below W.heap.size W w' := by
 obtain ⟨hb0, hx0, hy0⟩ := ttwo W #[.int .u32 t.c.id, .int .u32 t.c.sg, .int .u8 t.c.st, .bool t.c.cp, .bool t.c.dd, .slice t.p t.n t.m, .int .i64 t.c.fs, .int .i64 t.c.sz] (rcs r) 31 50
 have HB0 := Lib.hid hb0
 have HX := Lib.hid hx0
 have HY : Hid (RB _ (W.heap.size + 1) r) := Lib.hid hy0
 have HL := Lib.hid fun w' (hb : Below W.heap.size W w') => jlast_any t w' (hM.later hb) hx (by omega)
 have HLN := Lib.hid hM.len
 have HN := Lib.hid hn
 obtain ⟨X, hX⟩ : ∃ X, W.heap.size = X := ⟨_, rfl⟩
 rw [hX] at HX HY
 have HXW := Lib.hid hX
 clear hb0 hx0 hy0 hM hx hn
 go_enter Tryd.func38, Tryd.ntmps38
 go_upto_region 1 with (fail)
 clear hX
 generalize (W.alloc (.cells #[.int .u32 t.c.id, .int .u32 t.c.sg, .int .u8 t.c.st, .bool t.c.cp, .bool t.c.dd, .slice t.p t.n t.m, .int .i64 t.c.fs, .int .i64 t.c.sz] 31)).alloc (.cells (rcs r) 50) = V0 at *
 generalize X + 1 = Y at *
 obtain ⟨x0, x1, x2, x3, x4, x5, x6, x7⟩ := txv_cells HX.out
 have hr0 := block_cell (j := 0) HY.out (v := .int .u8 r.k) rfl
 have y5 := block_cell (j := 5) HY.out (v := .int .u8 r.ka) rfl
 have y6 := block_cell (j := 6) HY.out (v := .int .u8 r.kb) rfl
 have y7 := block_cell (j := 7) HY.out (v := .int .u8 r.kc) rfl
 have y8 := block_cell (j := 8) HY.out (v := .int .i64 r.d) rfl
 have hkk : r.k = 3 ∨ r.k = 4 ∨ r.k = 5 ∨ r.k = 6 ∨ r.k = 7 := by omega
 clear hk
 rcases hkk with hk | hk | hk | hk | hk
 · have HF : Hid (fitB t.c r.k (r.ka, r.kb, r.kc) r.d = (!t.c.dd && decide ((t.n : Int) < 6))) := Lib.hid (by unfold fitB; rw [if_pos hk, HLN.out])
   rw [hk] at hr0
   clear hk
   obtain ⟨q, hq⟩ : ∃ q, decide ((t.n : Int) < 6) = q := ⟨_, rfl⟩
   rw [hq] at HF
   have HNN := HN.out
   generalize t.c.dd = dd at *
   cases dd with
   | false =>
    go_wp2_with fail
    go_ret
    exact ⟨by rw [HF.out]; rfl, HB0.out⟩
   | true =>
    go_wp2_with fail
    go_ret
    exact ⟨by rw [HF.out]; rfl, HB0.out⟩
 · have HF : Hid (fitB t.c r.k (r.ka, r.kb, r.kc) r.d = !t.c.dd) := Lib.hid (by unfold fitB; rw [if_neg (by omega), if_pos (by omega)])
   rw [hk] at hr0
   clear hk
   go_wp2_with fail
   go_ret
   exact ⟨by rw [HF.out]; rfl, HB0.out⟩
 · have HF : Hid (fitB t.c r.k (r.ka, r.kb, r.kc) r.d = !t.c.dd) := Lib.hid (by unfold fitB; rw [if_neg (by omega), if_pos (by omega)])
   rw [hk] at hr0
   clear hk
   go_wp2_with fail
   go_ret
   exact ⟨by rw [HF.out]; rfl, HB0.out⟩
 · have HF : Hid (fitB t.c r.k (r.ka, r.kb, r.kc) r.d = ((lastC t.c).2 && decide ((lastC t.c).1 = ((r.ka, r.kb, r.kc), r.d)))) := Lib.hid (by unfold fitB; rw [if_neg (by omega), if_neg (by omega), if_pos hk])
   rw [hk] at hr0
   clear hk
   obtain ⟨⟨⟨⟨k1, k2, k3⟩, dl⟩, q⟩, hz⟩ : ∃ z, lastC t.c = z := ⟨_, rfl⟩
   rw [hz] at HF HL
   clear hz
   dsimp only at HF HL
   have hop := fun w => op_eql k1 k2 k3 dl r.ka r.kb r.kc r.d w
   go_wp2_with fail
   refine (HL.out _ HB0.out).mono ?_
   rintro e w2 ⟨rfl, hb2⟩
   have HB2 := Lib.hid (HB0.out.trans ((hb2.trans (((Below.refl w2.heap.size w2).alloc (Nat.le_refl _) (.cells #[.int .u8 k1, .int .u8 k2, .int .u8 k3, .int .i64 dl] 39)).mono hb2.size)).mono HB0.out.size))
   have HT := Lib.hid (alloc_block w2 (.cells #[.int .u8 k1, .int .u8 k2, .int .u8 k3, .int .i64 dl] 39))
   have HY2 := Lib.hid ((HY.out.later hb2).later ((Below.refl w2.heap.size w2).alloc (Nat.le_refl _) (.cells #[.int .u8 k1, .int .u8 k2, .int .u8 k3, .int .i64 dl] 39)))
   clear hb2 HL x0 x1 x2 x3 x4 x5 x6 x7 hr0 y5 y6 y7 y8
   go_upto_region 9 with (fail)
   obtain ⟨T, hT⟩ : ∃ T, w2.heap.size = T := ⟨_, rfl⟩
   rw [hT] at HT
   rw [hT]
   clear hT
   generalize w2.alloc (.cells #[.int .u8 k1, .int .u8 k2, .int .u8 k3, .int .i64 dl] 39) = W3 at *
   obtain ⟨t0, t1, t2, t3⟩ := ov_cells HT.out
   have y5 := block_cell (j := 5) HY2.out (v := .int .u8 r.ka) rfl
   have y6 := block_cell (j := 6) HY2.out (v := .int .u8 r.kb) rfl
   have y7 := block_cell (j := 7) HY2.out (v := .int .u8 r.kc) rfl
   have y8 := block_cell (j := 8) HY2.out (v := .int .i64 r.d) rfl
   cases q with
   | false =>
    go_wp2_with fail
    go_ret
    exact ⟨by rw [HF.out]; rfl, HB2.out⟩
   | true =>
    obtain ⟨z, hz⟩ : ∃ z, decide ((((k1, k2, k3), dl) : O) = ((r.ka, r.kb, r.kc), r.d)) = z := ⟨_, rfl⟩
    rw [hz] at HF
    simp only [hz] at hop
    clear hz
    go_wp2_with fail
    go_ret
    exact ⟨by rw [HF.out]; rfl, HB2.out⟩
 · have HF : Hid (fitB t.c r.k (r.ka, r.kb, r.kc) r.d = decide ((t.n : Int) = 0)) := Lib.hid (by unfold fitB; rw [if_neg (by omega), if_neg (by omega), if_neg (by omega), if_pos hk, HLN.out])
   rw [hk] at hr0
   clear hk
   have HQ : Hid (((t.n : Int) == 0) = decide ((t.n : Int) = 0)) := Lib.hid (by
    by_cases h : (t.n : Int) = 0
    · rw [decide_eq_true h]; simpa using h
    · rw [decide_eq_false h]; simpa using h)
   obtain ⟨q, hq⟩ : ∃ q, ((t.n : Int) == 0) = q := ⟨_, rfl⟩
   have HNN := HN.out
   go_wp2_with fail
   go_ret
   exact ⟨by rw [HF.out, ← HQ.out, hq]; rfl, HB0.out⟩
variable {NB : Nat} {Wd : World → Prop} {Ju : World → Nat → List Tc → (Nat → Prop) → Prop}
def Jn (Ju : World → Nat → List Tc → (Nat → Prop) → Prop) (W w : World) (B : Nat) (M : List Tc) : Prop := ∃ Q, Ju w B M Q ∧ (∀ j, Q j → W.heap.size ≤ j) ∧ Below W.heap.size W w
theorem Jn.below {W w : World} {B : Nat} {M : List Tc} (h : Jn Ju W w B M) : Below W.heap.size W w := by
 obtain ⟨_, _, _, h3⟩ := h
 exact h3
theorem Jn.later (I : JnI NB Wd Ju) {W w w' : World} {B : Nat} {M : List Tc} (h : Jn Ju W w B M) (hb : Below w.heap.size w w') : Jn Ju W w' B M := by
 obtain ⟨Q, h1, h2, h3⟩ := h
 exact ⟨Q, I.later h1 hb, h2, h3.trans (hb.mono h3.size)⟩
theorem Jn.acted {W w w' : World} {B : Nat} {M : List Tc} {Q : Nat → Prop} (h2 : ∀ j, Q j → W.heap.size ≤ j) (h3 : Below W.heap.size W w) (h : JActed Ju w w' B M Q) : Jn Ju W w' B M := by
 obtain ⟨Q', g1, g2, g3⟩ := h
 refine ⟨Q', g1, fun j hj => ?_, h3.trans (g3.below h3.size h2)⟩
 rcases g2 j hj with e | e
 · exact h2 j e
 · exact Nat.le_trans h3.size e
theorem Jn.apply (I : JnI NB Wd Ju) {W w : World} {B : Nat} {M : List Tc} (hW : Wd W) (h : Jn Ju W w B M) (hM : JOk M) (at_ : Int) (ha : In64 at_) (r : Rv) (La : List Ln) (Ta : List Tk) (Ma : List Ln) (hr : RvM w r La Ta Ma) (hx : Rxok (r.x La Ta Ma)) (hs : SmV r) :
 Calls Tryd.prog 17 #[.pointer (some ⟨B, 0, none⟩), .int .i64 at_, .agg (rcs r)] w fun e w' => e = .returned (.int .i64 (appC M at_ (r.x La Ta Ma)).2) ∧ Jn Ju W w' B (appC M at_ (r.x La Ta Ma)).1 := by
 obtain ⟨Q, h1, h2, h3⟩ := h
 refine (I.apply w B M Q at_ r La Ta Ma (I.wd hW h3) h1 hM ha hr hx hs).mono ?_
 rintro e w' ⟨rfl, ha⟩
 exact ⟨rfl, Jn.acted h2 h3 ha⟩
theorem Jn.get (I : JnI NB Wd Ju) {W w : World} {B : Nat} {M : List Tc} (h : Jn Ju W w B M) (hM : JOk M) (i : Int) (hi : 0 ≤ i ∧ i ≤ 4294967295) :
 Calls Tryd.prog 9 #[.pointer (some ⟨B, 0, none⟩), .int .u32 i] w fun e w' => ∃ t : Tv, e = .returned (.tuple #[.agg #[.int .u32 t.c.id, .int .u32 t.c.sg, .int .u8 t.c.st, .bool t.c.cp, .bool t.c.dd, .slice t.p t.n t.m, .int .i64 t.c.fs, .int .i64 t.c.sz], .bool (getT Tc.id M i).isSome]) ∧ t.c = (getT Tc.id M i).getD tc0 ∧ TvM w' t ∧ Below w.heap.size w w' ∧ Jn Ju W w' B M := by
 obtain ⟨Q, h1, h2, h3⟩ := h
 refine (I.get w B M Q i h1 hM hi).mono ?_
 rintro e w' ⟨t, rfl, g1, g2, g3⟩
 exact ⟨t, rfl, g1, g2, g3, Q, I.later h1 g3, h2, h3.trans (g3.mono h3.size)⟩
def rvl (k sg tx : Int) (key : K) (d : Int) : Rv := ⟨k, sg, tx, 0, false, key.1, key.2.1, key.2.2, d, 0, 0, 0, 0, none, 0, 0, none, 0, 0, none, 0, 0, 0, 0, 0, 0⟩
theorem rvl_m (k sg tx : Int) (key : K) (d : Int) (w : World) : RvM w (rvl k sg tx key d) [] [] [] := ⟨SlG.empty _, SlG.empty _, SlG.empty _⟩
theorem rvl_s (k sg tx : Int) (key : K) (d : Int) : SmV (rvl k sg tx key d) := ⟨by simp [rvl], by simp [rvl], by simp [rvl]⟩
theorem rvl_x (k sg tx : Int) (key : K) (d : Int) : (rvl k sg tx key d).x [] [] [] = ⟨k, sg, tx, 0, false, key, d, 0, noP⟩ := rfl
theorem rvl_ok {k sg tx : Int} {key : K} {d : Int} (h1 : 0 ≤ k ∧ k ≤ 255) (h2 : 0 ≤ sg ∧ sg ≤ 4294967295) (h3 : 0 ≤ tx ∧ tx ≤ 4294967295) (h4 : Kok key) (h5 : In64 d) : Rxok ((rvl k sg tx key d).x [] [] []) :=
 ⟨h1, h2, h3, ⟨Int.le_refl _, by show (0 : Int) ≤ 255; omega⟩, h4, h5, ⟨Int.le_refl _, by show (0 : Int) ≤ 255; omega⟩, (by
  have z : (0 : Int) ≤ 0 ∧ (0 : Int) ≤ 255 := ⟨by omega, by omega⟩
  exact ⟨z, ⟨by show (0 : Int) ≤ 0; omega, by show (0 : Int) ≤ 4294967295; omega⟩, z, (fun x hx => by cases hx), (fun x hx => by cases hx), (fun x hx => by cases hx), z, z, z, (by show -9223372036854775808 ≤ (0 : Int) ∧ (0 : Int) ≤ 9223372036854775807; omega)⟩)⟩
theorem jw_0 : appC [] 40 ((rvl 2 1 3 (0, 0, 0) (0)).x [] [] []) = ([⟨3, 1, 0, false, false, [], 40, 17⟩], 0) := by decide
theorem jw_1 : appC [⟨3, 1, 0, false, false, [], 40, 17⟩] 57 ((rvl 3 0 3 (3, 0, 0) (5)).x [] [] []) = ([⟨3, 1, 0, false, false, [((3, 0, 0), 5)], 40, 39⟩], 0) := by decide
theorem jw_2 : appC [⟨3, 1, 0, false, false, [((3, 0, 0), 5)], 40, 39⟩] 79 ((rvl 3 0 3 (3, 0, 0) (-2)).x [] [] []) = ([⟨3, 1, 0, false, false, [((3, 0, 0), 5), ((3, 0, 0), -2)], 40, 61⟩], 0) := by decide
theorem jw_3 : appC [⟨3, 1, 0, false, false, [((3, 0, 0), 5), ((3, 0, 0), -2)], 40, 61⟩] 101 ((rvl 7 0 3 (0, 0, 0) (0)).x [] [] []) = ([⟨3, 1, 0, false, false, [((3, 0, 0), 5), ((3, 0, 0), -2)], 40, 61⟩], 12) := by decide
theorem jw_4 : appC [⟨3, 1, 0, false, false, [((3, 0, 0), 5), ((3, 0, 0), -2)], 40, 61⟩] 101 ((rvl 6 0 3 (3, 0, 0) (2)).x [] [] []) = ([⟨3, 1, 0, false, true, [((3, 0, 0), 5)], 40, 83⟩], 0) := by decide
theorem jw_5 : appC [⟨3, 1, 0, false, true, [((3, 0, 0), 5)], 40, 83⟩] 123 ((rvl 3 0 3 (3, 0, 0) (1)).x [] [] []) = ([⟨3, 1, 0, false, true, [((3, 0, 0), 5)], 40, 83⟩], 12) := by decide
theorem jok_nil : TsOk [] 0 0 := ⟨(fun x hx => by cases hx), List.Pairwise.nil, by simp, (fun x hx => by cases hx), fun x hx => by cases hx⟩
theorem jwok_0 : TsOk [⟨3, 1, 0, false, false, [], 40, 17⟩] 1 10000 := by
 have h := TsOk.app (X := (rvl 2 1 3 (0, 0, 0) (0)).x [] [] []) (at_ := 40) jok_nil ⟨by omega, by omega⟩ (rvl_ok (by omega) (by omega) (by omega) ⟨by decide, by decide, by decide⟩ (by unfold In64; omega)) (by unfold In64; omega)
 rw [jw_0] at h
 exact h.mono (by omega) (by omega)
theorem jwok_1 : TsOk [⟨3, 1, 0, false, false, [((3, 0, 0), 5)], 40, 39⟩] 2 20000 := by
 have h := TsOk.app (X := (rvl 3 0 3 (3, 0, 0) (5)).x [] [] []) (at_ := 57) jwok_0 ⟨by omega, by omega⟩ (rvl_ok (by omega) (by omega) (by omega) ⟨by decide, by decide, by decide⟩ (by unfold In64; omega)) (by unfold In64; omega)
 rw [jw_1] at h
 exact h.mono (by omega) (by omega)
theorem jwok_2 : TsOk [⟨3, 1, 0, false, false, [((3, 0, 0), 5), ((3, 0, 0), -2)], 40, 61⟩] 3 30000 := by
 have h := TsOk.app (X := (rvl 3 0 3 (3, 0, 0) (-2)).x [] [] []) (at_ := 79) jwok_1 ⟨by omega, by omega⟩ (rvl_ok (by omega) (by omega) (by omega) ⟨by decide, by decide, by decide⟩ (by unfold In64; omega)) (by unfold In64; omega)
 rw [jw_2] at h
 exact h.mono (by omega) (by omega)
theorem jwok_3 : TsOk [⟨3, 1, 0, false, false, [((3, 0, 0), 5), ((3, 0, 0), -2)], 40, 61⟩] 4 40000 := by
 have h := TsOk.app (X := (rvl 7 0 3 (0, 0, 0) (0)).x [] [] []) (at_ := 101) jwok_2 ⟨by omega, by omega⟩ (rvl_ok (by omega) (by omega) (by omega) ⟨by decide, by decide, by decide⟩ (by unfold In64; omega)) (by unfold In64; omega)
 rw [jw_3] at h
 exact h.mono (by omega) (by omega)
theorem jwok_4 : TsOk [⟨3, 1, 0, false, true, [((3, 0, 0), 5)], 40, 83⟩] 5 50000 := by
 have h := TsOk.app (X := (rvl 6 0 3 (3, 0, 0) (2)).x [] [] []) (at_ := 101) jwok_3 ⟨by omega, by omega⟩ (rvl_ok (by omega) (by omega) (by omega) ⟨by decide, by decide, by decide⟩ (by unfold In64; omega)) (by unfold In64; omega)
 rw [jw_4] at h
 exact h.mono (by omega) (by omega)
theorem jwok_5 : TsOk [⟨3, 1, 0, false, true, [((3, 0, 0), 5)], 40, 83⟩] 6 60000 := by
 have h := TsOk.app (X := (rvl 3 0 3 (3, 0, 0) (1)).x [] [] []) (at_ := 123) jwok_4 ⟨by omega, by omega⟩ (rvl_ok (by omega) (by omega) (by omega) ⟨by decide, by decide, by decide⟩ (by unfold In64; omega)) (by unfold In64; omega)
 rw [jw_5] at h
 exact h.mono (by omega) (by omega)
variable {NB : Nat} {Wd : World → Prop} {Ju : World → Nat → List Tc → (Nat → Prop) → Prop}
set_option maxHeartbeats 8000000 in
theorem jworks_any (I : JnI NB Wd Ju) (W : World) (hW : Wd W) : Calls Tryd.prog 6 #[] W fun e w' => e = .returned (.bool true) ∧ Below W.heap.size W w' := by
 have HI := Lib.hid I
 have hb0 : Below W.heap.size W (W.alloc (.cells #[.int .u8 3, .int .u8 0, .int .u8 0] 37)) := (Below.refl _ _).alloc (Nat.le_refl _) _
 have HB0 := Lib.hid hb0
 have HW := Lib.hid (I.wd hW hb0)
 have HK0 := Lib.hid (alloc_block W (.cells #[.int .u8 3, .int .u8 0, .int .u8 0] 37))
 have HNEW := Lib.hid fun w => I.new none 0 0 [] w (TL.empty w) (by omega) (fun t ht => by cases ht) (fun t ht => by cases ht)
 obtain ⟨X, hX⟩ : ∃ X, W.heap.size = X := ⟨_, rfl⟩
 have HHX := Lib.hid hX
 rw [hX] at HK0
 clear hb0 I hW
 go_enter Tryd.func6, Tryd.ntmps6
 go_upto_region 2 with (fail)
 clear hX
 generalize W.alloc (.cells #[.int .u8 3, .int .u8 0, .int .u8 0] 37) = V0 at *
 go_wp2_with fail
 refine (HNEW.out _).mono ?_
 rintro e0 w0 ⟨B, Q, rfl, hj, hq, hb⟩
 have HJ0 : Hid (Jn Ju V0 w0 B []) := Lib.hid ⟨Q, hj, hq, hb⟩
 clear hj hq hb HNEW
 obtain ⟨x0, x1, x2⟩ : w0.cell? ⟨X, 0, none⟩ = some (.int .u8 3) ∧ w0.cell? ⟨X, 1, none⟩ = some (.int .u8 0) ∧ w0.cell? ⟨X, 2, none⟩ = some (.int .u8 0) := ⟨block_cell (block_later HK0.out HJ0.out.below) rfl, block_cell (block_later HK0.out HJ0.out.below) rfl, block_cell (block_later HK0.out HJ0.out.below) rfl⟩
 have HC0 := Lib.hid (Jn.apply HI.out HW.out HJ0.out (jok_nil.mono (by omega) (by omega)) 40 (by unfold In64; omega) (rvl 2 1 3 (0, 0, 0) (0)) [] [] [] (rvl_m ..) (rvl_ok (by omega) (by omega) (by omega) ⟨by decide, by decide, by decide⟩ (by unfold In64; omega)) (rvl_s ..))
 rw [jw_0] at HC0
 go_wp2_with fail
 clear x0 x1 x2
 refine HC0.out.mono ?_
 rintro e1 w1 ⟨rfl, hj⟩
 have HJ1 := Lib.hid hj
 clear hj HC0
 obtain ⟨x0, x1, x2⟩ : w1.cell? ⟨X, 0, none⟩ = some (.int .u8 3) ∧ w1.cell? ⟨X, 1, none⟩ = some (.int .u8 0) ∧ w1.cell? ⟨X, 2, none⟩ = some (.int .u8 0) := ⟨block_cell (block_later HK0.out HJ1.out.below) rfl, block_cell (block_later HK0.out HJ1.out.below) rfl, block_cell (block_later HK0.out HJ1.out.below) rfl⟩
 have HC1 := Lib.hid (Jn.apply HI.out HW.out HJ1.out (jwok_0.mono (by omega) (by omega)) 57 (by unfold In64; omega) (rvl 3 0 3 (3, 0, 0) (5)) [] [] [] (rvl_m ..) (rvl_ok (by omega) (by omega) (by omega) ⟨by decide, by decide, by decide⟩ (by unfold In64; omega)) (rvl_s ..))
 rw [jw_1] at HC1
 go_wp2_with fail
 clear x0 x1 x2
 refine HC1.out.mono ?_
 rintro e2 w2 ⟨rfl, hj⟩
 have HJ2 := Lib.hid hj
 clear hj HC1
 obtain ⟨x0, x1, x2⟩ : w2.cell? ⟨X, 0, none⟩ = some (.int .u8 3) ∧ w2.cell? ⟨X, 1, none⟩ = some (.int .u8 0) ∧ w2.cell? ⟨X, 2, none⟩ = some (.int .u8 0) := ⟨block_cell (block_later HK0.out HJ2.out.below) rfl, block_cell (block_later HK0.out HJ2.out.below) rfl, block_cell (block_later HK0.out HJ2.out.below) rfl⟩
 have HC2 := Lib.hid (Jn.apply HI.out HW.out HJ2.out (jwok_1.mono (by omega) (by omega)) 79 (by unfold In64; omega) (rvl 3 0 3 (3, 0, 0) (-2)) [] [] [] (rvl_m ..) (rvl_ok (by omega) (by omega) (by omega) ⟨by decide, by decide, by decide⟩ (by unfold In64; omega)) (rvl_s ..))
 rw [jw_2] at HC2
 go_wp2_with fail
 clear x0 x1 x2
 refine HC2.out.mono ?_
 rintro e3 w3 ⟨rfl, hj⟩
 have HJ3 := Lib.hid hj
 clear hj HC2
 obtain ⟨x0, x1, x2⟩ : w3.cell? ⟨X, 0, none⟩ = some (.int .u8 3) ∧ w3.cell? ⟨X, 1, none⟩ = some (.int .u8 0) ∧ w3.cell? ⟨X, 2, none⟩ = some (.int .u8 0) := ⟨block_cell (block_later HK0.out HJ3.out.below) rfl, block_cell (block_later HK0.out HJ3.out.below) rfl, block_cell (block_later HK0.out HJ3.out.below) rfl⟩
 have HC3 := Lib.hid (Jn.apply HI.out HW.out HJ3.out (jwok_2.mono (by omega) (by omega)) 101 (by unfold In64; omega) (rvl 7 0 3 (0, 0, 0) (0)) [] [] [] (rvl_m ..) (rvl_ok (by omega) (by omega) (by omega) ⟨by decide, by decide, by decide⟩ (by unfold In64; omega)) (rvl_s ..))
 rw [jw_3] at HC3
 go_wp2_with fail
 clear x0 x1 x2
 refine HC3.out.mono ?_
 rintro e4 w4 ⟨rfl, hj⟩
 have HJ4 := Lib.hid hj
 clear hj HC3
 obtain ⟨x0, x1, x2⟩ : w4.cell? ⟨X, 0, none⟩ = some (.int .u8 3) ∧ w4.cell? ⟨X, 1, none⟩ = some (.int .u8 0) ∧ w4.cell? ⟨X, 2, none⟩ = some (.int .u8 0) := ⟨block_cell (block_later HK0.out HJ4.out.below) rfl, block_cell (block_later HK0.out HJ4.out.below) rfl, block_cell (block_later HK0.out HJ4.out.below) rfl⟩
 have HC4 := Lib.hid (Jn.apply HI.out HW.out HJ4.out (jwok_3.mono (by omega) (by omega)) 101 (by unfold In64; omega) (rvl 6 0 3 (3, 0, 0) (2)) [] [] [] (rvl_m ..) (rvl_ok (by omega) (by omega) (by omega) ⟨by decide, by decide, by decide⟩ (by unfold In64; omega)) (rvl_s ..))
 rw [jw_4] at HC4
 go_wp2_with fail
 clear x0 x1 x2
 refine HC4.out.mono ?_
 rintro e5 w5 ⟨rfl, hj⟩
 have HJ5 := Lib.hid hj
 clear hj HC4
 obtain ⟨x0, x1, x2⟩ : w5.cell? ⟨X, 0, none⟩ = some (.int .u8 3) ∧ w5.cell? ⟨X, 1, none⟩ = some (.int .u8 0) ∧ w5.cell? ⟨X, 2, none⟩ = some (.int .u8 0) := ⟨block_cell (block_later HK0.out HJ5.out.below) rfl, block_cell (block_later HK0.out HJ5.out.below) rfl, block_cell (block_later HK0.out HJ5.out.below) rfl⟩
 have HC5 := Lib.hid (Jn.apply HI.out HW.out HJ5.out (jwok_4.mono (by omega) (by omega)) 123 (by unfold In64; omega) (rvl 3 0 3 (3, 0, 0) (1)) [] [] [] (rvl_m ..) (rvl_ok (by omega) (by omega) (by omega) ⟨by decide, by decide, by decide⟩ (by unfold In64; omega)) (rvl_s ..))
 rw [jw_5] at HC5
 go_wp2_with fail
 clear x0 x1 x2
 refine HC5.out.mono ?_
 rintro e6 w6 ⟨rfl, hj⟩
 have HJ6 := Lib.hid hj
 clear hj HC5
 go_wp2_with fail
 refine (Jn.get HI.out HJ6.out (jwok_5.mono (by omega) (by omega)) 3 (by omega)).mono ?_
 rintro e7 w7 ⟨t, rfl, htc, htm, hb, hj⟩
 have ht2 : t.c = ⟨3, 1, 0, false, true, [((3, 0, 0), 5)], 40, 83⟩ := htc
 have htn : t.n = 1 := by rw [← htm.len, ht2]; rfl
 obtain ⟨c, p, n, m⟩ := t
 simp only at ht2 htn
 subst ht2 htn
 have HB7 := Lib.hid (HB0.out.trans (hj.below.mono HB0.out.size))
 have HTB := Lib.hid (alloc_block w7 (.cells #[.int .u32 3, .int .u32 1, .int .u8 0, .bool false, .bool true, .slice p 1 m, .int .i64 40, .int .i64 83] 31))
 have HB8 := Lib.hid (HB7.out.alloc HB7.out.size (.cells #[.int .u32 3, .int .u32 1, .int .u8 0, .bool false, .bool true, .slice p 1 m, .int .i64 40, .int .i64 83] 31))
 clear htc htm hb hj
 go_upto_region 10 with (fail)
 generalize w7.alloc (.cells #[.int .u32 3, .int .u32 1, .int .u8 0, .bool false, .bool true, .slice p 1 m, .int .i64 40, .int .i64 83] 31) = w8 at *
 generalize w7.heap.size = TB at *
 obtain ⟨y0, y1, y2, y3, y4, y5, y6, y7⟩ := txv_cells HTB.out
 go_wp2_with fail
 go_ret
 exact ⟨rfl, HB8.out⟩
theorem cellb {W w : World} {a : Addr} {v : Value} (hb : Below W.heap.size W w) (h : W.cell? a = some v) : w.cell? a = some v := (hb.cell (World.block_lt_of_cell? _ _ h)).trans h
theorem OL.later' {w w' : World} {p : Option Addr} {n c : Nat} {L : List O} (h : OL w p n c L) (hb : Below w.heap.size w w') : OL w' p n c L := h.later hb
variable {NB : Nat} {Wd : World → Prop} {Ju : World → Nat → List Tc → (Nat → Prop) → Prop}
end Go.Proofs.YtccgjdmbongbaaaDoor
