import Derived.Test.YtmdldbchdnkfcaaPA19
import Derived.Test.YtmdldbchdnkfcaaPA09
import Derived.Test.YtmdldbchdnkfcaaPA22
import Derived.Deep.RegionHeld
import Derived.Shelf.SlMaps.Clone
namespace Go.Proofs.Ytmdldbchdnkfcaa
open Go.RowKit Go.ChangeShapes Go.WideShapes Go.Maps Go.Shelf
set_option linter.unusedVariables false
set_option linter.unusedSimpArgs false
set_option maxRecDepth 10000
def fldElem (v : Value) : Option (DataW Fv × List MemPlace) := match v with
 | .agg c => match c.toList with
  | [.int .i64 a, .int .i64 b, .int .i64 c, .int .i64 d, .int .i64 e, .int .i64 f] => some (.held ⟨a, b, c, d, e, f⟩, [])
  | _ => none
 | _ => none
theorem fld_mk (f : Fv) : fldElem (.agg (fcs f)) = some (.held f, []) := rfl
theorem fld_inv {v : Value} {y : DataW Fv × List MemPlace} (h : fldElem v = some y) : ∃ f, v = .agg (fcs f) ∧ y = (.held f, []) := by
 unfold fldElem at h
 split at h
 · rename_i c
   split at h
   · rename_i a b c' d e f hc
     refine ⟨⟨a, b, c', d, e, f⟩, ?_, by cases h; rfl⟩
     have : c = #[.int .i64 a, .int .i64 b, .int .i64 c', .int .i64 d, .int .i64 e, .int .i64 f] := Array.ext' hc
     rw [this]
   · cases h
 · cases h
theorem zeroFld (w : World) : (zeroValue 42).run Try.prog w = .ok (.agg (fcs fz)) w := by kernel_rfl
def FTab (T : TypeId) (W : World) (B : Nat) (mb : Option Nat) (M : List FW) : Prop :=
 W.heap[B]? = some (.cells #[.map mb] T (0, 0)) ∧ (mb = none → M = []) ∧
 ∀ b, mb = some b → b ≠ B ∧ ∃ D, W.ownsMap Try.prog 32 fldElem b M.length D ∧ Gm D M
theorem FTab.kept {T : TypeId} {W W' : World} {B : Nat} {mb : Option Nat} {M : List FW} {S : Nat → Prop} (h : FTab T W B mb M) (ht : Turn S W W') (hs : ∀ k, foot B mb k → ¬ S k) : FTab T W' B mb M := by
 refine ⟨(ht.block B (block_lt h.1) (hs B (.inl rfl))).trans h.1, h.2.1, fun b hb => ?_⟩
 obtain ⟨hne, D, hown, hT⟩ := h.2.2 b hb
 exact ⟨hne, D, ownsMap_turn hown ht (hs b (.inr hb)), hT⟩
theorem FTab.later {T : TypeId} {W W' : World} {B : Nat} {mb : Option Nat} {M : List FW} (h : FTab T W B mb M) (hb : Below W.heap.size W W') : FTab T W' B mb M := h.kept (Turn.of_below (S := fun _ => False) hb) (fun _ _ h => h)
theorem FTab.foot_lt {T : TypeId} {W : World} {B : Nat} {mb : Option Nat} {M : List FW} (h : FTab T W B mb M) : ∀ k, foot B mb k → k < W.heap.size := by
 rintro k (rfl | hk)
 · exact block_lt h.1
 · obtain ⟨_, D, hown, _⟩ := h.2.2 k hk
   exact hown.lt
theorem FTab.up {T : TypeId} {W : World} {B : Nat} {mb : Option Nat} {M : List FW} (h : FTab T W B mb M) : Up (keysG M) ∧ ∀ r ∈ M, Kok r.1 := by
 cases mb with
 | none => rw [h.2.1 rfl]; exact ⟨List.Pairwise.nil, fun r hr => by cases hr⟩
 | some b =>
  obtain ⟨_, D, _, hT⟩ := h.2.2 b rfl
  exact ⟨hT.up, hT.ok⟩
theorem look_ftab {w : World} {b n : Nat} {D : DataW Fv} {M : List FW} (hown : w.ownsMap Try.prog 32 fldElem b n D) (hT : Gm D M) {k : K} (hk : Kok k) :
 (Instr.lookup 83 (.map (some b)) (.agg #[.int .u8 k.1, .int .u8 k.2.1, .int .u8 k.2.2]) true).run Try.prog w = .ok (.tuple #[.agg (fcs ((getG M k).getD fz)), .bool (getG M k).isSome]) w := by
 have hkey := key_reads k hk
 unfold keyVal at hkey
 obtain ⟨v, ps, hrun, hv⟩ := hown.look_ok keyLaw Try.underlying83 (zeroFld w) (fld_mk fz) hkey
 obtain ⟨f, rfl, hc⟩ := fld_inv hv
 rw [hT.at_ k hk, Prod.mk.injEq] at hc
 rw [hT.has hk] at hrun
 rw [hrun]
 cases hg : getG M k with
 | none =>
  rw [hg] at hc
  have : fz = f := by simpa using hc.1
  subst this
  rfl
 | some x =>
  rw [hg] at hc
  have : x = f := by simpa using hc.1
  subst this
  rfl
theorem ftnew_any (W : World) : Calls Try.prog 23 #[] W fun e w' => e = .returned (.pointer (some ⟨W.heap.size, 0, none⟩)) ∧ w' = W.alloc (.cells #[.map none] 85) := by
 go_enter Try.func23, Try.ntmps23
 go_wp2_with fail
 go_ret
 exact ⟨rfl, rfl⟩
theorem new_ftab (T : TypeId) (W : World) : FTab T (W.alloc (.cells #[.map none] T)) W.heap.size none [] := ⟨alloc_block W _, fun _ => rfl, fun b hb => by cases hb⟩
theorem ft_chg (w : World) (Z : Nat) (a' b' c' d' e' f' : Value) : Chg (fun k => k = Z) w ((((((w.setCell ⟨Z, 0, none⟩ a').setCell ⟨Z, 1, none⟩ b').setCell ⟨Z, 2, none⟩ c').setCell ⟨Z, 3, none⟩ d').setCell ⟨Z, 4, none⟩ e').setCell ⟨Z, 5, none⟩ f') :=
 ((((((Chg.refl (fun k => k = Z) w).setCell ⟨Z, 0, none⟩ _ fun _ => rfl).setCell ⟨Z, 1, none⟩ _ fun _ => rfl).setCell ⟨Z, 2, none⟩ _ fun _ => rfl).setCell ⟨Z, 3, none⟩ _ fun _ => rfl).setCell ⟨Z, 4, none⟩ _ fun _ => rfl).setCell ⟨Z, 5, none⟩ _ fun _ => rfl
structure SG (B X : Nat) (mb : Option Nat) (k : K) (g : Option Fv) (w : World) : Prop where
 b : w.cell? ⟨B, 0, none⟩ = some (.map mb)
 x : w.heap[X]? = some (.cells #[.int .u8 k.1, .int .u8 k.2.1, .int .u8 k.2.2] 32 (0, 0))
 look : (Instr.lookup 83 (.map mb) (.agg #[.int .u8 k.1, .int .u8 k.2.1, .int .u8 k.2.2]) true).run Try.prog w = .ok (.tuple #[.agg (fcs (g.getD fz)), .bool g.isSome]) w
theorem look_fany {T : TypeId} {w : World} {B : Nat} {mb : Option Nat} {M : List FW} (h : FTab T w B mb M) {k : K} (hk : Kok k) : (Instr.lookup 83 (.map mb) (.agg #[.int .u8 k.1, .int .u8 k.2.1, .int .u8 k.2.2]) true).run Try.prog w = .ok (.tuple #[.agg (fcs ((getG M k).getD fz)), .bool (getG M k).isSome]) w := by
 cases mb with
 | none =>
  have hkey := key_reads k hk
  unfold keyVal at hkey
  have hl := Maps.look_nil (w := w) (P := Try.prog) true keyLaw Try.underlying83 (zeroFld w) hkey
  rw [h.2.1 rfl]
  exact hl
 | some b =>
  obtain ⟨hne, D, hown, hT⟩ := h.2.2 b rfl
  exact look_ftab hown hT hk
theorem FTab.sg {T : TypeId} {w : World} {B X : Nat} {mb : Option Nat} {M : List FW} (h : FTab T w B mb M) {k : K} (hk : Kok k) (hx : w.heap[X]? = some (.cells #[.int .u8 k.1, .int .u8 k.2.1, .int .u8 k.2.2] 32 (0, 0))) : SG B X mb k (getG M k) w :=
 ⟨block_cell h.1 rfl, hx, look_fany h hk⟩
set_option maxHeartbeats 2000000 in
theorem ftget_any (T : TypeId) (k : K) (hk : Kok k) (W : World) (B : Nat) (mb : Option Nat) (M : List FW) (h : FTab T W B mb M) :
 Calls Try.prog 46 #[.pointer (some ⟨B, 0, none⟩), .agg #[.int .u8 k.1, .int .u8 k.2.1, .int .u8 k.2.2]] W fun e w' => e = .returned (.tuple #[.agg (fcs ((getG M k).getD fz)), .bool (getG M k).isSome]) ∧ Below W.heap.size W w' := by
 obtain ⟨hb0, hx0, hr0⟩ := ftwo_boxes W #[.int .u8 k.1, .int .u8 k.2.1, .int .u8 k.2.2] #[.int .i64 0, .int .i64 0, .int .i64 0, .int .i64 0, .int .i64 0, .int .i64 0] 32 42
 have HB0 := Lib.hid hb0
 have HR0 := Lib.hid hr0
 have HX0 := Lib.hid hx0
 have HT0 := Lib.hid (h.later hb0)
 have HFT := Lib.hid h.foot_lt
 obtain ⟨X, hX⟩ : ∃ X, W.heap.size = X := ⟨_, rfl⟩
 have HHX := Lib.hid hX
 rw [hX] at HR0 HX0
 have HK := Lib.hid hk
 clear hb0 hx0 hr0 h hk
 obtain ⟨g, hg⟩ : ∃ g, getG M k = g := ⟨_, rfl⟩
 rw [hg]
 have HGG := Lib.hid hg
 clear hg
 obtain ⟨⟨h1, h2, h3, h4, h5, h6⟩, hgd⟩ : ∃ f, g.getD fz = f := ⟨_, rfl⟩
 have HGD := Lib.hid hgd
 rw [hgd]
 clear hgd
 generalize hgb : g.isSome = gb at *
 have HGB := Lib.hid hgb
 clear hgb
 go_enter Try.func46, Try.ntmps46
 go_upto_region 1 with (fail)
 clear hX
 generalize (W.alloc (.cells #[.int .u8 k.1, .int .u8 k.2.1, .int .u8 k.2.2] 32)).alloc (.cells #[.int .i64 0, .int .i64 0, .int .i64 0, .int .i64 0, .int .i64 0, .int .i64 0] 42) = V0 at *
 have HO : Hid (W.heap.size ≤ X + 1 ∧ X ≠ X + 1 ∧ ∀ j, foot B mb j → j ≠ X + 1) := Lib.hid ⟨by rw [HHX.out]; omega, by omega, fun j hj => by have := HFT.out j hj; rw [HHX.out] at this; omega⟩
 generalize X + 1 = R at *
 go_wp2_with fail
 have htd : FTab T V0.drew B mb M := HT0.out.kept (Turn.refl (fun _ => False) V0).drew (fun _ _ h => h)
 have hbd : SG B X mb k g V0.drew := by rw [← HGG.out]; exact htd.sg HK.out HX0.out
 have HTD := Lib.hid htd
 have HRD : Hid (V0.drew.heap[R]? = some (.cells #[.int .i64 0, .int .i64 0, .int .i64 0, .int .i64 0, .int .i64 0, .int .i64 0] 42 (0, 0))) := Lib.hid HR0.out
 have HBD0 := Lib.hid (below_drewN HB0.out 1)
 have HBD : Hid (Below W.heap.size W V0.drew) := Lib.hid HBD0.out
 clear htd HBD0 HB0 HR0
 refine wp_region_held_drew (S := fun w' => Hid (SG B X mb k g w')) (by kernel_rfl) (Lib.hid hbd) (fun hHeld => ?_)
 have HXD := Lib.hid hbd.x
 clear hbd HX0 HT0
 generalize V0.drew = W3 at *
 refine wpAnyH_take (i := 0) (oi := ⟨some 10, _, _, _, _, _⟩) (v := .pointer (some ⟨B, 0, none⟩)) rfl (by kernel_rfl) (by kernel_rfl) (by kernel_rfl) (fun _ _ _ h => h) (Or.inl ⟨by rfl, fun w' hw' => ?_⟩) (by assumption) ?_
 · clear hHeld
   go_simp
 simp only [Act.put, List.setIfInBounds_toArray, List.set_cons_zero, List.set_cons_succ]
 refine wpAnyH_take (i := 1) (oi := ⟨some 11, _, _, _, _, _⟩) (v := .pointer (some ⟨B, 0, none⟩)) rfl (by kernel_rfl) (by kernel_rfl) (by kernel_rfl) (fun _ _ _ h => h) (Or.inl ⟨by rfl, fun w' hw' => ?_⟩) (by assumption) ?_
 · clear hHeld
   go_simp
 simp only [Act.put, List.setIfInBounds_toArray, List.set_cons_zero, List.set_cons_succ]
 refine wpAnyH_take (i := 2) (oi := ⟨some 12, _, _, _, _, _⟩) (v := .pointer (some ⟨B, 0, none⟩)) rfl (by kernel_rfl) (by kernel_rfl) (by kernel_rfl) (fun _ _ _ h => h) (Or.inl ⟨by rfl, fun w' hw' => ?_⟩) (by assumption) ?_
 · clear hHeld
   go_simp
 simp only [Act.put, List.setIfInBounds_toArray, List.set_cons_zero, List.set_cons_succ]
 refine wpAnyH_take (i := 3) (oi := ⟨some 13, _, _, _, _, _⟩) (v := .map mb) rfl (by kernel_rfl) (by kernel_rfl) (by kernel_rfl) (fun _ _ _ h => h) (Or.inl ⟨by rfl, fun w' hw' => ?_⟩) (by assumption) ?_
 · have c0 := hw'.out.b
   clear hHeld
   go_simp
 simp only [Act.put, List.setIfInBounds_toArray, List.set_cons_zero, List.set_cons_succ]
 refine wpAnyH_take (i := 4) (oi := ⟨some 14, _, _, _, _, _⟩) (v := .agg #[.int .u8 k.1, .int .u8 k.2.1, .int .u8 k.2.2]) rfl (by kernel_rfl) (by kernel_rfl) (by kernel_rfl) (fun _ _ _ h => h) (Or.inl ⟨by rfl, fun w' hw' => ?_⟩) (by assumption) ?_
 · have c0 := block_cell (j := 0) hw'.out.x rfl; have c1 := block_cell (j := 1) hw'.out.x rfl; have c2 := block_cell (j := 2) hw'.out.x rfl
   clear hHeld
   go_simp
 simp only [Act.put, List.setIfInBounds_toArray, List.set_cons_zero, List.set_cons_succ]
 refine wpAnyH_take (i := 5) (oi := ⟨some 15, _, _, _, _, _⟩) (v := .tuple #[.agg #[.int .i64 h1, .int .i64 h2, .int .i64 h3, .int .i64 h4, .int .i64 h5, .int .i64 h6], .bool gb]) rfl (by kernel_rfl) (by kernel_rfl) (by kernel_rfl) (fun _ _ _ h => h) (Or.inl ⟨by rfl, fun w' hw' => ?_⟩) (by assumption) ?_
 · have c0 := hw'.out.look; rw [HGD.out, HGB.out] at c0
   clear hHeld
   go_simp
 simp only [Act.put, List.setIfInBounds_toArray, List.set_cons_zero, List.set_cons_succ]
 refine wpAnyH_take (i := 6) (oi := ⟨some 9, _, _, _, _, _⟩) (v := .tuple #[.agg #[.int .i64 h1, .int .i64 h2, .int .i64 h3, .int .i64 h4, .int .i64 h5, .int .i64 h6], .bool gb]) rfl (by kernel_rfl) (by kernel_rfl) (by kernel_rfl) (fun _ _ _ h => h) (Or.inl ⟨by rfl, fun w' hw' => ?_⟩) (by assumption) ?_
 · clear hHeld
   go_simp
 simp only [Act.put, List.setIfInBounds_toArray, List.set_cons_zero, List.set_cons_succ]
 refine wpAnyH_take (i := 7) (oi := ⟨some 16, _, _, _, _, _⟩) (v := .agg #[.int .i64 h1, .int .i64 h2, .int .i64 h3, .int .i64 h4, .int .i64 h5, .int .i64 h6]) rfl (by kernel_rfl) (by kernel_rfl) (by kernel_rfl) (fun _ _ _ h => h) (Or.inl ⟨by rfl, fun w' hw' => ?_⟩) (by assumption) ?_
 · clear hHeld
   go_simp
 simp only [Act.put, List.setIfInBounds_toArray, List.set_cons_zero, List.set_cons_succ]
 refine wpAnyH_take (i := 8) (oi := ⟨some 17, _, _, _, _, _⟩) (v := .bool gb) rfl (by kernel_rfl) (by kernel_rfl) (by kernel_rfl) (fun _ _ _ h => h) (Or.inl ⟨by rfl, fun w' hw' => ?_⟩) (by assumption) ?_
 · clear hHeld
   go_simp
 simp only [Act.put, List.setIfInBounds_toArray, List.set_cons_zero, List.set_cons_succ]
 refine wpAnyH_ready (rs := [9]) (by kernel_rfl) (by simp) (AllReadyH.cons rfl (fun K hK => ?_) (AllReadyH.nil))
 obtain ⟨r0, r1, r2, r3, r4, r5⟩ := fcells HRD.out
 obtain ⟨f0, f1, f2, f3, f4, f5⟩ := ffree HRD.out
 have HR5 := Lib.hid (fstored (a' := .int .i64 h1) (b' := .int .i64 h2) (c' := .int .i64 h3) (d' := .int .i64 h4) (e' := .int .i64 h5) (f' := .int .i64 h6) HRD.out)
 have hch := ft_chg W3 R (.int .i64 h1) (.int .i64 h2) (.int .i64 h3) (.int .i64 h4) (.int .i64 h5) (.int .i64 h6)
 have htt : Turn (fun k => k = R) W3 ((((((W3.setCell ⟨R, 0, none⟩ (.int .i64 h1)).setCell ⟨R, 1, none⟩ (.int .i64 h2)).setCell ⟨R, 2, none⟩ (.int .i64 h3)).setCell ⟨R, 3, none⟩ (.int .i64 h4)).setCell ⟨R, 4, none⟩ (.int .i64 h5)).setCell ⟨R, 5, none⟩ (.int .i64 h6)) := ⟨hch.os, hch.tape, hch.output, hch.size, hch.block⟩
 have hSN : Hid (SG B X mb k g ((((((W3.setCell ⟨R, 0, none⟩ (.int .i64 h1)).setCell ⟨R, 1, none⟩ (.int .i64 h2)).setCell ⟨R, 2, none⟩ (.int .i64 h3)).setCell ⟨R, 3, none⟩ (.int .i64 h4)).setCell ⟨R, 4, none⟩ (.int .i64 h5)).setCell ⟨R, 5, none⟩ (.int .i64 h6))) := Lib.hid (by rw [← HGG.out]; exact (HTD.out.kept htt (fun j hj => HO.out.2.2 j hj)).sg HK.out ((hch.block X (block_lt HXD.out) HO.out.2.1).trans HXD.out))
 have HB5 := Lib.hid (fkept HBD.out HO.out.1 (.int .i64 h1) (.int .i64 h2) (.int .i64 h3) (.int .i64 h4) (.int .i64 h5) (.int .i64 h6))
 clear hch htt
 go_simp
 go_wp2_with fail
 refine hK.out _ _ hSN (fun hHeld2 => ?_)
 try simp only [Act.put, List.setIfInBounds_toArray, List.set_cons_zero, List.set_cons_succ]
 clear hSN hK K hHeld
 have hHeld := hHeld2
 clear hHeld2 r0 r1 r2 r3 r4 r5 f0 f1 f2 f3 f4 f5 HRD HBD HTD HXD
 refine wpAnyH_take (i := 10) (oi := ⟨some 5, _, _, _, _, _⟩) (v := .bool gb) rfl (by kernel_rfl) (by kernel_rfl) (by kernel_rfl) (fun _ _ _ h => h) (Or.inl ⟨by rfl, fun w' hw' => ?_⟩) (by assumption) ?_
 · clear hHeld
   go_simp
 simp only [Act.put, List.setIfInBounds_toArray, List.set_cons_zero, List.set_cons_succ]
 refine wpAnyH_done (by kernel_rfl) ?_ _
 clear hHeld
 generalize ((((((W3.setCell ⟨R, 0, none⟩ (.int .i64 h1)).setCell ⟨R, 1, none⟩ (.int .i64 h2)).setCell ⟨R, 2, none⟩ (.int .i64 h3)).setCell ⟨R, 3, none⟩ (.int .i64 h4)).setCell ⟨R, 4, none⟩ (.int .i64 h5)).setCell ⟨R, 5, none⟩ (.int .i64 h6)) = W5 at *
 go_upto_region 4 with (fail)
 obtain ⟨r0, r1, r2, r3, r4, r5⟩ := fcells HR5.out
 obtain ⟨f0, f1, f2, f3, f4, f5⟩ := ffree HR5.out
 have HFS := Lib.hid (fstored (a' := .int .i64 h1) (b' := .int .i64 h2) (c' := .int .i64 h3) (d' := .int .i64 h4) (e' := .int .i64 h5) (f' := .int .i64 h6) HR5.out)
 have HGS := Lib.hid (fkept HB5.out HO.out.1 (.int .i64 h1) (.int .i64 h2) (.int .i64 h3) (.int .i64 h4) (.int .i64 h5) (.int .i64 h6))
 go_wp2_with fail
 refine bodyPost_ret (v := .tuple #[.agg #[.int .i64 h1, .int .i64 h2, .int .i64 h3, .int .i64 h4, .int .i64 h5, .int .i64 h6], .bool gb]) ?_ rfl ⟨rfl, HGS.out⟩
 exact results_ff rfl _ _ R _ rfl _ rfl rfl HFS.out
theorem FTab.stored {T : TypeId} {w : World} {B b n : Nat} {D : DataW Fv} {M : List FW} (hT : Gm D M) {k : K} (hk : Kok k) (v : Fv) (hown : w.ownsMap Try.prog 32 fldElem b n (D.put (keyLit k) (.held v)))
 (hB : w.heap[B]? = some (.cells #[.map (some b)] T (0, 0))) (hne : b ≠ B) : FTab T w B (some b) (putG M k v) := by
 refine ⟨hB, (fun e => by cases e), fun b' hb => ?_⟩
 cases hb
 have hT' := hT.put hk v
 have h := ownsMap_tight hown
 rw [hT'.size] at h
 exact ⟨hne, _, h, hT'⟩
def FPuts (T : TypeId) (W : World) (B : Nat) (mb : Option Nat) (M : List FW) (w' : World) : Prop := ∃ mb', FTab T w' B mb' M ∧ (mb' = mb ∨ ∃ b, mb' = some b ∧ W.heap.size ≤ b) ∧ Turn (foot B mb) W w'
set_option maxHeartbeats 2000000 in
theorem ftput_any (T : TypeId) (k : K) (hk : Kok k) (v : Fv) (W : World) (B : Nat) (mb : Option Nat) (M : List FW) (h : FTab T W B mb M) (hn : M.length ≤ 1000) :
 Calls Try.prog 25 #[.pointer (some ⟨B, 0, none⟩), .agg #[.int .u8 k.1, .int .u8 k.2.1, .int .u8 k.2.2], .agg (fcs v)] W fun e w' => e = .returned (.tuple #[]) ∧ FPuts T W B mb (putG M k v) w' := by
 have hkey := key_reads k hk
 unfold keyVal at hkey
 have hmm := @run_makeMap Try.prog
 obtain ⟨h1, h2, h3, h4, h5, h6⟩ := v
 obtain ⟨hb0, hx0, hy0⟩ := ftwo_boxes W #[.int .u8 k.1, .int .u8 k.2.1, .int .u8 k.2.2] #[.int .i64 h1, .int .i64 h2, .int .i64 h3, .int .i64 h4, .int .i64 h5, .int .i64 h6] 32 42
 have hT0 := h.later hb0
 have HTN : Hid (Turn (foot B mb) W ((W.alloc (.cells #[.int .u8 k.1, .int .u8 k.2.1, .int .u8 k.2.2] 32)).alloc (.cells #[.int .i64 h1, .int .i64 h2, .int .i64 h3, .int .i64 h4, .int .i64 h5, .int .i64 h6] 42))) := Lib.hid (Turn.of_below hb0)
 have HX0 := Lib.hid hx0
 have HY0 := Lib.hid hy0
 have HFT := Lib.hid h.foot_lt
 have HSZ0 : Hid (W.heap.size ≤ ((W.alloc (.cells #[.int .u8 k.1, .int .u8 k.2.1, .int .u8 k.2.2] 32)).alloc (.cells #[.int .i64 h1, .int .i64 h2, .int .i64 h3, .int .i64 h4, .int .i64 h5, .int .i64 h6] 42)).heap.size) := Lib.hid hb0.size
 obtain ⟨X, hX⟩ : ∃ X, W.heap.size = X := ⟨_, rfl⟩
 have HHX := Lib.hid hX
 rw [hX] at HX0 HY0
 have HK := Lib.hid hk
 clear hb0 hx0 hy0 hk
 cases mb with
 | some b =>
  obtain ⟨hne, D, hown, hT⟩ := hT0.2.2 b rfl
  have HO := Lib.hid hown
  have HTm := Lib.hid hT
  have HB1 := Lib.hid hT0.1
  have hq := fun w => run_eql_map_nil_sl (P := Try.prog) w 83 _ _ (some b) Try.underlying83
  clear h hown hT hT0
  go_enter Try.func25, Try.ntmps25
  go_upto_region 1 with (fail)
  clear hX
  generalize (W.alloc (.cells #[.int .u8 k.1, .int .u8 k.2.1, .int .u8 k.2.2] 32)).alloc (.cells #[.int .i64 h1, .int .i64 h2, .int .i64 h3, .int .i64 h4, .int .i64 h5, .int .i64 h6] 42) = W1 at *
  generalize X + 1 = Y at *
  have c0 := block_cell (j := 0) HB1.out rfl
  have x0 := block_cell (j := 0) HX0.out rfl
  have x1 := block_cell (j := 1) HX0.out rfl
  have x2 := block_cell (j := 2) HX0.out rfl
  obtain ⟨y0, y1, y2, y3, y4, y5⟩ := fcells HY0.out
  go_wp2_with fail
  go_still_tail 6, (by kernel_rfl)
  repeat still_step
  change wpList _ _ _ _ _ W1.drew
  refine wpList_mapUpdate_own _ rfl _ _ _ 83 rfl 32 42 keyLaw Try.underlying83 fldElem b M.length _ rfl HO.out.drew (by unfold maxLen; omega) _ _ _ rfl rfl hkey _ [] (fld_mk ⟨h1, h2, h3, h4, h5, h6⟩) ?_
  intro w3 hown3 hgrow3
  go_wp2_with fail
  go_end0
  refine ⟨rfl, some b, FTab.stored HTm.out HK.out ⟨h1, h2, h3, h4, h5, h6⟩ hown3 ((hgrow3.block B (block_lt HB1.out) (fun e => hne (by cases e; rfl))).trans HB1.out) hne, .inl rfl, ?_⟩
  exact HTN.out.drew.trans (Turn.of_grown (S := fun k => k = b) hgrow3 (fun k e => by cases e; rfl)) (fun k _ e => .inr (by rw [e]))
 | none =>
  obtain rfl : M = [] := h.2.1 rfl
  have HBW : Hid (B < W.heap.size) := Lib.hid (block_lt h.1)
  have HB1 := Lib.hid hT0.1
  have hq := fun w => run_eql_map_nil_sl (P := Try.prog) w 83 _ _ none Try.underlying83
  have HYB : Hid (¬ X + 1 = B) := Lib.hid (by have := HBW.out; have := HHX.out; omega)
  clear h hT0
  go_enter Try.func25, Try.ntmps25
  go_upto_region 1 with (fail)
  clear hX
  generalize (W.alloc (.cells #[.int .u8 k.1, .int .u8 k.2.1, .int .u8 k.2.2] 32)).alloc (.cells #[.int .i64 h1, .int .i64 h2, .int .i64 h3, .int .i64 h4, .int .i64 h5, .int .i64 h6] 42) = W1 at *
  generalize X + 1 = Y at *
  have c0 := block_cell (j := 0) HB1.out rfl
  have f0 := block_free 0 HB1.out
  obtain ⟨W3, hW3⟩ : ∃ W3, (W1.alloc (.map #[] 0)).setCell ⟨B, 0, none⟩ (.map (some W1.heap.size)) = W3 := ⟨_, rfl⟩
  have hbl := block_lt HB1.out
  have hne : W1.heap.size ≠ B := by omega
  have hba : Below W1.heap.size W1 (W1.alloc (.map #[] 0)) := (Below.refl _ _).alloc (Nat.le_refl _) _
  have f1 := block_free 0 (block_later HB1.out hba)
  have c1 := block_cell (j := 0) (block_later HB1.out hba) rfl
  have hB3 : W3.heap[B]? = some (.cells #[.map (some W1.heap.size)] T (0, 0)) := by
   rw [← hW3]
   exact block_put 0 _ (block_later HB1.out hba)
  have HO : Hid (W3.ownsMap Try.prog 32 fldElem W1.heap.size 0 (.map [] : DataW Fv)) := Lib.hid (by
   rw [← hW3]
   have := World.ownsMap_made (H := Fv) W1 Try.prog 32 fldElem
   exact this.setCell (a := ⟨B, 0, none⟩) hne _)
  have hch : Chg (fun k => k = B) W1 W3 := by
   rw [← hW3]
   exact (Chg.of_below (S := fun k => k = B) hba).trans (T := fun k => k = B) ((Chg.refl (fun k => k = B) _).setCell ⟨B, 0, none⟩ _ fun _ => rfl) (fun _ _ h => h)
  have HT3 : Hid (Turn (foot B none) W W3) := Lib.hid (HTN.out.trans (S' := fun k => k = B) ⟨hch.os, hch.tape, hch.output, hch.size, hch.block⟩ (fun k _ e => .inl e))
  have HX3 := Lib.hid ((hch.block X (block_lt HX0.out) (by have := HBW.out; have := HHX.out; omega)).trans HX0.out)
  have HY3 := Lib.hid ((hch.block Y (block_lt HY0.out) (HYB.out)).trans HY0.out)
  have HB3 := Lib.hid hB3
  have HSZ := Lib.hid (Nat.le_trans HSZ0.out (Nat.le_refl W1.heap.size))
  clear hB3 hch hba hbl
  go_wp2_with fail
  try rw [hW3]
  try simp only [hW3]
  clear hW3 c0 f0 c1 f1
  have c0 := block_cell (j := 0) HB3.out rfl
  have x0 := block_cell (j := 0) HX3.out rfl
  have x1 := block_cell (j := 1) HX3.out rfl
  have x2 := block_cell (j := 2) HX3.out rfl
  obtain ⟨y0, y1, y2, y3, y4, y5⟩ := fcells HY3.out
  go_still_tail 6, (by kernel_rfl)
  repeat still_step
  change wpList _ _ _ _ _ W3.drew
  refine wpList_mapUpdate_own _ rfl _ _ _ 83 rfl 32 42 keyLaw Try.underlying83 fldElem W1.heap.size 0 _ rfl HO.out.drew (by unfold maxLen; omega) _ _ _ rfl rfl hkey _ [] (fld_mk ⟨h1, h2, h3, h4, h5, h6⟩) ?_
  intro w3 hown3 hgrow3
  go_wp2_with fail
  go_end0
  refine ⟨rfl, some W1.heap.size, FTab.stored Gm.empty HK.out ⟨h1, h2, h3, h4, h5, h6⟩ hown3 ((hgrow3.block B (block_lt HB3.out) (fun e => hne (by cases e; rfl))).trans HB3.out) hne, .inr ⟨_, rfl, HSZ.out⟩, ?_⟩
  exact HT3.out.drew.trans (Turn.of_grown (S := fun k => k = W1.heap.size) hgrow3 (fun k e => by cases e; rfl)) (fun k hk e => by have := HSZ.out; omega)
end Go.Proofs.Ytmdldbchdnkfcaa
