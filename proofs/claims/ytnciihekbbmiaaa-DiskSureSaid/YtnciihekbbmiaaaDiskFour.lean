/- Four disks side by side. -/
import Derived.Test.YtnciihekbbmiaaaDiskPlayed
namespace Go.Proofs.Ytnciihekbbmiaaa
open Go.RowKit Go.ChangeShapes Go.WideShapes
set_option linter.unusedVariables false
set_option maxRecDepth 10000
set_option linter.unusedSimpArgs false

structure Four (w W : World) (col : Nat → Nat) (B0 B1 B2 B3 : Nat) (d0 d1 d2 d3 : DS) : Prop where
  hd : Hd w W col
  h0 : Dk W col 1 B0 d0
  h1 : Dk W col 7 B1 d1
  h2 : Dk W col 13 B2 d2
  h3 : Dk W col 19 B3 d3
section
variable {w W W' : World} {col : Nat → Nat} {B0 B1 B2 B3 : Nat} {d0 d1 d2 d3 d' : DS}
theorem Four.later (h : Four w W col B0 B1 B2 B3 d0 d1 d2 d3) (hb : Below W.heap.size W W') : Four w W' col B0 B1 B2 B3 d0 d1 d2 d3 := ⟨h.hd.later hb, h.h0.later hb, h.h1.later hb, h.h2.later hb, h.h3.later hb⟩
theorem Four.recol {col' : Nat → Nat} (h : Four w W col B0 B1 B2 B3 d0 d1 d2 d3) (he : Ext W col col') : Four w W col' B0 B1 B2 B3 d0 d1 d2 d3 := ⟨h.hd.ext he, h.h0.recol he, h.h1.recol he, h.h2.recol he, h.h3.recol he⟩
theorem Four.act0 (h : Four w W col B0 B1 B2 B3 d0 d1 d2 d3) (ht : Turned W col 1 B0 d' W') : ∃ col', Four w W' col' B0 B1 B2 B3 d' d1 d2 d3 := by
  obtain ⟨col', he, hd, hh, hc⟩ := h.hd.act ht (by omega)
  exact ⟨col', hh, hd, h.h1.other he hc (by omega) (by omega), h.h2.other he hc (by omega) (by omega), h.h3.other he hc (by omega) (by omega)⟩
theorem Four.act1 (h : Four w W col B0 B1 B2 B3 d0 d1 d2 d3) (ht : Turned W col 7 B1 d' W') : ∃ col', Four w W' col' B0 B1 B2 B3 d0 d' d2 d3 := by
  obtain ⟨col', he, hd, hh, hc⟩ := h.hd.act ht (by omega)
  exact ⟨col', hh, h.h0.other he hc (by omega) (by omega), hd, h.h2.other he hc (by omega) (by omega), h.h3.other he hc (by omega) (by omega)⟩
theorem Four.act2 (h : Four w W col B0 B1 B2 B3 d0 d1 d2 d3) (ht : Turned W col 13 B2 d' W') : ∃ col', Four w W' col' B0 B1 B2 B3 d0 d1 d' d3 := by
  obtain ⟨col', he, hd, hh, hc⟩ := h.hd.act ht (by omega)
  exact ⟨col', hh, h.h0.other he hc (by omega) (by omega), h.h1.other he hc (by omega) (by omega), hd, h.h3.other he hc (by omega) (by omega)⟩
theorem Four.act3 (h : Four w W col B0 B1 B2 B3 d0 d1 d2 d3) (ht : Turned W col 19 B3 d' W') : ∃ col', Four w W' col' B0 B1 B2 B3 d0 d1 d2 d' := by
  obtain ⟨col', he, hd, hh, hc⟩ := h.hd.act ht (by omega)
  exact ⟨col', hh, h.h0.other he hc (by omega) (by omega), h.h1.other he hc (by omega) (by omega), h.h2.other he hc (by omega) (by omega), hd⟩
/-- The first one's place is taken by a copy of the last one. -/
theorem Four.renew (h : Four w W col B0 B1 B2 B3 d0 d1 d2 d3) {B' : Nat} (hc : ∃ col', Ext W col col' ∧ Dk W' col' 1 B' d3) (hb : Below W.heap.size W W') : ∃ col', Four w W' col' B' B1 B2 B3 d3 d1 d2 d3 := by
  obtain ⟨col', he, hd⟩ := hc
  have g := (h.recol he).later hb
  exact ⟨col', g.hd, hd, g.h1, g.h2, g.h3⟩
end
theorem sync_twin (d : DS) : Twin d.sync d := ⟨rfl, rfl, rfl, rfl⟩
theorem crash_all_twin (d : DS) (tear : Int) : Twin (d.crash (d.L.length : Nat) tear) d := by
  have hk : kp (d.L.length : Nat) d.L.length = d.L.length := by unfold kp; omega
  have hd : d.crash (d.L.length : Nat) tear = ⟨d.M, d.a, d.z, d.s, foldV d.s d.V d.L, foldT d.z d.t d.L, []⟩ := by
    unfold DS.crash crV crT
    rw [hk, List.drop_length, List.take_length]
  rw [hd]
  exact ⟨rfl, rfl, rfl, rfl⟩
theorem crash_nil_twin (d : DS) (h : d.L = []) (keep tear : Int) : Twin (d.crash keep tear) d := by
  obtain ⟨M, a, z, s, V, t, L⟩ := d
  simp only at h
  subst h
  have e1 : crV s tear V [] (kp keep ([] : List Dw).length) = V := by unfold crV; simp [foldV]
  have e2 : crT z tear t [] (kp keep ([] : List Dw).length) = t := by unfold crT; simp [foldT]
  have hd : DS.crash ⟨M, a, z, s, V, t, []⟩ keep tear = ⟨M, a, z, s, V, t, []⟩ := by
    unfold DS.crash
    simp only [e1, e2]
  rw [hd]
  exact Twin.refl _
theorem crash_like (d : DS) (keep tear : Int) : d.like (d.crash keep tear) := ⟨rfl, rfl, rfl, rfl, crV_len ..⟩
theorem sync_like (d : DS) : d.like d.sync := ⟨rfl, rfl, rfl, rfl, foldV_len ..⟩
end Go.Proofs.Ytnciihekbbmiaaa
