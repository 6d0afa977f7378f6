/- A table's keys, in order. -/
import Derived.Test.YtnjihplhahkljaaTabActs
import Derived.Test.YtnjihplhahkljaaTabIter
import Derived.Test.YtnjihplhahkljaaKeyAlls
namespace Go.Proofs.Ytnjihplhahkljaa
open Go.RowKit Go.ChangeShapes Go.WideShapes Go.Maps
set_option linter.unusedVariables false

/-- What a call that hands back keys of its own says. -/
def ListsN (W : World) (L : List K) (e : Ending) (w' : World) : Prop := ∃ p c, e = .returned (.slice p L.length c) ∧ KL w' p L.length c L ∧ Below W.heap.size W w' ∧ ∀ a, p = some a → W.heap.size ≤ a.block
theorem collect_any (g : Nat) (lb : Array Value) (eg : ∀ args w, (callFunc g args).run Try.prog w = .ok (.enter g args) w) (S : List K → Prop) (N : Nat) (hN : N ≤ 100000) (W : World)
    (hseq : SeqStopsK Fence.wide 2 Try.prog g lb (fun x : K => #[encK x]) KeepsWalks S (fun _ => True) N W) :
    Calls Try.prog 29 #[.func (.func g) #[] lb] W fun e w' => ∃ (v : Value) (ss : List K), e = .returned v ∧ S ss ∧ w'.ownsRow W.heap.size 24 3 v ss.length (kL ss) ∧ Below W.heap.size W w' := by
  have hc := callsIn_wide.1 (appendSeq_in g lb eg S N hN W hseq)
  clear hseq eg
  go_enter Try.func29, Try.ntmps29
  go_wp2_with fail
  refine hc.mono ?_
  rintro e w' ⟨v, ss, rfl, hS, hrow, hb⟩
  have H := Lib.hid (And.intro hS (And.intro hrow hb))
  clear hc hS hrow hb
  go_wp2_with fail
  go_ret
  exact ⟨v, ss, rfl, H.out.1, H.out.2.1, H.out.2.2⟩
set_option maxHeartbeats 1000000 in
theorem sortedf_any (g : Nat) (lb : Array Value) (eg : ∀ args w, (callFunc g args).run Try.prog w = .ok (.enter g args) w) (S : List K → Prop) (N : Nat) (hN : N ≤ 100000) (L : List K) (hL : L.length ≤ 100000) (hS : ∀ ss, S ss → (∀ k ∈ ss, Kok k) ∧ sortL ss = L) (W : World)
    (hseq : SeqStopsK Fence.wide 2 Try.prog g lb (fun x : K => #[encK x]) KeepsWalks S (fun _ => True) N W) :
    Calls Try.prog 22 #[.func (.func g) #[] lb, .func (.func 13) #[] #[]] W (ListsN W L) := by
  have hc := collect_any g lb eg S N hN W hseq
  have HS := Lib.hid hS
  clear hseq eg hS
  go_enter Try.func22, Try.ntmps22
  go_wp2_with fail
  refine hc.mono ?_
  rintro e w' ⟨v, ss, rfl, hs, hrow, hb⟩
  obtain ⟨hok, hset⟩ := HS.out ss hs
  have hl := sortL_len ss
  rw [hset] at hl
  have HB := Lib.hid hb
  have HSET := Lib.hid hset
  have HROW := Lib.hid hrow
  have HOK := Lib.hid hok
  clear hc hs hb hok hset
  rcases hrow.2 with ⟨rfl, h0⟩ | ⟨gg, cap, cur, rfl, hg, _⟩
  · have hnil : L = [] := List.eq_nil_of_length_eq_zero (by omega)
    have HNIL := Lib.hid hnil
    have hs := fun W => sort_none none 0 (.func (.func 13) #[] #[]) W
    clear hnil HSET HOK HROW hrow h0 hl
    go_wp2_with fail
    refine (hs _).mono ?_
    rintro e w2 ⟨rfl, rfl⟩
    go_wp2_with fail
    go_ret
    exact ⟨none, 0, by rw [HNIL.out]; rfl, by rw [HNIL.out]; exact KL.empty _, HB.out, (fun a ha => by cases ha)⟩
  · have hs := sort_some HROW.out (by omega) HOK.out
    rw [HSET.out] at hs
    have HGG := Lib.hid hg
    clear HSET HOK HROW hg hrow
    generalize ss.length = m at *
    have HLN := Lib.hid hl
    have HS1 := Lib.hid hs
    clear hl hs
    go_wp2_with fail
    refine HS1.out.mono ?_
    rintro e w2 ⟨rfl, hgr, hk⟩
    have HB2 := Lib.hid (HB.out.grown hgr HB.out.size (fun k hk => by cases hk; exact HGG.out))
    have HK := Lib.hid hk
    clear hgr hk HS1
    go_wp2_with fail
    go_ret
    exact ⟨_, _, by rw [HLN.out]; rfl, by rw [HLN.out]; exact HK.out, HB2.out, (fun a ha => by cases ha; exact HGG.out)⟩
theorem keys_null (W : World) : Calls Try.prog 12 #[.pointer none] W fun e w' => e = .returned (.slice none 0 0) ∧ w' = W := by
  go_enter Try.func12, Try.ntmps12
  go_wp2_with fail
  go_ret
  exact ⟨rfl, rfl⟩
theorem keysp_any (W : World) (B : Nat) (mb : Option Nat) (M : List Rw) (h : Tab W B mb M) (hn : M.length ≤ 1000) :
    Calls Try.prog 12 #[.pointer (some ⟨B, 0, none⟩)] W (ListsN W (keysM M)) := by
  have c0 := block_cell (j := 0) h.1 rfl
  have hb1 : Below W.heap.size W (W.alloc (.cells #[.map mb] 51)) := (Below.refl _ _).alloc (Nat.le_refl _) _
  have hx : (W.alloc (.cells #[.map mb] 51)).cell? ⟨W.heap.size, 0, none⟩ = some (.map mb) := block_cell (j := 0) (alloc_block W _) rfl
  have eg : ∀ args w, (callFunc 31 args).run Try.prog w = .ok (.enter 31 args) w := enters_of Try.func31 (by kernel_rfl) rfl
  have hs : Calls Try.prog 22 #[.func (.func 31) #[] #[.pointer (some ⟨W.heap.size, 0, none⟩)], .func (.func 13) #[] #[]] (W.alloc (.cells #[.map mb] 51)) (ListsN (W.alloc (.cells #[.map mb] 51)) (keysM M)) := by
    cases mb with
    | none =>
      refine sortedf_any _ _ eg (fun ss => ss = []) 0 (by omega) (keysM M) (by rw [len_keys]; omega) ?_ _ (keys_stops_nil 2 _ _ hx)
      rintro ss rfl
      rw [h.2.1 rfl]
      exact ⟨(fun k hk => by cases hk), by simp [sortL, keysM]⟩
    | some b =>
      obtain ⟨hne, D, hown, hT⟩ := h.2.2 b rfl
      refine sortedf_any _ _ eg (AllK D) (Maps.size D) (by rw [hT.size]; omega) (keysM M) (by rw [len_keys]; omega) ?_ _ (keys_stops 2 _ b M.length (by decide) D _ hx (hown.alloc _))
      rintro ss ⟨h1, h2, h3⟩
      exact ⟨h2, hT.sorted h1 h2 h3⟩
  have HB := Lib.hid hb1
  clear h hb1 hx eg
  go_enter Try.func12, Try.ntmps12
  go_wp2_with fail
  refine (mkeys_any _ _).mono ?_
  rintro e w' ⟨rfl, rfl⟩
  generalize W.alloc (.cells #[.map mb] 51) = W1 at *
  go_wp2_with fail
  refine hs.mono ?_
  rintro e w2 ⟨p, c, rfl, hk, hb, hp⟩
  have HK := Lib.hid hk
  have HP := Lib.hid (show ∀ a, p = some a → W.heap.size ≤ a.block from fun a ha => Nat.le_trans HB.out.size (hp a ha))
  have HB2 := Lib.hid (HB.out.trans (hb.mono HB.out.size))
  clear hs hk hb hp
  go_wp2_with fail
  go_ret
  exact ⟨p, c, rfl, HK.out, HB2.out, HP.out⟩
end Go.Proofs.Ytnjihplhahkljaa
