import Derived.Test.YtccgjdmbongbaaaGreatDoorPA07
import Derived.Test.YtccgjdmbongbaaaGreatDoorPA18
namespace Go.Proofs.YtccgjdmbongbaaaGreatDoor
open Go.RowKit Go.ChangeShapes Go.WideShapes
set_option linter.unusedVariables false
set_option linter.unusedSimpArgs false
set_option maxRecDepth 10000
theorem insertion_none (p : Option Addr) (cap : Nat) (w : World) : Calls Tryz.prog 92 #[.slice p 0 cap, .int .i64 0, .int .i64 0] w fun e w' => e = .returned (.tuple #[]) ∧ w' = w := by
 go_enter Tryz.func92, Tryz.ntmps92
 go_wp2
 refine wp_loop_rounds 1 ?_
 rw [rounds_succ]
 go_wp2
 go_end0
 exact ⟨rfl, rfl⟩
set_option maxHeartbeats 2000000 in
theorem pdq_none (p : Option Addr) (cap : Nat) (lim : Int) (w : World) : Calls Tryz.prog 75 #[.slice p 0 cap, .int .i64 0, .int .i64 0, .int .i64 lim] w fun e w' => e = .returned (.tuple #[]) ∧ w' = w := by
 go_enter Tryz.func75, Tryz.ntmps75
 go_wp2
 refine wp_loop_rounds 1 ?_
 rw [rounds_succ]
 go_wp2_with fail
 refine (insertion_none p cap w).mono ?_
 rintro e w' ⟨rfl, hw⟩
 subst hw
 go_wp2_with fail
 (try simp only [Exit.inBlock, Exit.then])
 refine bodyPost_ret (results_none rfl _ _ _) rfl ?_
 exact ⟨rfl, rfl⟩
set_option maxHeartbeats 2000000 in
theorem pdq_small (blk off cap n : Nat) (d : Array Int) (lim : Int) (w : World) (hH : HdU w blk off d) (hdn : d.size = n) (hn : n ≤ 12) :
 Calls Tryz.prog 75 #[.slice (some ⟨blk, off, none⟩) n cap, .int .i64 0, .int .i64 n, .int .i64 lim] w fun e w' => e = .returned (.tuple #[]) ∧ Sd w blk off (Sort.insertionSort Sort.ltInt d 0 n) w' := by
 have HI := Lib.hid (insertion_u blk off cap 0 n n d w hH hdn (Nat.zero_le _) (Nat.le_refl _) (by omega))
 have hn' : (n : Int) ≤ 12 := by omega
 clear hH hdn
 go_enter Tryz.func75, Tryz.ntmps75
 go_wp2
 refine wp_loop_rounds 1 ?_
 rw [rounds_succ]
 go_wp2_with fail
 refine HI.out.mono ?_
 rintro e w' ⟨rfl, hs⟩
 have HS := Lib.hid hs
 clear hs HI
 go_wp2_with fail
 (try simp only [Exit.inBlock, Exit.then])
 refine bodyPost_ret (results_none rfl _ _ _) rfl ?_
 exact ⟨rfl, HS.out⟩
set_option maxHeartbeats 2000000 in
theorem len64_any (n : Nat) (hn : n ≤ 255) (w : World) : Calls Tryz.prog 102 #[.int .u64 n] w fun e w' => (∃ v : Int, e = .returned (.int .i64 v)) ∧ w' = w := by
 have t1 : ¬ (4294967296 : Int) ≤ n := by omega
 have t2 : ¬ (65536 : Int) ≤ n := by omega
 have t3 : ¬ (256 : Int) ≤ n := by omega
 go_enter Tryz.func102, Tryz.ntmps102
 go_wp2_with fail
 go_ret
 exact ⟨⟨_, rfl⟩, rfl⟩
theorem jlen_any (n : Nat) (hn : n ≤ 255) (w : World) : Calls Tryz.prog 76 #[.int .u64 n] w fun e w' => (∃ v : Int, e = .returned (.int .i64 v)) ∧ w' = w := by
 have h := len64_any n hn w
 clear hn
 go_enter Tryz.func76, Tryz.ntmps76
 go_wp2_with fail
 refine h.mono ?_
 rintro e w' ⟨⟨v, rfl⟩, hw⟩
 subst hw
 go_wp2_with fail
 go_ret
 exact ⟨⟨v, rfl⟩, rfl⟩
theorem sort_none (p : Option Addr) (cap : Nat) (w : World) : Calls Tryz.prog 55 #[.slice p 0 cap] w fun e w' => e = .returned (.tuple #[]) ∧ w' = w := by
 have hb := jlen_any 0 (by omega) w
 have hp := fun v => pdq_none p cap v w
 go_enter Tryz.func55, Tryz.ntmps55
 go_wp2_with fail
 refine hb.mono ?_
 rintro e w' ⟨⟨v, rfl⟩, hw⟩
 subst hw
 go_wp2_with fail
 refine (hp v).mono ?_
 rintro e w'' ⟨rfl, hw⟩
 subst hw
 go_wp2_with fail
 go_end0
 exact ⟨rfl, rfl⟩
theorem sort_small (blk off cap n : Nat) (d : Array Int) (w : World) (hH : HdU w blk off d) (hdn : d.size = n) (hn : n ≤ 12) (hc : n ≤ cap) :
 Calls Tryz.prog 55 #[.slice (some ⟨blk, off, none⟩) n cap] w fun e w' => e = .returned (.tuple #[]) ∧ Sd w blk off (Sort.insertionSort Sort.ltInt d 0 n) w' := by
 have hb := jlen_any n (by omega) w
 have HP := Lib.hid fun v => pdq_small blk off cap n d v w hH hdn hn
 clear hH hdn
 go_enter Tryz.func55, Tryz.ntmps55
 go_wp2_with fail
 refine hb.mono ?_
 rintro e w' ⟨⟨v, rfl⟩, hw⟩
 subst hw
 go_wp2_with fail
 refine (HP.out v).mono ?_
 rintro e w'' ⟨rfl, hs⟩
 have HS := Lib.hid hs
 clear hs hb
 go_wp2_with fail
 go_end0
 exact ⟨rfl, HS.out⟩
def sortI (L : List Int) : List Int := L.mergeSort fun x y => decide (x ≤ y)
theorem sortI_perm (L : List Int) : (sortI L).Perm L := List.mergeSort_perm L _
theorem sortI_len (L : List Int) : (sortI L).length = L.length := (sortI_perm L).length_eq
theorem sortI_up {L M : List Int} (hn : L.Nodup) (hm : UpT id M) (h : ∀ x, x ∈ L ↔ x ∈ M) : sortI L = M := by
 have hs : (sortI L).Pairwise fun a b => decide (a ≤ b) = true := List.pairwise_mergeSort (fun a b c h1 h2 => by simp at *; omega) (fun a b => by simp; omega) L
 have hd : (sortI L).Nodup := (sortI_perm L).nodup_iff.2 hn
 have hu : UpT id (sortI L) := by
  rw [up_int]
  refine (hs.and hd).imp ?_
  rintro a b ⟨h1, h2⟩
  simp at h1
  omega
 exact up_same hu hm fun x => by rw [(sortI_perm L).mem_iff, h]
theorem ins_sorted (L : List Int) : (Sort.insertionSort Sort.ltInt L.toArray 0 L.length).toList = sortI L := by
 obtain ⟨hP, hS⟩ := Sort.insertionSort_holds (lt := Sort.ltInt) Sort.swo_ltInt L.toArray 0 L.length (Nat.zero_le _) (by simp)
 have h := Sort.sorted_unique_holds Sort.swo_ltInt (fun x y h1 h2 => by simp only [Sort.ltInt, decide_eq_false_iff_not] at *; omega) L.toArray _ (by simpa using hP) (by simpa using hS)
 rw [h]
 unfold sortI
 congr 1
 funext x y
 simp [Sort.ltInt]
 by_cases h : y < x
 · simp [h]
 · simp [h]
   omega
theorem hd_row {w : World} {base g n c : Nat} {L : List Int} (h : w.ownsRow base 32 1 (.slice (some ⟨g, 0, none⟩) n c) n (uL L)) : HdU w g 0 L.toArray ∧ L.length = n ∧ n ≤ c ∧ c ≤ maxLen := by
 have hl : L.length = n := by
  have h1 := h.1
  unfold uL at h1
  rw [flatG_len juc_len] at h1
  omega
 rcases h.2 with hn | ⟨g', cap, cur, he, h1, h2, h3, h4, h5, h6⟩
 · cases hn.1
 · cases he
   refine ⟨⟨cur, h2, fun t ht => ?_⟩, hl, h3, h4⟩
   have ht' : t < L.length := by simpa using ht
   have e1 : (uL L)[t * 1 + 0]? = (juc (L.getD t 0))[0]? := flatG_at juc_len L t 0 ht' (by omega)
   rw [Nat.mul_one, Nat.add_zero, ← h6, List.getElem?_take, if_pos (by omega)] at e1
   rw [Nat.zero_add, ← Array.getElem?_toList, e1, getElem!_pos L.toArray t (by simpa using ht')]
   simp [juc, List.getD, List.getElem?_eq_getElem ht']
abbrev ULj (w : World) (p : Option Addr) (n c : Nat) (L : List Int) : Prop := SlG juc 1 0 w p n c L
theorem ul_hd {w : World} {g n c : Nat} {L : List Int} (h : HdU w g 0 L.toArray) (hl : L.length = n) (hc : n ≤ c) (hm : c ≤ maxLen) : ULj w (some ⟨g, 0, none⟩) n c L := by
 refine ⟨hl, hc, hm, (fun e => by cases e), fun h0 => ⟨g, 0, rfl, h.lt, fun j hj i v hv => ?_⟩⟩
 have hi : i < 1 := (List.getElem?_eq_some_iff.1 hv).1
 obtain rfl : i = 0 := by omega
 have hj' : j < L.length := by omega
 have h1 := h.cell (t := j) (by simpa using hj')
 rw [getElem!_pos L.toArray j (by simpa using hj')] at h1
 rw [Nat.mul_one, Nat.add_zero, h1]
 simpa [juc, List.getD, List.getElem?_eq_getElem hj'] using hv
def SortsU (NB : Nat) : Prop := ∀ (g n c : Nat) (L : List Int) (w : World), HdU w g 0 L.toArray → L.length = n → n ≤ NB → n ≤ c → Calls Tryz.prog 55 #[.slice (some ⟨g, 0, none⟩) n c] w fun e w' => e = .returned (.tuple #[]) ∧ Sd w g 0 (sortI L).toArray w'
theorem sorts_few : SortsU 12 := fun g n c L w hH hl hn hc => by
 refine (sort_small g 0 c n L.toArray w hH (by simpa using hl) hn hc).mono ?_
 rintro e w' ⟨rfl, hs⟩
 refine ⟨rfl, ?_⟩
 rw [← hl] at hs
 rw [← ins_sorted L]
 exact hs
end Go.Proofs.YtccgjdmbongbaaaGreatDoor
