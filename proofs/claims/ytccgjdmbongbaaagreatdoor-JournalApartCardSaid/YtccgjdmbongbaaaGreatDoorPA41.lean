import Derived.Test.YtccgjdmbongbaaaGreatDoorPA19
import Derived.Test.YtccgjdmbongbaaaGreatDoorPA23
import Derived.Test.YtccgjdmbongbaaaGreatDoorPA44
namespace Go.Proofs.YtccgjdmbongbaaaGreatDoor
open Go.RowKit Go.ChangeShapes Go.WideShapes Go.Maps
set_option linter.unusedVariables false
set_option linter.unusedSimpArgs false
set_option maxRecDepth 10000
def GivesUJ (W : World) (L : List Int) (e : Ending) (w' : World) : Prop := ∃ p c, e = .returned (.slice p L.length c) ∧ ULj w' p L.length c L ∧ Below W.heap.size W w'
set_option maxHeartbeats 1000000 in
theorem usorted_any {NB : Nat} (hso : SortsU NB) (g : Nat) (lb : Array Value) (eg : ∀ args w, (callFunc g args).run Tryz.prog w = .ok (.enter g args) w) (S : List Int → Prop) (N : Nat) (hN : N ≤ 100000) (L : List Int) (hL : L.length ≤ NB) (hS : ∀ ss, S ss → sortI ss = L) (W : World)
 (hseq : SeqStopsK Fence.wide 2 Tryz.prog g lb (fun x : Int => #[.int .u32 x]) KeepsWalks S (fun _ => True) N W) :
 Calls Tryz.prog 38 #[.func (.func g) #[] lb] W (GivesUJ W L) := by
 have hc := ucollect_any g lb eg S N hN W hseq
 have HS := Lib.hid hS
 have HSO := Lib.hid hso
 have HLB := Lib.hid hL
 clear hseq eg hS hso hL
 go_enter Tryz.func38, Tryz.ntmps38
 go_wp2_with fail
 refine hc.mono ?_
 rintro e w' ⟨v, ss, rfl, hs, hrow, hb⟩
 have hset := HS.out ss hs
 have hl := sortI_len ss
 rw [hset] at hl
 have HB := Lib.hid hb
 have HSET := Lib.hid hset
 have HROW := Lib.hid hrow
 clear hc hs hb hset
 rcases hrow.2 with ⟨rfl, h0⟩ | ⟨gg, cap, cur, rfl, hg, _⟩
 · have hnil : L = [] := List.eq_nil_of_length_eq_zero (by omega)
   have HNIL := Lib.hid hnil
   have hs := fun W => sort_none none 0 W
   clear hnil HSET HROW hrow h0 hl
   go_wp2_with fail
   refine (hs _).mono ?_
   rintro e w2 ⟨rfl, hw⟩
   subst hw
   go_wp2_with fail
   go_ret
   exact ⟨none, 0, by rw [HNIL.out]; rfl, by rw [HNIL.out]; exact SlG.empty _, HB.out⟩
 · obtain ⟨hd, hln, hcc, hcm⟩ := hd_row HROW.out
   have HS1 := Lib.hid (HSO.out gg ss.length cap ss w' hd rfl (by have := HLB.out; omega) hcc)
   have HGG := Lib.hid hg
   have HLN := Lib.hid hl
   have HCC := Lib.hid (And.intro hcc hcm)
   rw [HSET.out] at HS1
   clear HSET HROW hg hrow hd hcc hcm hln hl
   generalize ss.length = m at *
   go_wp2_with fail
   refine HS1.out.mono ?_
   rintro e w2 ⟨rfl, hk⟩
   have HB2 := Lib.hid (HB.out.trans (hk.2.below HB.out.size (fun k hk => by have := HGG.out; omega)))
   have HK := Lib.hid hk
   clear hk HS1
   go_wp2_with fail
   go_ret
   exact ⟨_, _, by rw [HLN.out]; rfl, ul_hd HK.out.1 rfl (by rw [HLN.out]; exact HCC.out.1) HCC.out.2, HB2.out⟩
theorem mem_up {H : List Tv} {D : DataW Hx} (hT : Gj D H) (hid : ∀ t ∈ H, Uok t.c.id) {ss : List Int} (h : AllU D ss) (x : Int) : x ∈ ss ↔ x ∈ H.map Tv.id := by
 constructor
 · intro hx
   have h1 := (h.2.2 x (h.2.1 x hx)).1 hx
   rw [hT.has] at h1
   obtain ⟨t, ht⟩ := Option.isSome_iff_exists.1 h1
   obtain ⟨h2, h3⟩ := getT_mem ht
   exact List.mem_map.2 ⟨t, h2, h3⟩
 · intro hx
   obtain ⟨t, ht, rfl⟩ := List.mem_map.1 hx
   refine (h.2.2 _ (hid t ht)).2 ?_
   rw [hT.has]
   cases hg : getT Tv.id H (Tv.id t) with
   | none =>
    have h1 := witho_none hg
    have h2 : t ∈ witho Tv.id H (Tv.id t) := by rw [h1]; exact ht
    exact absurd rfl (mem_witho.1 h2).2
   | some y =>
    show (getT Tv.id H (Tv.id t)).isSome = true
    rw [hg]
    rfl
theorem up_ids {H : List Tv} (h : UpT Tv.id H) : UpT id (H.map Tv.id) := by
 unfold UpT at *
 rw [List.map_id]
 exact h
set_option maxHeartbeats 1000000 in
theorem uall_any {NB : Nat} (hso : SortsU NB) (W : World) (B : Nat) (mb : Option Nat) (H : List Tv) (Q : Nat → Prop) (h : JgX W B mb H Q) (hid : ∀ t ∈ H, Uok t.c.id) (hn : H.length ≤ 10000) (hb : H.length ≤ NB) (X : Nat) (hx : W.cell? ⟨X, 0, none⟩ = some (.map mb)) :
 Calls Tryz.prog 38 #[.func (.func 56) #[] #[.pointer (some ⟨X, 0, none⟩)]] W (GivesUJ W (H.map Tv.id)) := by
 have eg : ∀ args w, (callFunc 56 args).run Tryz.prog w = .ok (.enter 56 args) w := enters_of Tryz.func56 (by kernel_rfl) rfl
 cases mb with
 | none =>
  refine usorted_any hso _ _ eg (fun ss => ss = []) 0 (by omega) _ (by rw [List.length_map]; exact hb) ?_ _ (ukeys_stops_nil 2 _ _ hx)
  rintro ss rfl
  rw [h.none_ rfl]
  simp [sortI]
 | some b =>
  obtain ⟨D, hown, hT⟩ := h.some_ b rfl
  refine usorted_any hso _ _ eg (AllU D) (Maps.size D) (by rw [hT.size]; omega) _ (by rw [List.length_map]; exact hb) ?_ _ (ukeys_stops 2 _ b H.length (by decide) D _ hx hown)
  intro ss hs
  exact sortI_up hs.1 (up_ids h.up) (mem_up hT hid hs)
theorem ul_at {w : World} {p : Option Addr} {n c : Nat} {L : List Int} (h : ULj w p n c L) {j : Nat} (hj : j < n) : ∃ b off, p = some ⟨b, off, none⟩ ∧ w.cell? ⟨b, off + j, none⟩ = some (.int .u32 (L.getD j 0)) := by
 obtain ⟨b, off, rfl, _, hc⟩ := h.cell (by omega)
 refine ⟨b, off, rfl, ?_⟩
 have := hc j hj 0 _ rfl
 simpa using this
set_option maxRecDepth 100000 in
set_option maxHeartbeats 4000000 in
theorem jall_any {NB : Nat} (hso : SortsU NB) (W : World) (B : Nat) (mb : Option Nat) (H : List Tv) (Q : Nat → Prop) (h : JgX W B mb H Q) (hid : ∀ t ∈ H, Uok t.c.id) (hf : ∀ t ∈ H, t.n ≤ 100) (hn : H.length ≤ 1000) (hb : H.length ≤ NB) :
 Calls Tryz.prog 14 #[.pointer (some ⟨B, 0, none⟩)] W fun e w' => ∃ r m d L, e = .returned (.slice r m d) ∧ TL w' r m d L ∧ L.map (·.c) = H.map (·.c) ∧ NewT W w' r L ∧ Below W.heap.size W w' := by
 have hb1 : Below W.heap.size W (W.alloc (.cells #[.map mb] 60)) := (Below.refl _ _).alloc (Nat.le_refl _) _
 obtain ⟨n, hln⟩ : ∃ n, H.length = n := ⟨_, rfl⟩
 obtain ⟨ids, hids⟩ : ∃ ids, H.map Tv.id = ids := ⟨_, rfl⟩
 have hil : ids.length = n := by rw [← hids, List.length_map, hln]
 have HSRT : Hid (Calls Tryz.prog 38 #[.func (.func 56) #[] #[.pointer (some ⟨W.heap.size, 0, none⟩)]] (W.alloc (.cells #[.map mb] 60)) fun e w' => ∃ p c, e = .returned (.slice p n c) ∧ ULj w' p n c ids ∧ Below (W.alloc (.cells #[.map mb] 60)).heap.size (W.alloc (.cells #[.map mb] 60)) w') := Lib.hid (by
  have h1 := uall_any hso _ B mb H Q (h.later hb1) hid (by omega) hb W.heap.size (block_cell (j := 0) (alloc_block W _) rfl)
  unfold GivesUJ at h1
  rw [hids, hil] at h1
  exact h1)
 have HAT := Lib.hid fun j (hj : j < n) => (show ids.getD j 0 = (H.getD j tv0).c.id by
  rw [← hids, List.getD, List.getD, List.getElem?_map, List.getElem?_eq_getElem (by rw [hln]; exact hj)]
  rfl)
 have HMEM := Lib.hid fun j (hj : j < n) => (show H.getD j tv0 ∈ H by
  rw [List.getD, List.getElem?_eq_getElem (by rw [hln]; exact hj)]
  exact List.getElem_mem _)
 have HLK := Lib.hid (look_any W B mb h.b)
 have HMK := Lib.hid (umkeys_any mb W)
 have HJ := Lib.hid fun w' (hb : Below W.heap.size W w') => h.later hb
 have HB1 := Lib.hid hb1
 have HI := Lib.hid hid
 have HF := Lib.hid hf
 have HN : Hid (n ≤ 1000) := Lib.hid (by rw [← hln]; exact hn)
 have HLN := Lib.hid hln
 have HUP := Lib.hid h.up
 clear hb1 h hid hf hso hb hn hil hids hln
 go_enter Tryz.func14, Tryz.ntmps14
 go_wp2_with fail
 refine HLK.out.mono ?_
 rintro e w1 ⟨rfl, hw⟩
 subst hw
 go_wp2_with fail
 refine HMK.out.mono ?_
 rintro e w2 ⟨rfl, hw⟩
 rw [← hw] at HSRT HB1
 clear HMK HLK hw
 go_wp2_with fail
 refine HSRT.out.mono ?_
 rintro e w3 ⟨p, c, rfl, hul, hb3⟩
 have HUL := Lib.hid hul
 have HB3 := Lib.hid (HB1.out.trans (hb3.mono HB1.out.size))
 have hcap := hul.cap
 clear hul hb3 HSRT
 go_wp2_with fail
 go_loopw [4, 6, 13] (fun v _ i wr => ∃ (j : Nat) (Lx : List Tv), j ≤ n ∧ i = .int .i64 (j : Int) ∧ Hid (InR w1 w3 wr v Lx H j)) (fun _ _ i _ => n - (Go.RowKit.intOf i).toNat)
 case atStart => exact ⟨0, [], Nat.zero_le _, rfl, Lib.hid (InR.start HB3.out H)⟩
 case round =>
  obtain ⟨j, Lx, hj, rfl, HX⟩ := hrel
  by_cases hlt : j < n
  · have t1 : (j : Int) < n := by omega
    obtain ⟨b, off, rfl, hc⟩ := ul_at (HUL.out.later HX.out.fill.below) hlt
    rw [HAT.out j hlt] at hc
    have HXI := Lib.hid (HMEM.out j hlt)
    have HXE := Lib.hid (rfl : H.getD j tv0 = H.getD j tv0)
    generalize hxe : H.getD j tv0 = x at *
    have HXQ := Lib.hid hxe
    clear HXE hxe
    have hj1 := HJ.out wr HX.out.below
    have hlk := hj1.look1 (HI.out x HXI.out) (t := x) (by rw [show x.c.id = Tv.id x from rfl, getT_at HUP.out HXI.out]; rfl)
    have HOWN := Lib.hid (own_any x wr (hj1.own x HXI.out).m (by have := HF.out x HXI.out; omega))
    clear hj1
    go_wp2_with fail
    refine HOWN.out.mono ?_
    rintro e w4 ⟨q, m, rfl, hrow, hb4⟩
    have HROW := Lib.hid hrow
    have HB4 := Lib.hid hb4
    have HX4 := Lib.hid (HX.out.later hb4)
    have hsz := HX4.out.fill.below.size
    have hmost := HX4.out.fill.most
    have hnn := HN.out
    clear hrow hb4 HOWN hlk hc
    go_wp2_with (at_builtin; refine wpList_append_tx rfl _ _ rfl w3.heap.size _ Lx.length Lx rfl (HX4.out.fill.own.alloc _) (by omega) (⟨x.c, q, x.n, m⟩ : Tv) w4.heap.size rfl (tx_news w4 (⟨x.c, q, x.n, m⟩ : Tv)) (by simp; omega) ?_; intro v2 w9 h1 h2)
    have HF9 := Lib.hid (HX.out.step (by rw [HLN.out]; exact hlt) HB4.out (⟨x.c, q, x.n, m⟩ : Tv) (OwnO.m (t := ⟨x.c, q, x.n, m⟩) (own_base (fun _ _ => Nat.zero_le _) HROW.out)) (by rw [HXQ.out]) (fun _ a ha => by
     have hbk : (Value.slice q x.n m).ownBlock = some a.block := by rw [show q = some a from ha]; rfl
     exact ⟨(HROW.out.lt _ hbk).1, own_ty HROW.out hbk⟩) _ h1 h2)
    clear h1 h2 hsz hmost
    go_wp2_with fail
    go_roundw
    case rel => exact ⟨j + 1, Lx ++ [(⟨x.c, q, x.n, m⟩ : Tv)], by omega, by go_num, HF9⟩
    case measure =>
     simp [Go.RowKit.intOf]
     omega
  · obtain rfl : j = n := by omega
    obtain ⟨r, d, rfl, hs, hr⟩ := SlG.of_own (d := tv0) tce_len (by decide) HX.out.fill.own
    have HS := Lib.hid hs
    have HR := Lib.hid hr
    clear hs hr
    go_wp2_with fail
    go_ret
    refine ⟨r, _, d, Lx, rfl, ⟨HS.out, HX.out.each⟩, ?_, ⟨fun a ha => Nat.le_trans HB3.out.size (HR.out a ha), fun t ht h0 a ha => ⟨Nat.le_trans HB3.out.size (HX.out.free t ht h0 a ha).1, fun b hb e => ?_⟩, fun t ht h0 a ha => ?_, HX.out.apart⟩, HX.out.below⟩
    · rw [HX.out.is, List.take_of_length_le (by rw [HLN.out]; exact Nat.le_refl _)]
    · obtain ⟨_, cs, e1⟩ := HX.out.free t ht h0 a ha
      obtain ⟨ds, e2⟩ := own_ty HX.out.fill.own (b := b.block) (by rw [hb]; rfl)
      rw [e, e1] at e2
      injection e2 with e2
      injection e2 with _ e4 _
      revert e4
      decide
    · obtain ⟨_, cs, e1⟩ := HX.out.free t ht h0 a ha
      exact ⟨cs, _, e1⟩
set_option maxHeartbeats 2000000 in
theorem jcopy_any {NB : Nat} (hso : SortsU NB) (W : World) (B : Nat) (mb : Option Nat) (H : List Tv) (Q : Nat → Prop) (h : JgX W B mb H Q) (hid : ∀ t ∈ H, Uok t.c.id) (hf : ∀ t ∈ H, t.n ≤ 100) (hn : H.length ≤ 100) (hb : H.length ≤ NB) :
 Calls Tryz.prog 15 #[.pointer (some ⟨B, 0, none⟩)] W fun e w' => ∃ B' Q', e = .returned (.pointer (some ⟨B', 0, none⟩)) ∧ Jg w' B' (newT Tc.id (H.map (·.c))) Q' ∧ (∀ j, Q' j → W.heap.size ≤ j) ∧ Below W.heap.size W w' := by
 have HA := Lib.hid (jall_any hso W B mb H Q h hid hf (by omega) hb)
 have HOW := Lib.hid h.own
 have HI := Lib.hid hid
 have HF := Lib.hid hf
 have HN := Lib.hid hn
 clear h hid hf hso hb hn
 go_enter Tryz.func15, Tryz.ntmps15
 go_wp2_with fail
 refine HA.out.mono ?_
 rintro e w2 ⟨r, m, d, L, rfl, hl, hm, hnw, hb2⟩
 have hback : ∀ t ∈ L, ∃ u ∈ H, u.c = t.c := fun t ht => by
  have h1 : t.c ∈ H.map (·.c) := by rw [← hm]; exact List.mem_map_of_mem ht
  obtain ⟨u, hu, he⟩ := List.mem_map.1 h1
  exact ⟨u, hu, he⟩
 have HNEW := Lib.hid (jnew_any r m d L w2 hl (by
  rw [← hl.row.len, ← List.length_map (f := (·.c)), hm, List.length_map]
  exact HN.out) (fun t ht => by
  obtain ⟨u, hu, he⟩ := hback t ht
  rw [← (hl.each t ht).len, ← he, (HOW.out u hu).len]
  exact HF.out u hu) (fun t ht => by
  obtain ⟨u, hu, he⟩ := hback t ht
  rw [← he]
  exact HI.out u hu))
 rw [hm] at HNEW
 have HB2 := Lib.hid hb2
 clear hl hm hnw hb2 hback HA
 go_wp2_with fail
 refine HNEW.out.mono ?_
 rintro e w3 ⟨B', Q', rfl, hj, hq, hb3⟩
 have H3 := Lib.hid (And.intro hj (And.intro hq hb3))
 clear hj hq hb3 HNEW
 go_wp2_with fail
 go_ret
 exact ⟨B', Q', rfl, H3.out.1, fun j hj => Nat.le_trans HB2.out.size (H3.out.2.1 j hj), HB2.out.trans (H3.out.2.2.mono HB2.out.size)⟩
end Go.Proofs.YtccgjdmbongbaaaGreatDoor
namespace Go.Proofs.YtccgjdmbongbaaaGreatDoor
open Go.RowKit Go.ChangeShapes Go.WideShapes
set_option linter.unusedVariables false
set_option linter.unusedSimpArgs false
set_option maxRecDepth 10000
def ActX (W : World) (B : Nat) (Q : Nat → Prop) (M : List Tc) (w' : World) : Prop := ∃ mb H Q', JgX w' B mb H Q' ∧ H.map (·.c) = M ∧ (∀ j, Q' j → Q j ∨ W.heap.size ≤ j) ∧ Turn Q W w'
theorem ActX.stay {W w' : World} {B : Nat} {mb : Option Nat} {H : List Tv} {Q : Nat → Prop} {M : List Tc} (h : JgX W B mb H Q) (hm : H.map (·.c) = M) (hb : Below W.heap.size W w') : ActX W B Q M w' := ⟨mb, H, Q, h.later hb, hm, fun j hj => .inl hj, Turn.of_below hb⟩
theorem ActX.put {W V w' : World} {B : Nat} {mb : Option Nat} {H : List Tv} {Q : Nat → Prop} {M : List Tc} {t : Tv} (h : JgX W B mb H Q) (hm : H.map (·.c) = M) (hv : Turn Q W V) (hp : PutX V B mb H Q t w') (ht : ∀ g, t.blk = some g → Q g ∨ W.heap.size ≤ g) : ActX W B Q (withT Tc.id M t.c) w' := by
 obtain ⟨mb', h1, h2⟩ := hp
 refine ⟨mb', _, _, h1, by rw [map_withT (ix := Tv.id) (jx := Tc.id) (f := (·.c)) (fun _ => rfl), hm], fun j hj => ?_, hv.trans h2 fun k _ hk => ?_⟩
 · rcases hj with hj | hj | hj
   · exact .inl hj
   · exact ht j hj
   · exact .inr (Nat.le_trans hv.size hj.1)
 · rcases hk with rfl | hk
   · exact h.qb
   · exact h.qm _ hk
theorem ActX.act {W w' : World} {B : Nat} {Q : Nat → Prop} {M : List Tc} (h : ActX W B Q M w') : JActed Jg W w' B M Q := by
 obtain ⟨mb, H, Q', h1, h2, h3, h4⟩ := h
 exact ⟨Q', ⟨mb, H, h1, h2⟩, h3, h4⟩
theorem owno_none (w : World) (c : Tc) (h : c.dn = []) : OwnO w (⟨c, none, 0, 0⟩ : Tv) := by
 show w.ownsRow 0 _ 4 (.slice none 0 0) 0 (flatG oc c.dn)
 rw [h]
 exact World.ownsRow_nil _ _ _ _
set_option maxRecDepth 100000 in
set_option maxHeartbeats 8000000 in
theorem begin_any (W : World) (B : Nat) (mb : Option Nat) (H : List Tv) (Q : Nat → Prop) (M : List Tc) (at_ : Int) (r : Rv) (h : JgX W B mb H Q) (hm : H.map (·.c) = M) (hid : ∀ t ∈ H, Uok t.c.id) (hf : ∀ t ∈ H, t.n ≤ 100) (hn : H.length ≤ 1000) (hw : Words W) (hP : RvM W r [] [] []) (hok : Rxok (r.x [] [] [])) :
 Calls Tryz.prog 33 #[.pointer (some ⟨B, 0, none⟩), .int .i64 at_, .agg (rcs r)] W fun e w' => e = .returned (.int .i64 (if (getT Tv.id H r.tx).isSome = true ∨ (getT Tv.sg H r.sg).isSome = true then 11 else 0)) ∧ ActX W B Q (if (getT Tv.id H r.tx).isSome = true ∨ (getT Tv.sg H r.sg).isSome = true then M else withT Tc.id M ⟨r.tx, r.sg, r.st, r.cp, false, [], at_, sizeX (r.x [] [] [])⟩) w' := by
 have hb0 : Below W.heap.size W (W.alloc (.cells (rcs r) 40)) := (Below.refl _ _).alloc (Nat.le_refl _) _
 have HB0 := Lib.hid hb0
 have HY : Hid (RB _ W.heap.size r) := Lib.hid (RB.new W r)
 have HJ := Lib.hid fun w' (hb : Below W.heap.size W w') => h.later hb
 have HJ0 := Lib.hid h
 have HM := Lib.hid hm
 have HW := Lib.hid fun w' (hb : Below W.heap.size W w') => hw.later hb
 have HGET := Lib.hid fun w' (hb : Below W.heap.size W w') => jget_any w' B mb H Q r.tx (h.later hb) hok.tx (fun t ht => by have := hf t ht; omega)
 have HOF := Lib.hid fun w' (hb : Below W.heap.size W w') => jof_any w' B mb H Q r.sg (h.later hb) hid (fun t ht => by have := hf t ht; omega)
 have HSZ : Hid (∀ w', Words w' → Calls Tryz.prog 50 #[.agg (rcs r)] w' fun e w'' => e = .returned (.int .i64 (sizeX (r.x [] [] []))) ∧ Below w'.heap.size w' w'') := Lib.hid fun w' h => size_x r [] [] [] w' h (rvm_any hP w') hok ⟨by have := hP.l.len; simp at this; omega, by have := hP.t.len; simp at this; omega, by have := hP.o.len; simp at this; omega⟩
 have HTX : Hid (0 ≤ r.tx ∧ r.tx ≤ 4294967295) := Lib.hid hok.tx
 have HLN := Lib.hid hn
 generalize sizeX (r.x [] [] []) = s at *
 obtain ⟨op, hop⟩ : ∃ q, (getT Tv.id H r.tx).isSome = q := ⟨_, rfl⟩
 obtain ⟨bz, hbz⟩ : ∃ q, (getT Tv.sg H r.sg).isSome = q := ⟨_, rfl⟩
 rw [hop, hbz]
 rw [hop] at HGET
 rw [hbz] at HOF
 generalize (getT Tv.id H r.tx).getD tv0 = t at *
 generalize ((getT Tv.sg H r.sg).getD tv0).c = u at *
 obtain ⟨Y, hYE⟩ : ∃ Y, W.heap.size = Y := ⟨_, rfl⟩
 rw [hYE] at HY
 have HYW := Lib.hid hYE
 clear hb0 h hm hid hf hn hw hP hok hop hbz
 go_enter Tryz.func33, Tryz.ntmps33
 go_upto_region 1 with (fail)
 clear hYE
 generalize W.alloc (.cells (rcs r) 40) = V0 at *
 have y2 := block_cell (j := 2) HY.out (v := .int .u32 r.tx) rfl
 go_wp2_with fail
 clear y2
 refine (HGET.out _ HB0.out).mono ?_
 rintro e1 w1 ⟨p, m, rfl, hrow, hb1⟩
 have HB1 := Lib.hid (HB0.out.trans (hb1.mono HB0.out.size))
 have HY1 := Lib.hid (HY.out.later hb1)
 clear hrow hb1 HY HGET
 go_upto_region 2 with (fail)
 have hb2 : Below w1.heap.size w1 (w1.alloc (.cells #[.int .u32 t.c.id, .int .u32 t.c.sg, .int .u8 t.c.st, .bool t.c.cp, .bool t.c.dd, .slice p t.n m, .int .i64 t.c.fs, .int .i64 t.c.sz] 47)) := (Below.refl _ _).alloc (Nat.le_refl _) _
 have HB2 := Lib.hid (HB1.out.trans (hb2.mono HB1.out.size))
 have HY2 := Lib.hid (HY1.out.later hb2)
 clear hb2 HY1
 generalize w1.alloc (.cells #[.int .u32 t.c.id, .int .u32 t.c.sg, .int .u8 t.c.st, .bool t.c.cp, .bool t.c.dd, .slice p t.n m, .int .i64 t.c.fs, .int .i64 t.c.sz] 47) = V2 at *
 have y1 := block_cell (j := 1) HY2.out (v := .int .u32 r.sg) rfl
 go_wp2_with fail
 clear y1
 refine (HOF.out _ HB2.out).mono ?_
 rintro e3 w3 ⟨v, rfl, hvc, hvm, hb3⟩
 clear hvc hvm
 have HB3 := Lib.hid (HB2.out.trans (hb3.mono HB2.out.size))
 have HY3 := Lib.hid (HY2.out.later hb3)
 clear hb3 HY2 HOF
 go_upto_region 3 with (fail)
 have hb4 : Below w3.heap.size w3 (w3.alloc (.cells #[.int .u32 v.c.id, .int .u32 v.c.sg, .int .u8 v.c.st, .bool v.c.cp, .bool v.c.dd, .slice v.p v.n v.m, .int .i64 v.c.fs, .int .i64 v.c.sz] 47)) := (Below.refl _ _).alloc (Nat.le_refl _) _
 have HB4 := Lib.hid (HB3.out.trans (hb4.mono HB3.out.size))
 have HY4 := Lib.hid (HY3.out.later hb4)
 clear hb4 HY3
 generalize w3.alloc (.cells #[.int .u32 v.c.id, .int .u32 v.c.sg, .int .u8 v.c.st, .bool v.c.cp, .bool v.c.dd, .slice v.p v.n v.m, .int .i64 v.c.fs, .int .i64 v.c.sz] 47) = V4 at *
 cases op with
 | true =>
  go_wp2_with fail
  go_ret
  exact ⟨rfl, ActX.stay HJ0.out HM.out HB4.out⟩
 | false =>
  cases bz with
  | true =>
   go_wp2_with fail
   go_ret
   exact ⟨rfl, ActX.stay HJ0.out HM.out HB4.out⟩
  | false =>
   go_wp2_with fail
   have hbd : RB V4.drew Y r := HY4.out
   have HB5 : Hid (Below W.heap.size W V4.drew) := Lib.hid (below_drewN HB4.out 1)
   refine wp_region_held_drew (S := fun w' => Hid (RB w' Y r)) (by kernel_rfl) (Lib.hid hbd) (fun hHeld => ?_)
   clear hbd HY4 HB4
   generalize V4.drew = V5 at *
   refine wpAnyH_take (i := 0) (oi := ⟨some 29, _, _, _, _, _⟩) (v := .pointer (some ⟨B, 0, none⟩)) rfl (by kernel_rfl) (by kernel_rfl) (by kernel_rfl) (fun _ _ _ h => h) (Or.inl ⟨by rfl, fun w' hw' => ?_⟩) (by assumption) ?_
   · clear hHeld
     go_simp
   simp only [Act.put, List.setIfInBounds_toArray, List.set_cons_zero, List.set_cons_succ]
   refine wpAnyH_take (i := 1) (oi := ⟨some 30, _, _, _, _, _⟩) (v := .pointer (some ⟨Y, 2, none⟩)) rfl (by kernel_rfl) (by kernel_rfl) (by kernel_rfl) (fun _ _ _ h => h) (Or.inl ⟨by rfl, fun w' hw' => ?_⟩) (by assumption) ?_
   · clear hHeld
     go_simp
   simp only [Act.put, List.setIfInBounds_toArray, List.set_cons_zero, List.set_cons_succ]
   refine wpAnyH_take (i := 2) (oi := ⟨some 31, _, _, _, _, _⟩) (v := .int .u32 r.tx) rfl (by kernel_rfl) (by kernel_rfl) (by kernel_rfl) (fun _ _ _ h => h) (Or.inl ⟨by rfl, fun w' hw' => ?_⟩) (by assumption) ?_
   · have y2 := block_cell (j := 2) (Hid.out hw') (v := .int .u32 r.tx) rfl
     clear hHeld
     go_simp
   simp only [Act.put, List.setIfInBounds_toArray, List.set_cons_zero, List.set_cons_succ]
   refine wpAnyH_take (i := 3) (oi := ⟨some 32, _, _, _, _, _⟩) (v := .pointer (some ⟨Y, 1, none⟩)) rfl (by kernel_rfl) (by kernel_rfl) (by kernel_rfl) (fun _ _ _ h => h) (Or.inl ⟨by rfl, fun w' hw' => ?_⟩) (by assumption) ?_
   · clear hHeld
     go_simp
   simp only [Act.put, List.setIfInBounds_toArray, List.set_cons_zero, List.set_cons_succ]
   refine wpAnyH_take (i := 4) (oi := ⟨some 33, _, _, _, _, _⟩) (v := .int .u32 r.sg) rfl (by kernel_rfl) (by kernel_rfl) (by kernel_rfl) (fun _ _ _ h => h) (Or.inl ⟨by rfl, fun w' hw' => ?_⟩) (by assumption) ?_
   · have y1 := block_cell (j := 1) (Hid.out hw') (v := .int .u32 r.sg) rfl
     clear hHeld
     go_simp
   simp only [Act.put, List.setIfInBounds_toArray, List.set_cons_zero, List.set_cons_succ]
   refine wpAnyH_take (i := 5) (oi := ⟨some 34, _, _, _, _, _⟩) (v := .pointer (some ⟨Y, 3, none⟩)) rfl (by kernel_rfl) (by kernel_rfl) (by kernel_rfl) (fun _ _ _ h => h) (Or.inl ⟨by rfl, fun w' hw' => ?_⟩) (by assumption) ?_
   · clear hHeld
     go_simp
   simp only [Act.put, List.setIfInBounds_toArray, List.set_cons_zero, List.set_cons_succ]
   refine wpAnyH_take (i := 6) (oi := ⟨some 35, _, _, _, _, _⟩) (v := .int .u8 r.st) rfl (by kernel_rfl) (by kernel_rfl) (by kernel_rfl) (fun _ _ _ h => h) (Or.inl ⟨by rfl, fun w' hw' => ?_⟩) (by assumption) ?_
   · have y3 := block_cell (j := 3) (Hid.out hw') (v := .int .u8 r.st) rfl
     clear hHeld
     go_simp
   simp only [Act.put, List.setIfInBounds_toArray, List.set_cons_zero, List.set_cons_succ]
   refine wpAnyH_take (i := 7) (oi := ⟨some 36, _, _, _, _, _⟩) (v := .pointer (some ⟨Y, 4, none⟩)) rfl (by kernel_rfl) (by kernel_rfl) (by kernel_rfl) (fun _ _ _ h => h) (Or.inl ⟨by rfl, fun w' hw' => ?_⟩) (by assumption) ?_
   · clear hHeld
     go_simp
   simp only [Act.put, List.setIfInBounds_toArray, List.set_cons_zero, List.set_cons_succ]
   refine wpAnyH_take (i := 8) (oi := ⟨some 37, _, _, _, _, _⟩) (v := .bool r.cp) rfl (by kernel_rfl) (by kernel_rfl) (by kernel_rfl) (fun _ _ _ h => h) (Or.inl ⟨by rfl, fun w' hw' => ?_⟩) (by assumption) ?_
   · have y4 := block_cell (j := 4) (Hid.out hw') (v := .bool r.cp) rfl
     clear hHeld
     go_simp
   simp only [Act.put, List.setIfInBounds_toArray, List.set_cons_zero, List.set_cons_succ]
   refine wpAnyH_take (i := 9) (oi := ⟨some 38, _, _, _, _, _⟩) (v := .int .i64 at_) rfl (by kernel_rfl) (by kernel_rfl) (by kernel_rfl) (fun _ _ _ h => h) (Or.inl ⟨by rfl, fun w' hw' => ?_⟩) (by assumption) ?_
   · clear hHeld
     go_simp
   simp only [Act.put, List.setIfInBounds_toArray, List.set_cons_zero, List.set_cons_succ]
   refine wpAnyH_take (i := 10) (oi := ⟨some 39, _, _, _, _, _⟩) (v := .agg (rcs r)) rfl (by kernel_rfl) (by kernel_rfl) (by kernel_rfl) (fun _ _ _ h => h) (Or.inl ⟨by rfl, fun w' hw' => held_load_rc rfl (Hid.out hw')⟩) (by assumption) ?_
   simp only [Act.put, List.setIfInBounds_toArray, List.set_cons_zero, List.set_cons_succ]
   refine wpAnyH_ready (rs := [11]) (by kernel_rfl) (by simp) (AllReadyH.cons rfl (fun K hK => ?_) (AllReadyH.nil))
   go_simp
   go_wp2_with fail
   refine (HSZ.out _ (HW.out _ HB5.out)).mono ?_
   rintro e6 w6 ⟨rfl, hb6⟩
   have hSN : Hid (RB w6 Y r) := Lib.hid (hHeld.out.later hb6)
   have HB6 := Lib.hid (HB5.out.trans (hb6.mono HB5.out.size))
   clear hb6
   go_wp2_with fail
   refine hK.out _ _ hSN (fun hHeld2 => ?_)
   try simp only [Act.put, List.setIfInBounds_toArray, List.set_cons_zero, List.set_cons_succ]
   clear hSN hK K hHeld
   have hHeld := hHeld2
   clear hHeld2
   refine wpAnyH_take (i := 12) (oi := ⟨some 41, _, _, _, _, _⟩) (v := .agg #[.int .u32 r.tx, .int .u32 r.sg, .int .u8 r.st, .bool r.cp, .bool false, .slice none 0 0, .int .i64 at_, .int .i64 s]) rfl (by kernel_rfl) (by kernel_rfl) (by kernel_rfl) (fun _ _ _ h => h) (Or.inl ⟨by rfl, fun w' hw' => ?_⟩) (by assumption) ?_
   · clear hHeld
     go_simp
   simp only [Act.put, List.setIfInBounds_toArray, List.set_cons_zero, List.set_cons_succ]
   refine wpAnyH_ready (rs := [13]) (by kernel_rfl) (by simp) (AllReadyH.cons rfl (fun K hK => ?_) (AllReadyH.nil))
   have HPUT := Lib.hid (jput_any (⟨⟨r.tx, r.sg, r.st, r.cp, false, [], at_, s⟩, none, 0, 0⟩ : Tv) HTX.out w6 B mb H Q ((HJ.out _ HB6.out).y _) (by have := HLN.out; omega) (owno_none _ _ rfl) (fun g hg => by cases hg))
   go_simp
   go_wp2_with fail
   refine HPUT.out.mono ?_
   rintro e7 w7 ⟨rfl, hput⟩
   have HPT := Lib.hid hput
   have hSN : Hid (RB w7 Y r) := Lib.hid (by
    obtain ⟨mb', _, h2⟩ := hput
    refine (h2.block Y (block_lt hHeld.out) (fun e => ?_)).trans hHeld.out
    have h3 := HYW.out
    rcases e with e | e
    · have h4 := HJ0.out.lt _ HJ0.out.qb
      omega
    · have h4 := HJ0.out.lt _ (HJ0.out.qm _ e)
      omega)
   clear hput HPUT
   go_wp2_with fail
   refine hK.out _ _ hSN (fun hHeld2 => ?_)
   try simp only [Act.put, List.setIfInBounds_toArray, List.set_cons_zero, List.set_cons_succ]
   clear hSN hK K hHeld
   have hHeld := hHeld2
   clear hHeld2
   refine wpAnyH_done (by kernel_rfl) ?_ _
   clear hHeld
   go_wp2_with fail
   go_ret
   exact ⟨rfl, ActX.put (t := (⟨⟨r.tx, r.sg, r.st, r.cp, false, [], at_, s⟩, none, 0, 0⟩ : Tv)) HJ0.out HM.out (Turn.of_below HB6.out) HPT.out (fun g hg => by cases hg)⟩
end Go.Proofs.YtccgjdmbongbaaaGreatDoor
