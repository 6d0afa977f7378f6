import Derived.Test.YtccgjdmbongbaaaDoorPD38
namespace Go.Proofs.YtccgjdmbongbaaaDoor
open Go.RowKit Go.ChangeShapes Go.WideShapes Go.Deep
set_option linter.unusedVariables false
set_option linter.unusedSimpArgs false
set_option maxRecDepth 10000
def TxOk (t : Tv) : Prop := Tcok t.c
theorem txnCells8 : Tryd.prog.cellsOf 31 = 8 := by kernel_rfl
section
variable {H : Type} {enc : TypeId × Value → H} {w : World} {base : Nat} {held : Bool}
theorem txn_trod {fuel : Nat} {cs : List Value} {d : DataW H × List MemPlace} (h : DataW.trod enc Tryd.prog w base (fun _ => true) held fuel 31 cs = some d) : ∃ t : Tv, (TvM w t ∧ Tcok t.c) ∧ cs = tce t := by
 obtain ⟨xs, n, _, _, hlen, hxl, hg⟩ := DataW.trod_struct Tryd.underlying31 h
 rw [txnCells8] at hlen
 obtain ⟨v0, v1, v2, v3, v4, v5, v6, v7, rfl⟩ : ∃ v0 v1 v2 v3 v4 v5 v6 v7, cs = [v0, v1, v2, v3, v4, v5, v6, v7] := by
  match cs, hlen with
  | [a0, a1, a2, a3, a4, a5, a6, a7], _ => exact ⟨a0, a1, a2, a3, a4, a5, a6, a7, rfl⟩
 have h8 : xs.length = 8 := hxl
 have t0 := hg 0 _ rfl
 have t1 := hg 1 _ rfl
 have t2 := hg 2 _ rfl
 have t3 := hg 3 _ rfl
 have t4 := hg 4 _ rfl
 have t5 := hg 5 _ rfl
 have t6 := hg 6 _ rfl
 have t7 := hg 7 _ rfl
 rw [List.getElem?_eq_getElem (by omega)] at t0 t1 t2 t3 t4 t5 t6 t7
 have e0 : DataW.trod enc Tryd.prog w base (fun _ => true) held n 23 [v0] = some (xs[0]'(by omega)) := t0
 have e1 : DataW.trod enc Tryd.prog w base (fun _ => true) held n 23 [v1] = some (xs[1]'(by omega)) := t1
 have e2 : DataW.trod enc Tryd.prog w base (fun _ => true) held n 5 [v2] = some (xs[2]'(by omega)) := t2
 have e3 : DataW.trod enc Tryd.prog w base (fun _ => true) held n 4 [v3] = some (xs[3]'(by omega)) := t3
 have e4 : DataW.trod enc Tryd.prog w base (fun _ => true) held n 4 [v4] = some (xs[4]'(by omega)) := t4
 have e5 : DataW.trod enc Tryd.prog w base (fun _ => true) held n 29 [v5] = some (xs[5]'(by omega)) := t5
 have e6 : DataW.trod enc Tryd.prog w base (fun _ => true) held n 2 [v6] = some (xs[6]'(by omega)) := t6
 have e7 : DataW.trod enc Tryd.prog w base (fun _ => true) held n 3 [v7] = some (xs[7]'(by omega)) := t7
 obtain ⟨z0, hv0, _, wf0⟩ := DataW.trod_int Tryd.underlying23 e0
 obtain ⟨z1, hv1, _, wf1⟩ := DataW.trod_int Tryd.underlying23 e1
 obtain ⟨z2, hv2, _, wf2⟩ := DataW.trod_int Tryd.underlying5 e2
 obtain ⟨z6, hv6, _, wf6⟩ := DataW.trod_int Tryd.underlying2 e6
 obtain ⟨z7, hv7, _, wf7⟩ := DataW.trod_int Tryd.underlying3 e7
 obtain ⟨z3, hv3, _⟩ := DataW.trod_bool Tryd.underlying4 e3
 obtain ⟨z4, hv4, _⟩ := DataW.trod_bool Tryd.underlying4 e4
 simp at hv0 hv1 hv2 hv3 hv4 hv6 hv7
 subst hv0 hv1 hv2 hv3 hv4 hv6 hv7
 obtain ⟨p5, n5, c5, rfl⟩ := slice_shape Tryd.underlying29 e5
 obtain ⟨L, hL, hLok⟩ := open_ops e5
 exact ⟨⟨⟨z0, z1, z2, z3, z4, L, z6, z7⟩, p5, n5, c5⟩, ⟨hL, ⟨bounds32 wf0, bounds32 wf1, bounds_u8 wf2, hLok, bounds_i64 wf6, bounds_i64 wf7⟩⟩, rfl⟩
theorem open_txns {fuel : Nat} {a : Option Addr} {len cap : Nat} {x : DataW H × List MemPlace}
 (h : DataW.trod enc Tryd.prog w base (fun _ => true) held fuel 22 [.slice a len cap] = some x) : ∃ L, TL w a len cap L ∧ ∀ y ∈ L, TxOk y := by
 rcases open_slice Tryd.underlying22 h with ⟨hcs, _⟩ | ⟨a', l, c, m, n, D, Pl, hcs, hb, hl, hm, hmm, hx, hi⟩
 · simp at hcs
   obtain ⟨rfl, rfl, rfl⟩ := hcs
   exact ⟨[], TL.empty w, fun y hy => by cases hy⟩
 · simp at hcs
   obtain ⟨rfl, rfl, rfl⟩ := hcs
   rw [if_pos rfl] at hmm
   subst hmm
   have hall : ∀ i, i < len → ∃ y : Tv, (TvM w y ∧ Tcok y.c) ∧ ∀ j u, (tce y)[j]? = some u → w.cell? (a'.add (i * 8 + j)) = some u := by
    intro i hil
    obtain ⟨cs', hc, ht⟩ := hi i (by omega)
    rw [txnCells8] at hc
    obtain ⟨y, hy, rfl⟩ := txn_trod ht
    obtain ⟨_, hcl, hat⟩ := World.cells?_some hc
    refine ⟨y, hy, fun j u hu => ?_⟩
    have hj : j < 8 := (List.getElem?_eq_some_iff.1 hu).1
    have := hat j hj
    rw [← Go.Deep.add_add, this]
    exact hu
   obtain ⟨f, hf⟩ : ∃ f : Nat → Tv, ∀ i, i < len → (TvM w (f i) ∧ Tcok (f i).c) ∧ ∀ j u, (tce (f i))[j]? = some u → w.cell? (a'.add (i * 8 + j)) = some u :=
    ⟨fun i => if h : i < len then Classical.choose (hall i h) else tv0, fun i h => by dsimp only; rw [dif_pos h]; exact Classical.choose_spec (hall i h)⟩
   refine ⟨(List.range len).map f, ⟨⟨by simp, hl, hm, (fun h => by cases h), fun h0 => ?_⟩, fun y hy => ?_⟩, fun y hy => ?_⟩
   · have h00 := (hf 0 h0).2 0 _ rfl
     have hsp : a'.spot = none := World.cell?_spot (a := a') (by simpa [Addr.add] using h00)
     obtain ⟨b, off, sp⟩ := a'
     replace hsp : sp = none := hsp
     subst hsp
     rw [Go.WideShapes.add_plain] at h00
     refine ⟨b, off, rfl, World.block_lt_of_cell? _ _ h00, fun j hj i v hv => ?_⟩
     have e : ((List.range len).map f).getD j tv0 = f j := by
      rw [List.getD, List.getElem?_map, List.getElem?_range hj]; rfl
     rw [e] at hv
     have := (hf j hj).2 i v hv
     rwa [Go.WideShapes.add_plain, ← Nat.add_assoc] at this
   · obtain ⟨i, hi', rfl⟩ := List.mem_map.1 hy
     exact (hf i (List.mem_range.1 hi')).1.1
   · obtain ⟨i, hi', rfl⟩ := List.mem_map.1 hy
     exact (hf i (List.mem_range.1 hi')).1.2
end
end Go.Proofs.YtccgjdmbongbaaaDoor
namespace Go.Proofs.YtccgjdmbongbaaaDoor
open Go.RowKit Go.ChangeShapes Go.WideShapes
set_option linter.unusedVariables false
set_option linter.unusedSimpArgs false
set_option maxRecDepth 10000
theorem get_c (L : List Tv) (i : Int) : ((getT Tv.id L i).getD tv0).c = (getT Tc.id (L.map (·.c)) i).getD tc0 := by
 rw [← map_getT (ix := Tv.id) (jx := Tc.id) (f := (·.c)) (fun _ => rfl)]
 cases getT Tv.id L i <;> rfl
theorem of_c (L : List Tv) (i : Int) : ((getT Tv.sg L i).getD tv0).c = (getT Tc.sg (L.map (·.c)) i).getD tc0 := by
 rw [← map_getT (ix := Tv.sg) (jx := Tc.sg) (f := (·.c)) (fun _ => rfl)]
 cases getT Tv.sg L i <;> rfl
theorem got_m {ix : Tv → Int} {L : List Tv} {w : World} (h : ∀ t ∈ L, TvM w t ∧ t.n ≤ 20) (i : Int) : TvM w ((getT ix L i).getD tv0) ∧ ((getT ix L i).getD tv0).n ≤ 20 := by
 cases hg : getT ix L i with
 | none => exact ⟨tv0_m w, by decide⟩
 | some t => exact h t (getT_mem hg).1
theorem few_n {w : World} {t : Tv} {M : List Tc} {ix : Tc → Int} {i : Int} {n : Nat} {z : Int} (h : TvM w t) (hc : t.c = (getT ix M i).getD tc0) (hM : TsOk M n z) : t.n ≤ 20 := by
 rw [← h.len, hc]
 cases hg : getT ix M i with
 | none => decide
 | some x => exact hM.few x (getT_mem hg).1
variable {NB : Nat} {Wd : World → Prop} {Ju : World → Nat → List Tc → (Nat → Prop) → Prop}
set_option maxHeartbeats 8000000 in
theorem law_jasks (I : JnI NB Wd Ju) (I2 : JnI2 NB Ju) (I4 : JnI4 NB Ju) (p : Option Addr) (n c : Nat) (L : List Tv) (id sg : Int) (w : World) (hW : Wd w) (hL : TL w p n c L) (hx : ∀ t ∈ L, TxOk t) (hid : 0 ≤ id ∧ id ≤ 4294967295) (hsg : 0 ≤ sg ∧ sg ≤ 4294967295) :
 Calls Tryd.prog 3 #[.slice p n c, .int .u32 id, .int .u32 sg] w fun e w' => e = .returned (.bool true) ∧ Below w.heap.size w w' := by
 have HI := Lib.hid I
 have HI2 := Lib.hid I2
 have HI4 := Lib.hid I4
 have HL := Lib.hid hL
 have HX := Lib.hid hx
 have HID := Lib.hid (And.intro hid hsg)
 have HF := Lib.hid (jFew_any p n c L w hL.row)
 have HWK := Lib.hid fun w' (hb : Below w.heap.size w w') => jworks_any I w' (I.wd hW hb)
 have hcap := hL.row.cap
 clear hL hx hW I hid hsg
 go_enter Tryd.func3, Tryd.ntmps3
 go_wp2_with fail
 refine HF.out.mono ?_
 rintro e1 w1 ⟨t1, rfl, ht1, hb1⟩
 have HB1 := Lib.hid hb1
 have HT1 := Lib.hid ht1
 clear hb1 ht1 HF
 cases t1 with
 | false =>
  go_wp2_with fail
  refine (HWK.out _ HB1.out).mono ?_
  rintro e2 w2 ⟨rfl, hb2⟩
  have HB2 := Lib.hid (HB1.out.trans (hb2.mono HB1.out.size))
  clear hb2
  go_wp2_with fail
  go_ret
  exact ⟨rfl, HB2.out⟩
 | true =>
  have HFT : Hid (FewT n L) := Lib.hid (HT1.out rfl)
  clear HT1
  have hfm : ∀ t ∈ L, t.n ≤ 20 ∧ 0 ≤ t.c.sz ∧ t.c.sz ≤ 1048576 := fun t ht => by
   obtain ⟨i, hi, rfl⟩ := List.getElem_of_mem ht
   have h1 := HFT.out.2 i (by rw [← HL.out.row.len]; exact hi)
   rw [List.getD, List.getElem?_eq_getElem hi] at h1
   exact h1
  have HOK0 : Hid (TsOk (newT Tc.id (L.map (·.c))) (12 + 0) (1048576 + 10000 * ((0 : Nat) : Int))) := Lib.hid (TsOk.new
   (fun x hx => by obtain ⟨t, ht, rfl⟩ := List.mem_map.1 hx; exact HX.out t ht)
   (by rw [List.length_map, HL.out.row.len]; exact HFT.out.1)
   (fun x hx => by obtain ⟨t, ht, rfl⟩ := List.mem_map.1 hx; rw [(HL.out.each t ht).len]; exact (hfm t ht).1)
   (fun x hx => by obtain ⟨t, ht, rfl⟩ := List.mem_map.1 hx; have := (hfm t ht).2; omega))
  have HNEW := Lib.hid (HI.out.new p n c L w1 (HL.out.later HB1.out) (by have := HFT.out.1; omega) (fun t ht => by have := (hfm t ht).1; omega) (fun t ht => (HX.out t ht).id))
  have HFM := Lib.hid hfm
  clear hfm
  go_wp2_with fail
  refine HNEW.out.mono ?_
  rintro e3 w3 ⟨B, Q, rfl, hj, hq, hb3⟩
  have HJ3 := Lib.hid hj
  have HB3 := Lib.hid (HB1.out.trans (hb3.mono HB1.out.size))
  clear hj hq hb3 HNEW
  go_wp2_with fail
  refine (rtnew_any p n c L w3 (HL.out.row.later HB3.out) (by have := HFT.out.1; omega)).mono ?_
  rintro e4 w4 ⟨r, d, rfl, hs, hb4, hr⟩
  have HJ4 := Lib.hid (HI.out.later HJ3.out hb4)
  have HB4 := Lib.hid (HB3.out.trans (hb4.mono HB3.out.size))
  have HS4 := Lib.hid hs
  have hmp := map_newT (jx := Tc.id) (f := (·.c)) (ix := Tv.id) (fun _ => rfl) L
  have HMP := Lib.hid hmp
  have HEA := Lib.hid fun t (ht : t ∈ newT Tv.id L) => (show TvM w4 t ∧ t.n ≤ 20 from ⟨((HL.out.each t (mem_newT ht)).later HB4.out), (HFM.out t (mem_newT ht)).1⟩)
  have HLN := Lib.hid (show (newT Tv.id L).length ≤ 12 from Nat.le_trans (len_newT L) (by rw [HL.out.row.len]; exact HFT.out.1))
  clear hs hb4 hr HJ3 HB3 hmp
  generalize newT Tc.id (L.map (·.c)) = M0 at *
  generalize newT Tv.id L = L0 at *
  generalize hm0 : L0.length = m0 at *
  clear hm0
  have HJK : Hid (JOk M0) := Lib.hid (HOK0.out.mono (by omega) (by omega))
  have HGC := Lib.hid (get_c L0 id)
  have HOC := Lib.hid (of_c L0 sg)
  have HGS := Lib.hid (map_id_isSome L0 id)
  have HOS := Lib.hid (map_of_isSome L0 sg)
  rw [HMP.out] at HGC HOC HGS HOS
  have HGM := Lib.hid (got_m (ix := Tv.id) HEA.out id)
  have HOM := Lib.hid (got_m (ix := Tv.sg) HEA.out sg)
  have HRG := Lib.hid fun w' (hb : Below w4.heap.size w4 w') => rtGet_any r m0 d L0 id w' (HS4.out.later hb) (by have := HLN.out; omega)
  have HRO := Lib.hid fun w' (hb : Below w4.heap.size w4 w') => rtOf_any r m0 d L0 sg w' (HS4.out.later hb) (by have := HLN.out; omega)
  rw [← HGS.out] at HRG
  rw [← HOS.out] at HRO
  generalize (getT Tv.id L0 id).getD tv0 = u at *
  generalize (getT Tv.sg L0 sg).getD tv0 = v at *
  have HPG := Lib.hid (HI.out.get w4 B M0 Q id HJ4.out HJK.out HID.out.1)
  have HPO := Lib.hid fun w' (hb : Below w4.heap.size w4 w') => HI2.out.of_ w' B M0 Q sg (HI.out.later HJ4.out hb) HJK.out HID.out.2
  generalize hg1 : (getT Tc.id M0 id).isSome = g1 at *
  generalize hg2 : (getT Tc.sg M0 sg).isSome = g2 at *
  have HGG := Lib.hid (And.intro hg1 hg2)
  have q1 : (g1 != g1) = false := by simp
  have q2 : (g2 != g2) = false := by simp
  clear hg1 hg2
  go_wp2_with fail
  refine HPG.out.mono ?_
  rintro e5 w5 ⟨t, rfl, htc, htm, hb5⟩
  have hbn : Below w5.heap.size w5 (w5.alloc (.cells #[.int .u32 t.c.id, .int .u32 t.c.sg, .int .u8 t.c.st, .bool t.c.cp, .bool t.c.dd, .slice t.p t.n t.m, .int .i64 t.c.fs, .int .i64 t.c.sz] 31)) := (Below.refl _ _).alloc (Nat.le_refl _) _
  have HTN : Hid (t.n ≤ 20) := Lib.hid (few_n htm htc HJK.out)
  have HTC := Lib.hid htc
  have HTM := Lib.hid (OL.later' htm hbn)
  have HTB := Lib.hid (alloc_block w5 (.cells #[.int .u32 t.c.id, .int .u32 t.c.sg, .int .u8 t.c.st, .bool t.c.cp, .bool t.c.dd, .slice t.p t.n t.m, .int .i64 t.c.fs, .int .i64 t.c.sz] 31))
  have HB5 := Lib.hid (hb5.trans (hbn.mono hb5.size))
  clear hb5 hbn htc htm HPG
  go_upto_region 5 with (fail)
  generalize w5.alloc (.cells #[.int .u32 t.c.id, .int .u32 t.c.sg, .int .u8 t.c.st, .bool t.c.cp, .bool t.c.dd, .slice t.p t.n t.m, .int .i64 t.c.fs, .int .i64 t.c.sz] 31) = W5 at *
  generalize w5.heap.size = T5 at *
  go_wp2_with fail
  refine (HRG.out _ HB5.out).mono ?_
  rintro e6 w6 ⟨rfl, hb6⟩
  have hbn : Below w6.heap.size w6 (w6.alloc (.cells #[.int .u32 u.c.id, .int .u32 u.c.sg, .int .u8 u.c.st, .bool u.c.cp, .bool u.c.dd, .slice u.p u.n u.m, .int .i64 u.c.fs, .int .i64 u.c.sz] 31)) := (Below.refl _ _).alloc (Nat.le_refl _) _
  have HUB := Lib.hid (alloc_block w6 (.cells #[.int .u32 u.c.id, .int .u32 u.c.sg, .int .u8 u.c.st, .bool u.c.cp, .bool u.c.dd, .slice u.p u.n u.m, .int .i64 u.c.fs, .int .i64 u.c.sz] 31))
  have HBX := Lib.hid (hb6.trans (hbn.mono hb6.size))
  have HB6 := Lib.hid (HB5.out.trans (HBX.out.mono HB5.out.size))
  have HTB6 := Lib.hid (block_later HTB.out HBX.out)
  have HTM6 := Lib.hid (OL.later' HTM.out HBX.out)
  clear hb6 hbn HRG HTB HTM HBX HB5
  go_upto_region 6 with (fail)
  generalize w6.alloc (.cells #[.int .u32 u.c.id, .int .u32 u.c.sg, .int .u8 u.c.st, .bool u.c.cp, .bool u.c.dd, .slice u.p u.n u.m, .int .i64 u.c.fs, .int .i64 u.c.sz] 31) = W6 at *
  generalize w6.heap.size = T6 at *
  go_wp2_with fail
  refine (HPO.out _ HB6.out).mono ?_
  rintro e7 w7 ⟨s, rfl, hsc, hsm, hb7⟩
  have hbn : Below w7.heap.size w7 (w7.alloc (.cells #[.int .u32 s.c.id, .int .u32 s.c.sg, .int .u8 s.c.st, .bool s.c.cp, .bool s.c.dd, .slice s.p s.n s.m, .int .i64 s.c.fs, .int .i64 s.c.sz] 31)) := (Below.refl _ _).alloc (Nat.le_refl _) _
  have HSN : Hid (s.n ≤ 20) := Lib.hid (few_n hsm hsc HJK.out)
  have HSC := Lib.hid hsc
  have HSM := Lib.hid (OL.later' hsm hbn)
  have HSB := Lib.hid (alloc_block w7 (.cells #[.int .u32 s.c.id, .int .u32 s.c.sg, .int .u8 s.c.st, .bool s.c.cp, .bool s.c.dd, .slice s.p s.n s.m, .int .i64 s.c.fs, .int .i64 s.c.sz] 31))
  have HBX := Lib.hid (hb7.trans (hbn.mono hb7.size))
  have HB7 := Lib.hid (HB6.out.trans (HBX.out.mono HB6.out.size))
  have HTB7 := Lib.hid (block_later HTB6.out HBX.out)
  have HTM7 := Lib.hid (OL.later' HTM6.out HBX.out)
  have HUB7 := Lib.hid (block_later HUB.out HBX.out)
  clear hb7 hbn hsc hsm HPO HTB6 HTM6 HUB HBX HB6
  go_upto_region 7 with (fail)
  generalize w7.alloc (.cells #[.int .u32 s.c.id, .int .u32 s.c.sg, .int .u8 s.c.st, .bool s.c.cp, .bool s.c.dd, .slice s.p s.n s.m, .int .i64 s.c.fs, .int .i64 s.c.sz] 31) = W7 at *
  generalize w7.heap.size = T7 at *
  go_wp2_with fail
  refine (HRO.out _ HB7.out).mono ?_
  rintro e8 w8 ⟨rfl, hb8⟩
  have hbn : Below w8.heap.size w8 (w8.alloc (.cells #[.int .u32 v.c.id, .int .u32 v.c.sg, .int .u8 v.c.st, .bool v.c.cp, .bool v.c.dd, .slice v.p v.n v.m, .int .i64 v.c.fs, .int .i64 v.c.sz] 31)) := (Below.refl _ _).alloc (Nat.le_refl _) _
  have HVB := Lib.hid (alloc_block w8 (.cells #[.int .u32 v.c.id, .int .u32 v.c.sg, .int .u8 v.c.st, .bool v.c.cp, .bool v.c.dd, .slice v.p v.n v.m, .int .i64 v.c.fs, .int .i64 v.c.sz] 31))
  have HBX := Lib.hid (hb8.trans (hbn.mono hb8.size))
  have HB8 := Lib.hid (HB7.out.trans (HBX.out.mono HB7.out.size))
  have HTB8 := Lib.hid (block_later HTB7.out HBX.out)
  have HTM8 := Lib.hid (OL.later' HTM7.out HBX.out)
  have HUB8 := Lib.hid (block_later HUB7.out HBX.out)
  have HSB8 := Lib.hid (block_later HSB.out HBX.out)
  have HSM8 := Lib.hid (OL.later' HSM.out HBX.out)
  clear hb8 hbn HRO HTB7 HTM7 HUB7 HSB HSM HBX HB7
  go_upto_region 8 with (fail)
  generalize w8.alloc (.cells #[.int .u32 v.c.id, .int .u32 v.c.sg, .int .u8 v.c.st, .bool v.c.cp, .bool v.c.dd, .slice v.p v.n v.m, .int .i64 v.c.fs, .int .i64 v.c.sz] 31) = W8 at *
  generalize w8.heap.size = T8 at *
  have HC1 : Hid (Calls Tryd.prog 13 #[.agg #[.int .u32 t.c.id, .int .u32 t.c.sg, .int .u8 t.c.st, .bool t.c.cp, .bool t.c.dd, .slice t.p t.n t.m, .int .i64 t.c.fs, .int .i64 t.c.sz], .agg #[.int .u32 u.c.id, .int .u32 u.c.sg, .int .u8 u.c.st, .bool u.c.cp, .bool u.c.dd, .slice u.p u.n u.m, .int .i64 u.c.fs, .int .i64 u.c.sz]] W8 fun e w' => e = .returned (.bool true) ∧ Below W8.heap.size W8 w') := Lib.hid (by
   have h1 := rtsame_any t u W8 HTM8.out (OL.later' HGM.out.1 HB8.out) (by have := HTN.out; omega) (by have := HGM.out.2; omega)
   rw [decide_eq_true (HTC.out.trans HGC.out.symm)] at h1
   exact h1)
  have HC2 : Hid (∀ w', Below W8.heap.size W8 w' → Calls Tryd.prog 13 #[.agg #[.int .u32 s.c.id, .int .u32 s.c.sg, .int .u8 s.c.st, .bool s.c.cp, .bool s.c.dd, .slice s.p s.n s.m, .int .i64 s.c.fs, .int .i64 s.c.sz], .agg #[.int .u32 v.c.id, .int .u32 v.c.sg, .int .u8 v.c.st, .bool v.c.cp, .bool v.c.dd, .slice v.p v.n v.m, .int .i64 v.c.fs, .int .i64 v.c.sz]] w' fun e w'' => e = .returned (.bool true) ∧ Below w'.heap.size w' w'') := Lib.hid fun w' hb => by
   have h1 := rtsame_any s v w' (OL.later' HSM8.out hb) (OL.later' (OL.later' HOM.out.1 HB8.out) hb) (by have := HSN.out; omega) (by have := HOM.out.2; omega)
   rw [decide_eq_true (HSC.out.trans HOC.out.symm)] at h1
   exact h1
  obtain ⟨x0, x1, x2, x3, x4, x5, x6, x7⟩ := txv_cells HTB8.out
  obtain ⟨y0, y1, y2, y3, y4, y5, y6, y7⟩ := txv_cells HUB8.out
  go_wp2_with fail
  clear x0 x1 x2 x3 x4 x5 x6 x7 y0 y1 y2 y3 y4 y5 y6 y7
  refine HC1.out.mono ?_
  rintro e9 w9 ⟨rfl, hb9⟩
  have HB9 := Lib.hid hb9
  obtain ⟨x0, x1, x2, x3, x4, x5, x6, x7⟩ := txv_cells (block_later HSB8.out hb9)
  obtain ⟨y0, y1, y2, y3, y4, y5, y6, y7⟩ := txv_cells (block_later HVB.out hb9)
  clear hb9 HC1
  go_wp2_with fail
  clear x0 x1 x2 x3 x4 x5 x6 x7 y0 y1 y2 y3 y4 y5 y6 y7
  refine (HC2.out _ HB9.out).mono ?_
  rintro e10 w10 ⟨rfl, hb10⟩
  have HBA := Lib.hid (HB4.out.trans (((HB8.out.trans ((HB9.out.trans (hb10.mono HB9.out.size)).mono HB8.out.size))).mono HB4.out.size))
  clear hb10 HC2 HB9 HB8 HTB8 HUB8 HSB8 HVB HTM8 HSM8 HTC HSC HGC HOC HGM HOM
  go_wp2_with fail
  go_loopw [17] (fun v wr => ∃ j : Nat, j ≤ n ∧ v = .int .i64 (j : Int) ∧ Hid (Below w.heap.size w wr)) (fun v _ => n - (Go.RowKit.intOf v).toNat)
  case atStart => exact ⟨0, Nat.zero_le _, rfl, HBA⟩
  case round =>
   obtain ⟨j, hj, rfl, HB⟩ := hrel
   have hmx : (n : Int) ≤ 12 := by have := HFT.out.1; omega
   by_cases hlt : j < n
   · have t1 : (j : Int) < n := by omega
     have hn0 : (0 : Int) < n := by omega
     have HLW := Lib.hid (HL.out.later HB.out)
     obtain ⟨b, off, rfl, _, c0, c1, c2, c3, c4, c5, c6, c7⟩ := txr_cells HLW.out.row hlt
     obtain ⟨b', off', hp', _, d0, d1, d2, d3, d4, d5, d6, d7⟩ := txr_cells HLW.out.row (show 0 < n by omega)
     cases hp'
     rw [Nat.zero_mul, Nat.add_zero] at d0 d1 d2 d3 d4 d5 d6 d7
     have HXM : Hid (TvM wr (L.getD j tv0)) := Lib.hid (HLW.out.at hlt)
     have HYM : Hid (TvM wr (L.getD 0 tv0)) := Lib.hid (HLW.out.at (show 0 < n by omega))
     have HXN := Lib.hid (And.intro (HFM.out _ (HL.out.mem hlt)).1 (HFM.out _ (HL.out.mem (show 0 < n by omega))).1)
     have HXK := Lib.hid (HX.out _ (HL.out.mem hlt))
     have hxy : j = 0 → L.getD j tv0 = L.getD 0 tv0 := fun e => by rw [e]
     clear hxy
     generalize L.getD j tv0 = x at *
     generalize L.getD 0 tv0 = y at *
     have HLA := Lib.hid (HI.out.last wr x HXM.out HXK.out.dn (by have := HXN.out.1; omega))
     have HRL := Lib.hid fun w' (hb : Below wr.heap.size wr w') => rtlast_any x w' (OL.later' HXM.out hb) HXK.out.dn (by have := HXN.out.1; omega)
     generalize lastC x.c = lz at *
     obtain ⟨⟨lk, ld⟩, lb⟩ := lz
     dsimp only at HLA HRL
     have C0 := Lib.hid c0
     have D0 := Lib.hid d0
     have C1 := Lib.hid c1
     have D1 := Lib.hid d1
     have C2 := Lib.hid c2
     have D2 := Lib.hid d2
     have C3 := Lib.hid c3
     have D3 := Lib.hid d3
     have C4 := Lib.hid c4
     have D4 := Lib.hid d4
     have C5 := Lib.hid c5
     have D5 := Lib.hid d5
     have C6 := Lib.hid c6
     have D6 := Lib.hid d6
     have C7 := Lib.hid c7
     have D7 := Lib.hid d7
     go_wp2_with fail
     clear c0 c1 c2 c3 c4 c5 c6 c7 d0 d1 d2 d3 d4 d5 d6 d7
     refine HLA.out.mono ?_
     rintro e11 w11 ⟨rfl, hb11⟩
     have hbn : Below w11.heap.size w11 (w11.alloc (.cells #[.int .u8 lk.1, .int .u8 lk.2.1, .int .u8 lk.2.2, .int .i64 ld] 39)) := (Below.refl _ _).alloc (Nat.le_refl _) _
     have HO1 := Lib.hid (alloc_block w11 (.cells #[.int .u8 lk.1, .int .u8 lk.2.1, .int .u8 lk.2.2, .int .i64 ld] 39))
     have HB11 := Lib.hid (hb11.trans (hbn.mono hb11.size))
     clear hb11 hbn HLA
     go_upto_region 14 with (fail)
     generalize w11.alloc (.cells #[.int .u8 lk.1, .int .u8 lk.2.1, .int .u8 lk.2.2, .int .i64 ld] 39) = W11 at *
     generalize w11.heap.size = O1 at *
     have c0 := cellb HB11.out C0.out
     have c1 := cellb HB11.out C1.out
     have c2 := cellb HB11.out C2.out
     have c3 := cellb HB11.out C3.out
     have c4 := cellb HB11.out C4.out
     have c5 := cellb HB11.out C5.out
     have c6 := cellb HB11.out C6.out
     have c7 := cellb HB11.out C7.out
     go_wp2_with fail
     clear c0 c1 c2 c3 c4 c5 c6 c7
     refine (HRL.out _ HB11.out).mono ?_
     rintro e12 w12 ⟨rfl, hb12⟩
     have hbn : Below w12.heap.size w12 (w12.alloc (.cells #[.int .u8 lk.1, .int .u8 lk.2.1, .int .u8 lk.2.2, .int .i64 ld] 39)) := (Below.refl _ _).alloc (Nat.le_refl _) _
     have HO2 := Lib.hid (alloc_block w12 (.cells #[.int .u8 lk.1, .int .u8 lk.2.1, .int .u8 lk.2.2, .int .i64 ld] 39))
     have HBX := Lib.hid (hb12.trans (hbn.mono hb12.size))
     have HB12 := Lib.hid (HB11.out.trans (HBX.out.mono HB11.out.size))
     have HO12 := Lib.hid (block_later HO1.out HBX.out)
     clear hb12 hbn HRL HO1 HBX HB11
     go_upto_region 15 with (fail)
     generalize w12.alloc (.cells #[.int .u8 lk.1, .int .u8 lk.2.1, .int .u8 lk.2.2, .int .i64 ld] 39) = W12 at *
     generalize w12.heap.size = O2 at *
     have HS1 : Hid (∀ p : After W12, Calls Tryd.prog 16 #[.agg #[.int .u32 x.c.id, .int .u32 x.c.sg, .int .u8 x.c.st, .bool x.c.cp, .bool x.c.dd, .slice x.p x.n x.m, .int .i64 x.c.fs, .int .i64 x.c.sz], .agg #[.int .u32 x.c.id, .int .u32 x.c.sg, .int .u8 x.c.st, .bool x.c.cp, .bool x.c.dd, .slice x.p x.n x.m, .int .i64 x.c.fs, .int .i64 x.c.sz]] p.w fun e w' => e = .returned (.bool true) ∧ Below p.w.heap.size p.w w') := Lib.hid fun p => by
      have h1 := HI4.out.same p.w x x (OL.later' (OL.later' HXM.out HB12.out) p.h) (OL.later' (OL.later' HXM.out HB12.out) p.h) (by have := HXN.out.1; omega) (by have := HXN.out.1; omega)
      rw [decide_eq_true rfl] at h1
      exact h1
     obtain ⟨g, hgx⟩ : ∃ g, decide (x.c = y.c) = g := ⟨_, rfl⟩
     have HS2 : Hid (∀ p : After W12, Calls Tryd.prog 16 #[.agg #[.int .u32 x.c.id, .int .u32 x.c.sg, .int .u8 x.c.st, .bool x.c.cp, .bool x.c.dd, .slice x.p x.n x.m, .int .i64 x.c.fs, .int .i64 x.c.sz], .agg #[.int .u32 y.c.id, .int .u32 y.c.sg, .int .u8 y.c.st, .bool y.c.cp, .bool y.c.dd, .slice y.p y.n y.m, .int .i64 y.c.fs, .int .i64 y.c.sz]] p.w fun e w' => e = .returned (.bool g) ∧ Below p.w.heap.size p.w w') := Lib.hid fun p => by
      have h1 := HI4.out.same p.w x y (OL.later' (OL.later' HXM.out HB12.out) p.h) (OL.later' (OL.later' HYM.out HB12.out) p.h) (by have := HXN.out.1; omega) (by have := HXN.out.2; omega)
      rw [hgx] at h1
      exact h1
     have HS3 : Hid (∀ p : After W12, Calls Tryd.prog 13 #[.agg #[.int .u32 x.c.id, .int .u32 x.c.sg, .int .u8 x.c.st, .bool x.c.cp, .bool x.c.dd, .slice x.p x.n x.m, .int .i64 x.c.fs, .int .i64 x.c.sz], .agg #[.int .u32 y.c.id, .int .u32 y.c.sg, .int .u8 y.c.st, .bool y.c.cp, .bool y.c.dd, .slice y.p y.n y.m, .int .i64 y.c.fs, .int .i64 y.c.sz]] p.w fun e w' => e = .returned (.bool g) ∧ Below p.w.heap.size p.w w') := Lib.hid fun p => by
      have h1 := rtsame_any x y p.w (OL.later' (OL.later' HXM.out HB12.out) p.h) (OL.later' (OL.later' HYM.out HB12.out) p.h) (by have := HXN.out.1; omega) (by have := HXN.out.2; omega)
      rw [hgx] at h1
      exact h1
     have HGX := Lib.hid hgx
     have q3 : (lb != lb) = false := by simp
     have q4 : (g != g) = false := by simp
     have qn := fun W => op_neq lk.1 lk.2.1 lk.2.2 ld lk.1 lk.2.1 lk.2.2 ld W
     have qd : decide ((((lk.1, lk.2.1, lk.2.2), ld) : O) = ((lk.1, lk.2.1, lk.2.2), ld)) = true := decide_eq_true rfl
     rw [qd] at qn
     clear qd hgx
     have c0 := cellb HB12.out C0.out
     have c1 := cellb HB12.out C1.out
     have c2 := cellb HB12.out C2.out
     have c3 := cellb HB12.out C3.out
     have c4 := cellb HB12.out C4.out
     have c5 := cellb HB12.out C5.out
     have c6 := cellb HB12.out C6.out
     have c7 := cellb HB12.out C7.out
     have d0 := cellb HB12.out D0.out
     have d1 := cellb HB12.out D1.out
     have d2 := cellb HB12.out D2.out
     have d3 := cellb HB12.out D3.out
     have d4 := cellb HB12.out D4.out
     have d5 := cellb HB12.out D5.out
     have d6 := cellb HB12.out D6.out
     have d7 := cellb HB12.out D7.out
     obtain ⟨ox0, ox1, ox2, ox3⟩ := ov_cells HO12.out
     obtain ⟨px0, px1, px2, px3⟩ := ov_cells HO2.out
     have ac0 := fun p : After _ => cell_after p c0
     have ac1 := fun p : After _ => cell_after p c1
     have ac2 := fun p : After _ => cell_after p c2
     have ac3 := fun p : After _ => cell_after p c3
     have ac4 := fun p : After _ => cell_after p c4
     have ac5 := fun p : After _ => cell_after p c5
     have ac6 := fun p : After _ => cell_after p c6
     have ac7 := fun p : After _ => cell_after p c7
     have ad0 := fun p : After _ => cell_after p d0
     have ad1 := fun p : After _ => cell_after p d1
     have ad2 := fun p : After _ => cell_after p d2
     have ad3 := fun p : After _ => cell_after p d3
     have ad4 := fun p : After _ => cell_after p d4
     have ad5 := fun p : After _ => cell_after p d5
     have ad6 := fun p : After _ => cell_after p d6
     have ad7 := fun p : After _ => cell_after p d7
     have aox0 := fun p : After _ => cell_after p ox0
     have aox1 := fun p : After _ => cell_after p ox1
     have aox2 := fun p : After _ => cell_after p ox2
     have aox3 := fun p : After _ => cell_after p ox3
     have apx0 := fun p : After _ => cell_after p px0
     have apx1 := fun p : After _ => cell_after p px1
     have apx2 := fun p : After _ => cell_after p px2
     have apx3 := fun p : After _ => cell_after p px3
     go_wp2_with fail
     refine wp_region_after (by kernel_rfl) (by kernel_rfl) ?_
     repeat (go_big_quiet_step (first | (go_at_call 16; with_reducible exact calls_after _ (HS1.out _)) | (go_at_call 16; with_reducible exact calls_after _ (HS2.out _)) | (go_at_call 13; with_reducible exact calls_after _ (HS3.out _))))
     refine wpQuiet_nil ?_
     intro w13 hw'
     obtain ⟨⟨wq, h6⟩, hw''⟩ := hw'
     subst hw''
     have HB13 := Lib.hid (HB.out.trans ((HB12.out.trans (h6.mono HB12.out.size)).mono HB.out.size))
     clear h6
     clear c0 c1 c2 c3 c4 c5 c6 c7 d0 d1 d2 d3 d4 d5 d6 d7 ox0 ox1 ox2 ox3 px0 px1 px2 px3 ac0 ac1 ac2 ac3 ac4 ac5 ac6 ac7 ad0 ad1 ad2 ad3 ad4 ad5 ad6 ad7 aox0 aox1 aox2 aox3 apx0 apx1 apx2 apx3
     go_wp2_with fail
     go_roundw
     case rel => exact ⟨j + 1, by omega, by go_num, HB13⟩
     case measure =>
      simp [Go.RowKit.intOf]
      omega
   · obtain rfl : j = n := by omega
     go_wp2_with fail
     refine (HWK.out _ HB.out).mono ?_
     rintro e14 w14 ⟨rfl, hb14⟩
     have HB14 := Lib.hid (HB.out.trans (hb14.mono HB.out.size))
     clear hb14
     go_wp2_with fail
     go_ret
     exact ⟨rfl, HB14.out⟩
def xl (k sg tx : Int) (key : K) (d : Int) : Rx := ⟨k, sg, tx, 0, false, key, d, 0, noP⟩
def stU (dd : Bool) (dn : List O) (at_ sz : Int) : Tc := ⟨5, 2, 0, false, dd, dn, at_, sz⟩
theorem u_get (dd : Bool) (dn : List O) (at_ sz : Int) : getT Tc.id [stU dd dn at_ sz] 5 = some (stU dd dn at_ sz) := by simp [getT, stU]
theorem u_with (a b : Bool) (x y : List O) (at_ bt sz tz : Int) : withT Tc.id [stU a x at_ sz] ⟨5, 2, 0, false, b, y, bt, tz⟩ = [stU b y bt tz] := by simp [withT, witho, insT, stU]
theorem u_without (a : Bool) (x : List O) (at_ sz : Int) : witho Tc.id [stU a x at_ sz] 5 = [] := by simp [witho, stU]
theorem good_add (key : K) (d : Int) : goodX (xl 3 0 5 key d) = ((goodB 4 4 key.1 key.2.1 key.2.2 && d != 0) && d != -9223372036854775808) := by
 simp [goodX, xl, kOk, kS, kT, kA, kB, kO, kP, stepB, addB, outB, progB]
theorem good_und (key : K) (d : Int) : goodX (xl 6 0 5 key d) = ((goodB 4 4 key.1 key.2.1 key.2.2 && d != 0) && d != -9223372036854775808) := by
 simp [goodX, xl, kOk, kS, kT, kA, kB, kO, kP, stepB, addB, outB, progB]
theorem good_back {key : K} {d : Int} (h : goodX (xl 3 0 5 key d) = true) (hd : In64 d) : goodX (xl 6 0 5 key (-d)) = true ∧ goodX (xl 3 0 5 key 1) = true ∧ ¬ d < -9223372036854775807 ∧ d ≠ 0 := by
 rw [good_add] at h
 simp only [Bool.and_eq_true, bne_iff_ne, ne_eq] at h
 obtain ⟨⟨h1, h2⟩, h3⟩ := h
 unfold In64 at hd
 refine ⟨?_, ?_, by omega, h2⟩
 · rw [good_und, h1]
   simp only [Bool.true_and, Bool.and_eq_true, bne_iff_ne, ne_eq]
   exact ⟨by omega, by omega⟩
 · rw [good_add, h1]
   decide
theorem u_begin (at_ : Int) : appC [] at_ (xl 2 2 5 (0, 0, 0) 0) = ([stU false [] at_ 17], 0) := by
 rw [appC_2 [] _ (by decide) rfl]
 have h : sizeX (xl 2 2 5 (0, 0, 0) 0) = 17 := by decide
 rw [h]
 simp [getT, withT, witho, insT, stU, xl]
theorem u_add {key : K} {d : Int} (hg : goodX (xl 3 0 5 key d) = true) {dn : List O} (h : dn.length < 6) (at_ sz bt : Int) : appC [stU false dn at_ sz] bt (xl 3 0 5 key d) = ([stU false (dn ++ [(key, d)]) at_ (sz + sizeX (xl 3 0 5 key d))], 0) := by
 rw [appC_3 _ _ hg rfl (u_get ..)]
 rw [if_neg (by simp only [stU]; rintro (e | e); cases e; omega)]
 exact congrArg (·, 0) (u_with ..)
theorem u_bad {X : Rx} (hg : goodX X = false) (M : List Tc) (bt : Int) : appC M bt X = (M, 1) := if_pos (.inl hg)
theorem u_dead {key : K} {d : Int} (hg : goodX (xl 3 0 5 key d) = true) (dn : List O) (at_ sz bt : Int) : appC [stU true dn at_ sz] bt (xl 3 0 5 key d) = ([stU true dn at_ sz], 12) := by
 rw [appC_3 _ _ hg rfl (u_get ..)]
 exact if_pos (.inl rfl)
theorem u_abort (dn : List O) (at_ sz bt : Int) : appC [stU false dn at_ sz] bt (xl 5 0 5 (0, 0, 0) 0) = ([stU true dn at_ (sz + sizeX (xl 5 0 5 (0, 0, 0) 0))], 0) := by
 rw [appC_5 _ _ (by decide) rfl (u_get ..)]
 rw [if_neg (by simp [stU])]
 exact congrArg (·, 0) (u_with ..)
theorem u_keep (dd : Bool) {dn : List O} (h : dn ≠ []) (at_ sz bt : Int) : appC [stU dd dn at_ sz] bt (xl 7 0 5 (0, 0, 0) 0) = ([stU dd dn at_ sz], 12) := by
 rw [appC_7 _ _ (by decide) rfl (u_get ..)]
 exact if_neg h
theorem u_gone (dd : Bool) (at_ sz bt : Int) : appC [stU dd [] at_ sz] bt (xl 7 0 5 (0, 0, 0) 0) = ([], 0) := by
 rw [appC_7 _ _ (by decide) rfl (u_get ..)]
 rw [if_pos (by rfl)]
 exact congrArg (·, 0) (u_without ..)
theorem u_undo {key : K} {d : Int} (hg : goodX (xl 6 0 5 key d) = true) {dd : Bool} {dn : List O} {at_ sz : Int} (h : lastC (stU dd dn at_ sz) = ((key, d), true)) (bt : Int) : appC [stU dd dn at_ sz] bt (xl 6 0 5 key d) = ([stU true dn.dropLast at_ (sz + sizeX (xl 6 0 5 key d))], 0) := by
 rw [appC_6 _ _ hg rfl (u_get ..)]
 rw [if_pos (show lastC (stU dd dn at_ sz) = (((xl 6 0 5 key d).key, (xl 6 0 5 key d).d), true) from h)]
 exact congrArg (·, 0) (u_with ..)
theorem u_commit (dn : List O) (at_ sz bt : Int) : appC [stU true dn at_ sz] bt (xl 4 0 5 (0, 0, 0) 0) = ([stU true dn at_ sz], 12) := by
 rw [appC_4 _ _ (by decide) rfl (u_get ..)]
 exact if_pos rfl
theorem u_jok {dd : Bool} {dn : List O} {at_ sz : Int} (h1 : ∀ o ∈ dn, Ook o) (h2 : dn.length ≤ 20) (h3 : In64 at_) (h4 : 0 ≤ sz ∧ sz ≤ 1000000000) : JOk [stU dd dn at_ sz] := by
 refine ⟨fun x hx => ?_, List.pairwise_singleton _ _, by simp, fun x hx => ?_, fun x hx => ?_⟩ <;> rw [List.mem_singleton.1 hx]
 · exact ⟨⟨by show (0 : Int) ≤ 5; omega, by show (5 : Int) ≤ 4294967295; omega⟩, ⟨by show (0 : Int) ≤ 2; omega, by show (2 : Int) ≤ 4294967295; omega⟩, ⟨by show (0 : Int) ≤ 0; omega, by show (0 : Int) ≤ 255; omega⟩, h1, h3, by show -9223372036854775808 ≤ sz ∧ sz ≤ 9223372036854775807; omega⟩
 · exact h2
 · exact ⟨h4.1, by show sz ≤ 1000000000000; omega⟩
variable {NB : Nat} {Wd : World → Prop} {Ju : World → Nat → List Tc → (Nat → Prop) → Prop}
def JnZ (Ju : World → Nat → List Tc → (Nat → Prop) → Prop) (W w : World) (B : Nat) (M : List Tc) (Z : Nat) (c : Obj) : Prop := ∃ Q, Ju w B M Q ∧ (∀ j, Q j → W.heap.size ≤ j) ∧ Below W.heap.size W w ∧ ¬ Q Z ∧ w.heap[Z]? = some c
theorem JnZ.jn {W w : World} {B : Nat} {M : List Tc} {Z : Nat} {c : Obj} (h : JnZ Ju W w B M Z c) : Jn Ju W w B M := by
 obtain ⟨Q, h1, h2, h3, _, _⟩ := h
 exact ⟨Q, h1, h2, h3⟩
theorem JnZ.box {W w : World} {B : Nat} {M : List Tc} {Z : Nat} {c : Obj} (h : JnZ Ju W w B M Z c) : w.heap[Z]? = some c := by
 obtain ⟨Q, _, _, _, _, h5⟩ := h
 exact h5
theorem Jn.box (I : JnI NB Wd Ju) {W w : World} {B : Nat} {M : List Tc} (h : Jn Ju W w B M) (cs : Array Value) (T : TypeId) : JnZ Ju W (w.alloc (.cells cs T)) B M w.heap.size (.cells cs T (0, 0)) := by
 obtain ⟨Q, h1, h2, h3⟩ := h
 have hb : Below w.heap.size w (w.alloc (.cells cs T)) := (Below.refl _ _).alloc (Nat.le_refl _) _
 exact ⟨Q, I.later h1 hb, h2, h3.trans (hb.mono h3.size), (fun hq => by have := I.lt h1 _ hq; omega), alloc_block w _⟩
theorem JnZ.apply (I : JnI NB Wd Ju) {W w : World} {B : Nat} {M : List Tc} {Z : Nat} {c : Obj} (hW : Wd W) (h : JnZ Ju W w B M Z c) (hM : JOk M) (at_ : Int) (ha : In64 at_) (k sg tx : Int) (key : K) (d : Int) (hk : 0 ≤ k ∧ k ≤ 255) (hs : 0 ≤ sg ∧ sg ≤ 4294967295) (ht : 0 ≤ tx ∧ tx ≤ 4294967295) (hky : Kok key) (hd : In64 d) {M' : List Tc} {z : Int} (he : appC M at_ (xl k sg tx key d) = (M', z)) :
 Calls Tryd.prog 17 #[.pointer (some ⟨B, 0, none⟩), .int .i64 at_, .agg (rcs (rvl k sg tx key d))] w fun e w' => e = .returned (.int .i64 z) ∧ JnZ Ju W w' B M' Z c := by
 obtain ⟨Q, h1, h2, h3, h4, h5⟩ := h
 have hap := I.apply w B M Q at_ (rvl k sg tx key d) [] [] [] (I.wd hW h3) h1 hM ha (rvl_m ..) (rvl_ok hk hs ht hky hd) (rvl_s ..)
 rw [rvl_x, show (⟨k, sg, tx, 0, false, key, d, 0, noP⟩ : Rx) = xl k sg tx key d from rfl, he] at hap
 refine hap.mono ?_
 rintro e w' ⟨rfl, Q', g1, g2, g3⟩
 have hz : Z < w.heap.size := by
  have h6 := (Array.getElem?_eq_some_iff.1 h5).1
  exact h6
 refine ⟨rfl, Q', g1, fun j hj => ?_, h3.trans (g3.below h3.size h2), fun hq => ?_, (g3.block Z hz h4).trans h5⟩
 · rcases g2 j hj with e | e
   · exact h2 j e
   · exact Nat.le_trans h3.size e
 · rcases g2 Z hq with e | e
   · exact h4 e
   · omega
theorem Jn.apply' (I : JnI NB Wd Ju) {W w : World} {B : Nat} {M : List Tc} (hW : Wd W) (h : Jn Ju W w B M) (hM : JOk M) (at_ : Int) (ha : In64 at_) (k sg tx : Int) (key : K) (d : Int) (hk : 0 ≤ k ∧ k ≤ 255) (hs : 0 ≤ sg ∧ sg ≤ 4294967295) (ht : 0 ≤ tx ∧ tx ≤ 4294967295) (hky : Kok key) (hd : In64 d) {M' : List Tc} {z : Int} (he : appC M at_ (xl k sg tx key d) = (M', z)) :
 Calls Tryd.prog 17 #[.pointer (some ⟨B, 0, none⟩), .int .i64 at_, .agg (rcs (rvl k sg tx key d))] w fun e w' => e = .returned (.int .i64 z) ∧ Jn Ju W w' B M' := by
 have hap := Jn.apply I hW h hM at_ ha (rvl k sg tx key d) [] [] [] (rvl_m ..) (rvl_ok hk hs ht hky hd) (rvl_s ..)
 rw [rvl_x, show (⟨k, sg, tx, 0, false, key, d, 0, noP⟩ : Rx) = xl k sg tx key d from rfl, he] at hap
 exact hap
variable {NB : Nat} {Wd : World → Prop} {Ju : World → Nat → List Tc → (Nat → Prop) → Prop}
theorem take_at {L : List O} {j : Nat} (hj : j < L.length) : L.take (j + 1) = L.take j ++ [L.getD j o0] := by
 rw [List.take_add_one, List.getElem?_eq_getElem hj]
 simp [List.getD, List.getElem?_eq_getElem hj]
theorem last_take {L : List O} {q : Nat} (hq : q < L.length) (dd : Bool) (at_ sz : Int) (h : ¬ (L.getD q o0).2 < -9223372036854775807) : lastC (stU dd (L.take (q + 1)) at_ sz) = (((L.getD q o0).1, -(L.getD q o0).2), true) := by
 rw [lastC_at (q := q) (by simp only [stU, List.length_take]; omega)]
 have e : (L.take (q + 1)).getD q o0 = L.getD q o0 := by simp [List.getD, List.getElem?_take]
 simp only [stU, e]
 exact if_neg h
theorem drop_take {L : List O} {q : Nat} (hq : q < L.length) : (L.take (q + 1)).dropLast = L.take q := by
 rw [take_at hq, List.dropLast_concat]
set_option maxHeartbeats 8000000 in
theorem law_jundoes (I : JnI NB Wd Ju) (p : Option Addr) (n c : Nat) (L : List O) (at_ : Int) (died : Bool) (W : World) (hW : Wd W) (hL : OL W p n c L) (hx : ∀ x ∈ L, Ook x) (ha : In64 at_) :
 Calls Tryd.prog 4 #[.slice p n c, .int .i64 at_, .bool died] W fun e w' => e = .returned (.bool true) ∧ Below W.heap.size W w' := by
 obtain ⟨k, hk, hkn, hk6⟩ : ∃ k : Nat, min (n : Int) 6 = (k : Int) ∧ k ≤ n ∧ k ≤ 6 := ⟨min n 6, by omega, by omega, by omega⟩
 have hki : (if (6 : Int) < (n : Int) then (6 : Int) else (n : Int)) = (k : Int) := by rw [← hk]; omega
 have hcap := hL.cap
 have hmax := hL.max
 unfold maxLen at hmax
 have hkc : (k : Int) ≤ (c : Int) := by omega
 have hkm : (k : Int) ≤ 6 := by omega
 have HL := Lib.hid (hL.take k hkn)
 have HX : Hid (∀ x ∈ L.take k, Ook x) := Lib.hid fun x hxm => hx x (List.mem_of_mem_take hxm)
 have HLEN : Hid ((L.take k).length = k) := Lib.hid (by rw [List.length_take, hL.len]; omega)
 generalize L.take k = L1 at *
 have HI := Lib.hid I
 have HW := Lib.hid hW
 have HA := Lib.hid ha
 have HWK := Lib.hid fun w' (hb : Below W.heap.size W w') => jworks_any I w' (I.wd hW hb)
 have HNEW := Lib.hid (I.new none 0 0 [] W (TL.empty W) (by omega) (fun t ht => by cases ht) (fun t ht => by cases ht))
 have HTK : Hid (∀ j, ∀ x ∈ L1.take j, Ook x) := Lib.hid fun j x hxm => HX.out x (List.mem_of_mem_take hxm)
 have HTL : Hid (∀ j, (L1.take j).length ≤ 6) := Lib.hid fun j => by rw [List.length_take, HLEN.out]; omega
 have hwk : IntKind.i64.wrap ((k : Int) - 1) = (k : Int) - 1 := by
  unfold IntKind.wrap; simp [IntKind.signed, IntKind.bits]; omega
 have HKM := Lib.hid (show max (min (n : Int) 6) 0 - 1 = (k : Int) - 1 by omega)
 clear hL hx ha I hW hk hkn hk6
 go_enter Tryd.func4, Tryd.ntmps4
 go_wp2_with fail
 refine HNEW.out.mono ?_
 rintro e1 w1 ⟨B, Q, rfl, hj, hq, hb1⟩
 have HC1 := Lib.hid (Jn.apply' HI.out HW.out (show Jn Ju W w1 B [] from ⟨Q, hj, hq, hb1⟩) (jok_nil.mono (by omega) (by omega)) at_ HA.out 2 2 5 (0, 0, 0) 0 (by omega) (by omega) (by omega) ⟨by decide, by decide, by decide⟩ (by unfold In64; omega) (u_begin at_))
 clear hj hq hb1 HNEW
 go_wp2_with fail
 refine HC1.out.mono ?_
 rintro e2 w2 ⟨rfl, hj⟩
 have HJ2 := Lib.hid hj
 clear hj HC1
 go_wp2_with fail
 go_loopw [8] (fun v wr => ∃ (j : Nat) (sz : Int), j ≤ k ∧ v = .int .i64 (j : Int) ∧ Hid (Jn Ju W wr B [stU false (L1.take j) at_ sz]) ∧ Hid (0 ≤ sz ∧ sz ≤ 17 + 10000 * j) ∧ Hid (∀ i, i < j → goodX (xl 3 0 5 (L1.getD i o0).1 (L1.getD i o0).2) = true)) (fun v _ => k - (Go.RowKit.intOf v).toNat)
 case atStart => exact ⟨0, 17, Nat.zero_le _, rfl, HJ2, Lib.hid ⟨by omega, by omega⟩, Lib.hid (fun i hi => by omega)⟩
 case round =>
  obtain ⟨j, sz, hj, rfl, HJ, HS, HG⟩ := hrel
  by_cases hlt : j < k
  · have t1 : (j : Int) < k := by omega
    obtain ⟨b, off, rfl, _, c0, c1, c2, c3⟩ := op_cells (HL.out.later HJ.out.below) hlt
    have hoj : j < L1.length := by rw [HLEN.out]; exact hlt
    have hok := ok_at HX.out hoj
    have HTA := Lib.hid (take_at hoj)
    have HGS : Hid (goodX (xl 3 0 5 (L1.getD j o0).1 (L1.getD j o0).2) = true → ∀ i, i < j + 1 → goodX (xl 3 0 5 (L1.getD i o0).1 (L1.getD i o0).2) = true) := Lib.hid fun h i hi => by
     rcases Nat.lt_or_ge i j with h' | h'
     · exact HG.out i h'
     · obtain rfl : i = j := by omega
       exact h
    have HBD : Hid (Jn Ju W wr.drew B [stU false (L1.take j) at_ sz]) := Lib.hid (HJ.out.later HI.out (Below.refl _ _).drew)
    have HBW := Lib.hid HJ.out.below
    generalize L1.getD j o0 = o at *
    obtain ⟨ky, d⟩ := o
    dsimp only at hok HTA HGS
    have HJO : Hid (JOk [stU false (L1.take j) at_ sz]) := Lib.hid (u_jok (HTK.out j) (Nat.le_trans (HTL.out j) (by omega)) HA.out (by have := HS.out; omega))
    cases hg : goodX (xl 3 0 5 ky d) with
    | true =>
     have hlj : (L1.take j).length < 6 := by rw [List.length_take, HLEN.out]; omega
     have HC := Lib.hid (Jn.apply' HI.out HW.out HBD.out HJO.out at_ HA.out 3 0 5 ky d (by omega) (by omega) (by omega) hok.1 hok.2 (u_add hg hlj at_ sz at_))
     have HSZ := Lib.hid (size_few hg)
     have HGG := Lib.hid (HGS.out hg)
     rw [← HTA.out] at HC
     generalize sizeX (xl 3 0 5 ky d) = sx at *
     clear hg hlj hok HBD HJ HGS hoj
     go_wp2_with fail
     go_still_tail 13, (by kernel_rfl)
     repeat still_step
     change wpList _ _ _ _ _ wr.drew
     clear c0 c1 c2 c3
     go_wp2_with fail
     refine HC.out.mono ?_
     rintro e3 w3 ⟨rfl, hj3⟩
     have HJ3 := Lib.hid hj3
     clear hj3 HC
     go_wp2_with fail
     go_roundw
     case rel => exact ⟨j + 1, sz + sx, by omega, by go_num, HJ3, Lib.hid (by have h1 := HS.out; have h2 := HSZ.out; omega), HGG⟩
     case measure =>
      simp [Go.RowKit.intOf]
      omega
    | false =>
     have HC := Lib.hid (Jn.apply' HI.out HW.out HBD.out HJO.out at_ HA.out 3 0 5 ky d (by omega) (by omega) (by omega) hok.1 hok.2 (u_bad hg _ at_))
     clear hg hok HBD HJ HGS hoj HTA
     go_wp2_with fail
     go_still_tail 13, (by kernel_rfl)
     repeat still_step
     change wpList _ _ _ _ _ wr.drew
     clear c0 c1 c2 c3
     go_wp2_with fail
     refine HC.out.mono ?_
     rintro e3 w3 ⟨rfl, hj3⟩
     have HB3 := Lib.hid hj3.below
     clear hj3 HC
     go_wp2_with fail
     refine (HWK.out _ HB3.out).mono ?_
     rintro e4 w4 ⟨rfl, hb4⟩
     have HB4 := Lib.hid (HB3.out.trans (hb4.mono HB3.out.size))
     clear hb4
     go_wp2_with fail
     go_ret
     exact ⟨rfl, HB4.out⟩
  · obtain rfl : j = k := by omega
    have HJO : Hid (JOk [stU false (L1.take j) at_ sz]) := Lib.hid (u_jok (HTK.out j) (Nat.le_trans (HTL.out j) (by omega)) HA.out (by have := HS.out; omega))
    have hdec : ∃ dd : Bool, dd = died := ⟨died, rfl⟩
    clear hdec
    cases died with
    | false =>
     have HJ5 : Hid (Jn Ju W wr B [stU false (L1.take j) at_ sz]) := HJ
     have HS5 : Hid (0 ≤ sz ∧ sz ≤ 100000) := Lib.hid (by have := HS.out; omega)
     clear HJ HS
     go_wp2_with fail
     go_loopw [9] (fun v wr => ∃ (m : Nat) (iq : Int) (dd : Bool) (s : Int), m ≤ j ∧ v = .int .i64 iq ∧ Hid (iq = (m : Int) - 1) ∧ Hid (Jn Ju W wr B [stU dd (L1.take m) at_ s]) ∧ Hid (0 ≤ s ∧ s ≤ 100000 + 10000 * ((j : Int) - m))) (fun v _ => (Go.RowKit.intOf v + 1).toNat)
     case atStart => exact ⟨j, _, false, _, Nat.le_refl _, rfl, HKM, HJ5, Lib.hid (by have := HS5.out; omega)⟩
     case round =>
      obtain ⟨m, iq, dd, s, hm, rfl, HQ, HJ, HS⟩ := hrel
      by_cases h0 : m = 0
      · have hiq := HQ.out
        have t1 : ¬ (0 : Int) ≤ iq := by omega
        have t2 : decide ((0 : Int) ≤ iq) = false := decide_eq_false t1
        have HJ0 : Hid (Jn Ju W _ B [stU dd [] at_ s]) := Lib.hid (by have h1 := HJ.out; rw [h0] at h1; exact h1)
        have HCG := Lib.hid (Jn.apply' HI.out HW.out HJ0.out (u_jok (fun o ho => by cases ho) (by simp) HA.out (by have := HS.out; omega)) at_ HA.out 7 0 5 (0, 0, 0) 0 (by omega) (by omega) (by omega) ⟨by decide, by decide, by decide⟩ (by unfold In64; omega) (u_gone dd at_ s at_))
        have HIQ := Lib.hid hiq
        have HH0 := Lib.hid h0
        clear hiq h0 HJ HJ0
        go_wp2_with fail
        refine HCG.out.mono ?_
        rintro e8 w8 ⟨rfl, hj8⟩
        obtain ⟨Q8, g1, g2, g3⟩ := hj8
        have HAL := Lib.hid (HI.out.all w8 B [] Q8 g1 (jok_nil.mono (by omega) (by omega)) (Nat.zero_le _))
        have HB8 := Lib.hid g3
        clear g1 g2 g3 HCG
        go_wp2_with fail
        refine HAL.out.mono ?_
        rintro e9 w9 ⟨r9, m9, d9, L9, rfl, htl, hmp, _, hb9⟩
        obtain rfl : m9 = 0 := by rw [← htl.row.len, ← List.length_map (f := (·.c)), hmp]; rfl
        have HB9 := Lib.hid (HB8.out.trans (hb9.mono HB8.out.size))
        clear htl hmp hb9 HB8 HAL
        go_wp2_with fail
        refine (HWK.out _ HB9.out).mono ?_
        rintro e10 w10 ⟨rfl, hb10⟩
        have HB10 := Lib.hid (HB9.out.trans (hb10.mono HB9.out.size))
        clear hb10
        go_wp2_with fail
        go_ret
        exact ⟨rfl, HB10.out⟩
      · obtain ⟨q, hq⟩ : ∃ q, m = q + 1 := ⟨m - 1, by omega⟩
        have hiq := HQ.out
        obtain rfl : iq = (q : Int) := by omega
        rw [hq] at HJ HS
        have hqj : q < j := by omega
        have hqn : (q : Int) < j := by omega
        have hqb : (q : Int) < max (min (n : Int) 6) 0 := by have := HKM.out; omega
        have hq0 : (0 : Int) ≤ (q : Int) := by omega
        have t2 : decide ((0 : Int) ≤ (q : Int)) = true := decide_eq_true hq0
        have HMQ := Lib.hid (And.intro hq hm)
        clear hq hiq HQ h0 hm
        have hoq : q < L1.length := by rw [HLEN.out]; exact hqj
        obtain ⟨b, off, rfl, _, c0, c1, c2, c3⟩ := op_cells (HL.out.later HJ.out.below) hqj
        have hok := ok_at HX.out hoq
        obtain ⟨hgu, hga, hnl, hd0⟩ := good_back (HG.out q hqj) hok.2
        have HLT := Lib.hid (last_take hoq dd at_ s hnl)
        have HDT := Lib.hid (drop_take hoq)
        have HNE : Hid (L1.take (q + 1) ≠ []) := Lib.hid (by rw [take_at hoq]; simp)
        obtain ⟨⟨ky, d⟩, hoo⟩ : ∃ o, L1.getD q o0 = o := ⟨_, rfl⟩
        rw [hoo] at c0 c1 c2 c3 hok hgu hga hnl hd0 HLT
        have HOO := Lib.hid hoo
        clear hoo
        dsimp only at hok hgu hga hnl hd0 HLT
        have hng : IntKind.i64.wrap (-d) = -d := by
         have h1 := hok.2
         unfold In64 at h1
         simp only at h1
         unfold IntKind.wrap; simp [IntKind.signed, IntKind.bits]; omega
        have HOK := Lib.hid hok
        have HGU := Lib.hid hgu
        have HGA := Lib.hid hga
        have HND : Hid (In64 (-d)) := Lib.hid (by have h1 := hok.2; unfold In64 at h1 ⊢; simp only at h1; omega)
        have HJO : Hid (JOk [stU dd (L1.take (q + 1)) at_ s]) := Lib.hid (u_jok (HTK.out (q + 1)) (Nat.le_trans (HTL.out (q + 1)) (by omega)) HA.out (by have := HS.out; have := HMQ.out.2; omega))
        have HNL := Lib.hid (And.intro hnl hd0)
        clear hok hgu hga hnl hd0 hoq
        have HC0 := Lib.hid c0
        have HC1 := Lib.hid c1
        have HC2 := Lib.hid c2
        have HC3 := Lib.hid c3
        have HBLK : Hid (∀ w', Below W.heap.size W w' → w'.cell? ⟨b, off + q * 4, none⟩ = some (.int .u8 ky.1) ∧ w'.cell? ⟨b, off + q * 4 + 1, none⟩ = some (.int .u8 ky.2.1) ∧ w'.cell? ⟨b, off + q * 4 + 2, none⟩ = some (.int .u8 ky.2.2) ∧ w'.cell? ⟨b, off + q * 4 + 3, none⟩ = some (.int .i64 d)) := Lib.hid fun w' hb => by
         obtain ⟨b2, off2, hp2, _, g0, g1, g2, g3⟩ := op_cells (HL.out.later hb) hqj
         cases hp2
         rw [HOO.out] at g0 g1 g2 g3
         exact ⟨g0, g1, g2, g3⟩
        go_wp2_with fail
        clear c0 c1 c2 c3
        refine (Jn.get HI.out HJ.out HJO.out 5 (by omega)).mono ?_
        rintro e6 w6 ⟨t, rfl, htc, htm, hb6, hj6⟩
        rw [u_get] at htc
        simp only [u_get, Option.isSome_some, Option.getD_some] at htc ⊢
        have HTN : Hid (t.n ≤ 100) := Lib.hid (by rw [← htm.len, htc]; exact Nat.le_trans (HTL.out (q + 1)) (by omega))
        have hbn : Below w6.heap.size w6 (w6.alloc (.cells #[.int .u32 t.c.id, .int .u32 t.c.sg, .int .u8 t.c.st, .bool t.c.cp, .bool t.c.dd, .slice t.p t.n t.m, .int .i64 t.c.fs, .int .i64 t.c.sz] 31)) := (Below.refl _ _).alloc (Nat.le_refl _) _
        have HLA := Lib.hid (HI.out.last (w6.alloc (.cells #[.int .u32 t.c.id, .int .u32 t.c.sg, .int .u8 t.c.st, .bool t.c.cp, .bool t.c.dd, .slice t.p t.n t.m, .int .i64 t.c.fs, .int .i64 t.c.sz] 31)) t (htm.later hbn) (by rw [htc]; exact HTK.out (q + 1)) HTN.out)
        rw [show lastC t.c = ((ky, -d), true) by rw [htc]; exact HLT.out] at HLA
        dsimp only at HLA
        have HTB := Lib.hid (alloc_block w6 (.cells #[.int .u32 t.c.id, .int .u32 t.c.sg, .int .u8 t.c.st, .bool t.c.cp, .bool t.c.dd, .slice t.p t.n t.m, .int .i64 t.c.fs, .int .i64 t.c.sz] 31))
        have HJ6 := Lib.hid (hj6.later HI.out hbn)
        clear htc htm hb6 hj6 hbn HJ
        go_upto_region 16 with (fail)
        generalize w6.alloc (.cells #[.int .u32 t.c.id, .int .u32 t.c.sg, .int .u8 t.c.st, .bool t.c.cp, .bool t.c.dd, .slice t.p t.n t.m, .int .i64 t.c.fs, .int .i64 t.c.sz] 31) = W6 at *
        generalize w6.heap.size = TB at *
        obtain ⟨y0, y1, y2, y3, y4, y5, y6, y7⟩ := txv_cells HTB.out
        go_wp2_with fail
        clear y0 y1 y2 y3 y4 y5 y6 y7
        refine HLA.out.mono ?_
        rintro e7 w7 ⟨rfl, hb7⟩
        have HJZ := Lib.hid ((HJ6.out.later HI.out hb7).box HI.out #[.int .u8 ky.1, .int .u8 ky.2.1, .int .u8 ky.2.2, .int .i64 (-d)] 39)
        clear hb7 HLA HTB HJ6
        go_upto_region 17 with (fail)
        generalize w7.alloc (.cells #[.int .u8 ky.1, .int .u8 ky.2.1, .int .u8 ky.2.2, .int .i64 (-d)] 39) = W7 at *
        generalize w7.heap.size = Z at *
        have HZD : Hid (JnZ Ju W W7.drew B [stU dd (L1.take (q + 1)) at_ s] Z (.cells #[.int .u8 ky.1, .int .u8 ky.2.1, .int .u8 ky.2.2, .int .i64 (-d)] 39 (0, 0))) := Lib.hid (by
         obtain ⟨Q7, g1, g2, g3, g4, g5⟩ := HJZ.out
         exact ⟨Q7, HI.out.later g1 (Below.refl _ _).drew, g2, g3.drew, g4, g5⟩)
        have HCK := Lib.hid (JnZ.apply HI.out HW.out HZD.out HJO.out at_ HA.out 7 0 5 (0, 0, 0) 0 (by omega) (by omega) (by omega) ⟨by decide, by decide, by decide⟩ (by unfold In64; omega) (u_keep dd HNE.out at_ s at_))
        obtain ⟨c0, c1, c2, c3⟩ := HBLK.out W7 HJZ.out.jn.below
        obtain ⟨z0, z1, z2, z3⟩ := ov_cells HJZ.out.box
        have qn := fun W => key_neq ky.1 ky.2.1 ky.2.2 ky.1 ky.2.1 ky.2.2 W
        rw [decide_eq_true (show ((ky.1, ky.2.1, ky.2.2) : K) = (ky.1, ky.2.1, ky.2.2) from rfl)] at qn
        have qd : ((-d) != (-d)) = false := by simp
        go_wp2_with fail
        go_still_tail 31, (by kernel_rfl)
        repeat still_step
        change wpList _ _ _ _ _ W7.drew
        clear c0 c1 c2 c3 z0 z1 z2 z3
        go_wp2_with fail
        refine HCK.out.mono ?_
        rintro e8 w8 ⟨rfl, hj8⟩
        have HJ8 := Lib.hid hj8
        clear hj8 HCK HZD HJZ
        obtain ⟨z0, z1, z2, z3⟩ := ov_cells HJ8.out.box
        have HCU := Lib.hid (JnZ.apply HI.out HW.out HJ8.out HJO.out at_ HA.out 6 0 5 ky (-d) (by omega) (by omega) (by omega) HOK.out.1 HND.out (u_undo HGU.out HLT.out at_))
        rw [HDT.out] at HCU
        have HSZ := Lib.hid (size_few HGU.out)
        generalize sizeX (xl 6 0 5 ky (-d)) = sx at *
        go_wp2_with fail
        clear z0 z1 z2 z3
        refine HCU.out.mono ?_
        rintro e9 w9 ⟨rfl, hj9⟩
        have HJ9 := Lib.hid hj9
        have HJO9 : Hid (JOk [stU true (L1.take q) at_ (s + sx)]) := Lib.hid (u_jok (HTK.out q) (Nat.le_trans (HTL.out q) (by omega)) HA.out (by have h1 := HS.out; have h2 := HSZ.out; have := HMQ.out.2; omega))
        clear hj9 HCU HJ8
        obtain ⟨z0, z1, z2, z3⟩ := ov_cells HJ9.out.box
        have HCA := Lib.hid (JnZ.apply HI.out HW.out HJ9.out HJO9.out at_ HA.out 3 0 5 ky 1 (by omega) (by omega) (by omega) HOK.out.1 (by unfold In64; omega) (u_dead HGA.out (L1.take q) at_ (s + sx) at_))
        go_wp2_with fail
        clear z0 z1 z2 z3
        refine HCA.out.mono ?_
        rintro e10 w10 ⟨rfl, hj10⟩
        have HJ10 := Lib.hid hj10
        clear hj10 HCA HJ9
        have HCC := Lib.hid (JnZ.apply HI.out HW.out HJ10.out HJO9.out at_ HA.out 4 0 5 (0, 0, 0) 0 (by omega) (by omega) (by omega) ⟨by decide, by decide, by decide⟩ (by unfold In64; omega) (u_commit (L1.take q) at_ (s + sx) at_))
        go_wp2_with fail
        refine HCC.out.mono ?_
        rintro e11 w11 ⟨rfl, hj11⟩
        have HJ11 := Lib.hid hj11.jn
        clear hj11 HCC HJ10
        have hwq : IntKind.i64.wrap ((q : Int) - 1) = (q : Int) - 1 := by
         unfold IntKind.wrap; simp [IntKind.signed, IntKind.bits]; omega
        go_wp2_with fail
        go_roundw
        case rel => exact ⟨q, _, true, s + sx, by omega, rfl, Lib.hid (by first | rfl | omega), HJ11, Lib.hid (by have h1 := HS.out; have h2 := HSZ.out; omega)⟩
        case measure =>
         simp [Go.RowKit.intOf]
    | true =>
     have HC := Lib.hid (Jn.apply' HI.out HW.out HJ.out HJO.out at_ HA.out 5 0 5 (0, 0, 0) 0 (by omega) (by omega) (by omega) ⟨by decide, by decide, by decide⟩ (by unfold In64; omega) (u_abort (L1.take j) at_ sz at_))
     have HSZ := Lib.hid (size_few (X := xl 5 0 5 (0, 0, 0) 0) (by decide))
     generalize sizeX (xl 5 0 5 (0, 0, 0) 0) = sx at *
     clear HJ
     go_wp2_with fail
     refine HC.out.mono ?_
     rintro e3 w3 ⟨rfl, hj3⟩
     have HJ5 := Lib.hid hj3
     have HS5 : Hid (0 ≤ sz + sx ∧ sz + sx ≤ 100000) := Lib.hid (by have h1 := HS.out; have h2 := HSZ.out; omega)
     clear hj3 HC HS
     generalize sz + sx = sz at *
     generalize w3 = wr at *
     go_wp2_with fail
     go_loopw [9] (fun v wr => ∃ (m : Nat) (iq : Int) (dd : Bool) (s : Int), m ≤ j ∧ v = .int .i64 iq ∧ Hid (iq = (m : Int) - 1) ∧ Hid (Jn Ju W wr B [stU dd (L1.take m) at_ s]) ∧ Hid (0 ≤ s ∧ s ≤ 100000 + 10000 * ((j : Int) - m))) (fun v _ => (Go.RowKit.intOf v + 1).toNat)
     case atStart => exact ⟨j, _, true, _, Nat.le_refl _, rfl, HKM, HJ5, Lib.hid (by have := HS5.out; omega)⟩
     case round =>
      obtain ⟨m, iq, dd, s, hm, rfl, HQ, HJ, HS⟩ := hrel
      by_cases h0 : m = 0
      · have hiq := HQ.out
        have t1 : ¬ (0 : Int) ≤ iq := by omega
        have t2 : decide ((0 : Int) ≤ iq) = false := decide_eq_false t1
        have HJ0 : Hid (Jn Ju W _ B [stU dd [] at_ s]) := Lib.hid (by have h1 := HJ.out; rw [h0] at h1; exact h1)
        have HCG := Lib.hid (Jn.apply' HI.out HW.out HJ0.out (u_jok (fun o ho => by cases ho) (by simp) HA.out (by have := HS.out; omega)) at_ HA.out 7 0 5 (0, 0, 0) 0 (by omega) (by omega) (by omega) ⟨by decide, by decide, by decide⟩ (by unfold In64; omega) (u_gone dd at_ s at_))
        have HIQ := Lib.hid hiq
        have HH0 := Lib.hid h0
        clear hiq h0 HJ HJ0
        go_wp2_with fail
        refine HCG.out.mono ?_
        rintro e8 w8 ⟨rfl, hj8⟩
        obtain ⟨Q8, g1, g2, g3⟩ := hj8
        have HAL := Lib.hid (HI.out.all w8 B [] Q8 g1 (jok_nil.mono (by omega) (by omega)) (Nat.zero_le _))
        have HB8 := Lib.hid g3
        clear g1 g2 g3 HCG
        go_wp2_with fail
        refine HAL.out.mono ?_
        rintro e9 w9 ⟨r9, m9, d9, L9, rfl, htl, hmp, _, hb9⟩
        obtain rfl : m9 = 0 := by rw [← htl.row.len, ← List.length_map (f := (·.c)), hmp]; rfl
        have HB9 := Lib.hid (HB8.out.trans (hb9.mono HB8.out.size))
        clear htl hmp hb9 HB8 HAL
        go_wp2_with fail
        refine (HWK.out _ HB9.out).mono ?_
        rintro e10 w10 ⟨rfl, hb10⟩
        have HB10 := Lib.hid (HB9.out.trans (hb10.mono HB9.out.size))
        clear hb10
        go_wp2_with fail
        go_ret
        exact ⟨rfl, HB10.out⟩
      · obtain ⟨q, hq⟩ : ∃ q, m = q + 1 := ⟨m - 1, by omega⟩
        have hiq := HQ.out
        obtain rfl : iq = (q : Int) := by omega
        rw [hq] at HJ HS
        have hqj : q < j := by omega
        have hqn : (q : Int) < j := by omega
        have hqb : (q : Int) < max (min (n : Int) 6) 0 := by have := HKM.out; omega
        have hq0 : (0 : Int) ≤ (q : Int) := by omega
        have t2 : decide ((0 : Int) ≤ (q : Int)) = true := decide_eq_true hq0
        have HMQ := Lib.hid (And.intro hq hm)
        clear hq hiq HQ h0 hm
        have hoq : q < L1.length := by rw [HLEN.out]; exact hqj
        obtain ⟨b, off, rfl, _, c0, c1, c2, c3⟩ := op_cells (HL.out.later HJ.out.below) hqj
        have hok := ok_at HX.out hoq
        obtain ⟨hgu, hga, hnl, hd0⟩ := good_back (HG.out q hqj) hok.2
        have HLT := Lib.hid (last_take hoq dd at_ s hnl)
        have HDT := Lib.hid (drop_take hoq)
        have HNE : Hid (L1.take (q + 1) ≠ []) := Lib.hid (by rw [take_at hoq]; simp)
        obtain ⟨⟨ky, d⟩, hoo⟩ : ∃ o, L1.getD q o0 = o := ⟨_, rfl⟩
        rw [hoo] at c0 c1 c2 c3 hok hgu hga hnl hd0 HLT
        have HOO := Lib.hid hoo
        clear hoo
        dsimp only at hok hgu hga hnl hd0 HLT
        have hng : IntKind.i64.wrap (-d) = -d := by
         have h1 := hok.2
         unfold In64 at h1
         simp only at h1
         unfold IntKind.wrap; simp [IntKind.signed, IntKind.bits]; omega
        have HOK := Lib.hid hok
        have HGU := Lib.hid hgu
        have HGA := Lib.hid hga
        have HND : Hid (In64 (-d)) := Lib.hid (by have h1 := hok.2; unfold In64 at h1 ⊢; simp only at h1; omega)
        have HJO : Hid (JOk [stU dd (L1.take (q + 1)) at_ s]) := Lib.hid (u_jok (HTK.out (q + 1)) (Nat.le_trans (HTL.out (q + 1)) (by omega)) HA.out (by have := HS.out; have := HMQ.out.2; omega))
        have HNL := Lib.hid (And.intro hnl hd0)
        clear hok hgu hga hnl hd0 hoq
        have HC0 := Lib.hid c0
        have HC1 := Lib.hid c1
        have HC2 := Lib.hid c2
        have HC3 := Lib.hid c3
        have HBLK : Hid (∀ w', Below W.heap.size W w' → w'.cell? ⟨b, off + q * 4, none⟩ = some (.int .u8 ky.1) ∧ w'.cell? ⟨b, off + q * 4 + 1, none⟩ = some (.int .u8 ky.2.1) ∧ w'.cell? ⟨b, off + q * 4 + 2, none⟩ = some (.int .u8 ky.2.2) ∧ w'.cell? ⟨b, off + q * 4 + 3, none⟩ = some (.int .i64 d)) := Lib.hid fun w' hb => by
         obtain ⟨b2, off2, hp2, _, g0, g1, g2, g3⟩ := op_cells (HL.out.later hb) hqj
         cases hp2
         rw [HOO.out] at g0 g1 g2 g3
         exact ⟨g0, g1, g2, g3⟩
        go_wp2_with fail
        clear c0 c1 c2 c3
        refine (Jn.get HI.out HJ.out HJO.out 5 (by omega)).mono ?_
        rintro e6 w6 ⟨t, rfl, htc, htm, hb6, hj6⟩
        rw [u_get] at htc
        simp only [u_get, Option.isSome_some, Option.getD_some] at htc ⊢
        have HTN : Hid (t.n ≤ 100) := Lib.hid (by rw [← htm.len, htc]; exact Nat.le_trans (HTL.out (q + 1)) (by omega))
        have hbn : Below w6.heap.size w6 (w6.alloc (.cells #[.int .u32 t.c.id, .int .u32 t.c.sg, .int .u8 t.c.st, .bool t.c.cp, .bool t.c.dd, .slice t.p t.n t.m, .int .i64 t.c.fs, .int .i64 t.c.sz] 31)) := (Below.refl _ _).alloc (Nat.le_refl _) _
        have HLA := Lib.hid (HI.out.last (w6.alloc (.cells #[.int .u32 t.c.id, .int .u32 t.c.sg, .int .u8 t.c.st, .bool t.c.cp, .bool t.c.dd, .slice t.p t.n t.m, .int .i64 t.c.fs, .int .i64 t.c.sz] 31)) t (htm.later hbn) (by rw [htc]; exact HTK.out (q + 1)) HTN.out)
        rw [show lastC t.c = ((ky, -d), true) by rw [htc]; exact HLT.out] at HLA
        dsimp only at HLA
        have HTB := Lib.hid (alloc_block w6 (.cells #[.int .u32 t.c.id, .int .u32 t.c.sg, .int .u8 t.c.st, .bool t.c.cp, .bool t.c.dd, .slice t.p t.n t.m, .int .i64 t.c.fs, .int .i64 t.c.sz] 31))
        have HJ6 := Lib.hid (hj6.later HI.out hbn)
        clear htc htm hb6 hj6 hbn HJ
        go_upto_region 16 with (fail)
        generalize w6.alloc (.cells #[.int .u32 t.c.id, .int .u32 t.c.sg, .int .u8 t.c.st, .bool t.c.cp, .bool t.c.dd, .slice t.p t.n t.m, .int .i64 t.c.fs, .int .i64 t.c.sz] 31) = W6 at *
        generalize w6.heap.size = TB at *
        obtain ⟨y0, y1, y2, y3, y4, y5, y6, y7⟩ := txv_cells HTB.out
        go_wp2_with fail
        clear y0 y1 y2 y3 y4 y5 y6 y7
        refine HLA.out.mono ?_
        rintro e7 w7 ⟨rfl, hb7⟩
        have HJZ := Lib.hid ((HJ6.out.later HI.out hb7).box HI.out #[.int .u8 ky.1, .int .u8 ky.2.1, .int .u8 ky.2.2, .int .i64 (-d)] 39)
        clear hb7 HLA HTB HJ6
        go_upto_region 17 with (fail)
        generalize w7.alloc (.cells #[.int .u8 ky.1, .int .u8 ky.2.1, .int .u8 ky.2.2, .int .i64 (-d)] 39) = W7 at *
        generalize w7.heap.size = Z at *
        have HZD : Hid (JnZ Ju W W7.drew B [stU dd (L1.take (q + 1)) at_ s] Z (.cells #[.int .u8 ky.1, .int .u8 ky.2.1, .int .u8 ky.2.2, .int .i64 (-d)] 39 (0, 0))) := Lib.hid (by
         obtain ⟨Q7, g1, g2, g3, g4, g5⟩ := HJZ.out
         exact ⟨Q7, HI.out.later g1 (Below.refl _ _).drew, g2, g3.drew, g4, g5⟩)
        have HCK := Lib.hid (JnZ.apply HI.out HW.out HZD.out HJO.out at_ HA.out 7 0 5 (0, 0, 0) 0 (by omega) (by omega) (by omega) ⟨by decide, by decide, by decide⟩ (by unfold In64; omega) (u_keep dd HNE.out at_ s at_))
        obtain ⟨c0, c1, c2, c3⟩ := HBLK.out W7 HJZ.out.jn.below
        obtain ⟨z0, z1, z2, z3⟩ := ov_cells HJZ.out.box
        have qn := fun W => key_neq ky.1 ky.2.1 ky.2.2 ky.1 ky.2.1 ky.2.2 W
        rw [decide_eq_true (show ((ky.1, ky.2.1, ky.2.2) : K) = (ky.1, ky.2.1, ky.2.2) from rfl)] at qn
        have qd : ((-d) != (-d)) = false := by simp
        go_wp2_with fail
        go_still_tail 31, (by kernel_rfl)
        repeat still_step
        change wpList _ _ _ _ _ W7.drew
        clear c0 c1 c2 c3 z0 z1 z2 z3
        go_wp2_with fail
        refine HCK.out.mono ?_
        rintro e8 w8 ⟨rfl, hj8⟩
        have HJ8 := Lib.hid hj8
        clear hj8 HCK HZD HJZ
        obtain ⟨z0, z1, z2, z3⟩ := ov_cells HJ8.out.box
        have HCU := Lib.hid (JnZ.apply HI.out HW.out HJ8.out HJO.out at_ HA.out 6 0 5 ky (-d) (by omega) (by omega) (by omega) HOK.out.1 HND.out (u_undo HGU.out HLT.out at_))
        rw [HDT.out] at HCU
        have HSZ := Lib.hid (size_few HGU.out)
        generalize sizeX (xl 6 0 5 ky (-d)) = sx at *
        go_wp2_with fail
        clear z0 z1 z2 z3
        refine HCU.out.mono ?_
        rintro e9 w9 ⟨rfl, hj9⟩
        have HJ9 := Lib.hid hj9
        have HJO9 : Hid (JOk [stU true (L1.take q) at_ (s + sx)]) := Lib.hid (u_jok (HTK.out q) (Nat.le_trans (HTL.out q) (by omega)) HA.out (by have h1 := HS.out; have h2 := HSZ.out; have := HMQ.out.2; omega))
        clear hj9 HCU HJ8
        obtain ⟨z0, z1, z2, z3⟩ := ov_cells HJ9.out.box
        have HCA := Lib.hid (JnZ.apply HI.out HW.out HJ9.out HJO9.out at_ HA.out 3 0 5 ky 1 (by omega) (by omega) (by omega) HOK.out.1 (by unfold In64; omega) (u_dead HGA.out (L1.take q) at_ (s + sx) at_))
        go_wp2_with fail
        clear z0 z1 z2 z3
        refine HCA.out.mono ?_
        rintro e10 w10 ⟨rfl, hj10⟩
        have HJ10 := Lib.hid hj10
        clear hj10 HCA HJ9
        have HCC := Lib.hid (JnZ.apply HI.out HW.out HJ10.out HJO9.out at_ HA.out 4 0 5 (0, 0, 0) 0 (by omega) (by omega) (by omega) ⟨by decide, by decide, by decide⟩ (by unfold In64; omega) (u_commit (L1.take q) at_ (s + sx) at_))
        go_wp2_with fail
        refine HCC.out.mono ?_
        rintro e11 w11 ⟨rfl, hj11⟩
        have HJ11 := Lib.hid hj11.jn
        clear hj11 HCC HJ10
        have hwq : IntKind.i64.wrap ((q : Int) - 1) = (q : Int) - 1 := by
         unfold IntKind.wrap; simp [IntKind.signed, IntKind.bits]; omega
        go_wp2_with fail
        go_roundw
        case rel => exact ⟨q, _, true, s + sx, by omega, rfl, Lib.hid (by first | rfl | omega), HJ11, Lib.hid (by have h1 := HS.out; have h2 := HSZ.out; omega)⟩
        case measure =>
         simp [Go.RowKit.intOf]
end Go.Proofs.YtccgjdmbongbaaaDoor
