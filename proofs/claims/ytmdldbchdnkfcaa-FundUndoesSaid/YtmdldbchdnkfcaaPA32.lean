import Derived.Test.YtmdldbchdnkfcaaPA31
namespace Go.Proofs.Ytmdldbchdnkfcaa
open Go.RowKit Go.ChangeShapes Go.WideShapes Go.Deep
set_option linter.unusedVariables false
set_option linter.unusedSimpArgs false
set_option maxRecDepth 10000
abbrev FA := Int × O
abbrev fa0 : FA := (0, o0)
def fac (x : FA) : List Value := [.int .u8 x.1, .int .u8 x.2.1.1, .int .u8 x.2.1.2.1, .int .u8 x.2.1.2.2, .int .i64 x.2.2]
abbrev FAL (w : World) (p : Option Addr) (n c : Nat) (L : List FA) : Prop := SlG fac 5 fa0 w p n c L
def FAok (x : FA) : Prop := (0 ≤ x.1 ∧ x.1 ≤ 255) ∧ Ook x.2
theorem facells {w : World} {p : Option Addr} {n c : Nat} {L : List FA} (h : FAL w p n c L) {j : Nat} (hj : j < n) : ∃ b off, p = some ⟨b, off, none⟩ ∧ b < w.heap.size ∧ w.cell? ⟨b, off + j * 5, none⟩ = some (.int .u8 (L.getD j fa0).1) ∧ w.cell? ⟨b, off + j * 5 + 1, none⟩ = some (.int .u8 (L.getD j fa0).2.1.1) ∧ w.cell? ⟨b, off + j * 5 + 2, none⟩ = some (.int .u8 (L.getD j fa0).2.1.2.1) ∧ w.cell? ⟨b, off + j * 5 + 3, none⟩ = some (.int .u8 (L.getD j fa0).2.1.2.2) ∧ w.cell? ⟨b, off + j * 5 + 4, none⟩ = some (.int .i64 (L.getD j fa0).2.2) := by
 obtain ⟨b, off, rfl, hlt, hc⟩ := h.cell (by omega)
 exact ⟨b, off, rfl, hlt, hc j hj 0 _ rfl, hc j hj 1 _ rfl, hc j hj 2 _ rfl, hc j hj 3 _ rfl, hc j hj 4 _ rfl⟩
theorem factCells : Try.prog.cellsOf 36 = 5 := by kernel_rfl
section
variable {H : Type} {enc : TypeId × Value → H} {w : World} {base : Nat} {spare : Nat → Bool} {held : Bool}
theorem fd_trod {fuel : Nat} {cs : List Value} {d : DataW H × List MemPlace} (h : DataW.trod enc Try.prog w base spare held fuel 63 cs = some d) : ∃ x : FD, FDok x ∧ cs = fdc x := by
 obtain ⟨_, _, _, _, hlen, _, _⟩ := DataW.trod_struct Try.underlying63 h
 rw [fdeclCells6] at hlen
 obtain ⟨y0, y1, y2, y3, n, _, _, t0, t1, t2, t3⟩ := Go.Joins.trod_struct4 Try.underlying63 h
 obtain ⟨v0, v1, v2, v3, v4, v5, rfl⟩ : ∃ v0 v1 v2 v3 v4 v5, cs = [v0, v1, v2, v3, v4, v5] := by
  match cs, hlen with
  | [a, b, c, d, e, f], _ => exact ⟨a, b, c, d, e, f, rfl⟩
 simp only [fkeyCells3, flongCells1, List.drop_zero, List.drop_succ_cons, List.take_succ_cons, List.take_zero] at t0 t1 t2 t3
 obtain ⟨k, hk, rfl, rfl, rfl⟩ := key_trod t0
 obtain ⟨z3, hv3, _, wf3⟩ := DataW.trod_int Try.underlying2 t1
 obtain ⟨z4, hv4, _, wf4⟩ := DataW.trod_int Try.underlying2 t2
 obtain ⟨z5, hv5, _, wf5⟩ := DataW.trod_int Try.underlying2 t3
 simp at hv3 hv4 hv5
 subst hv3 hv4 hv5
 exact ⟨(k, z3, z4, z5), ⟨hk, i64_wf wf3, i64_wf wf4, i64_wf wf5⟩, rfl⟩
theorem fa_trod {fuel : Nat} {cs : List Value} {d : DataW H × List MemPlace} (h : DataW.trod enc Try.prog w base spare held fuel 36 cs = some d) : ∃ x : FA, FAok x ∧ cs = fac x := by
 obtain ⟨_, _, _, _, hlen, _, _⟩ := DataW.trod_struct Try.underlying36 h
 rw [factCells] at hlen
 obtain ⟨y0, y1, n, _, _, t0, t1⟩ := trod_struct2 Try.underlying36 h
 obtain ⟨v0, v1, v2, v3, v4, rfl⟩ : ∃ v0 v1 v2 v3 v4, cs = [v0, v1, v2, v3, v4] := by
  match cs, hlen with
  | [a, b, c, d, e], _ => exact ⟨a, b, c, d, e, rfl⟩
 simp only [opCells, fbyteCells1, List.drop_zero, List.drop_succ_cons, List.take_succ_cons, List.take_zero] at t0 t1
 obtain ⟨z0, hv0, _, wf0⟩ := DataW.trod_int Try.underlying5 t0
 obtain ⟨o, ho, hoc⟩ := op_trod t1
 simp at hv0
 subst hv0
 exact ⟨(z0, o), ⟨bounds_u8 wf0, ho⟩, by rw [hoc]; rfl⟩
theorem open_fdecls {fuel : Nat} {a : Option Addr} {len cap : Nat} {x : DataW H × List MemPlace}
 (h : DataW.trod enc Try.prog w base (fun _ => true) held fuel 22 [.slice a len cap] = some x) : ∃ L, FDL w a len cap L ∧ ∀ y ∈ L, FDok y := by
 rcases open_slice Try.underlying22 h with ⟨hcs, _⟩ | ⟨a', l, c, m, n, D', Pl, hcs, hb, hl, hm, hmm, hx, hi⟩
 · simp at hcs
   obtain ⟨rfl, rfl, rfl⟩ := hcs
   exact ⟨[], SlG.empty w, fun y hy => by cases hy⟩
 · simp at hcs
   obtain ⟨rfl, rfl, rfl⟩ := hcs
   rw [if_pos rfl] at hmm
   subst hmm
   have hall : ∀ i, i < len → ∃ y : FD, FDok y ∧ ∀ j u, (fdc y)[j]? = some u → w.cell? (a'.add (i * 6 + j)) = some u := by
    intro i hil
    obtain ⟨cs', hc, ht⟩ := hi i (by omega)
    rw [fdeclCells6] at hc
    obtain ⟨y, hy, rfl⟩ := fd_trod ht
    obtain ⟨_, hcl, hat⟩ := World.cells?_some hc
    refine ⟨y, hy, fun j u hu => ?_⟩
    have hj : j < 6 := (List.getElem?_eq_some_iff.1 hu).1
    have := hat j hj
    rw [← Go.Deep.add_add, this]
    exact hu
   obtain ⟨f, hf⟩ : ∃ f : Nat → FD, ∀ i, i < len → FDok (f i) ∧ ∀ j u, (fdc (f i))[j]? = some u → w.cell? (a'.add (i * 6 + j)) = some u :=
    ⟨fun i => if h : i < len then Classical.choose (hall i h) else fd0, fun i h => by dsimp only; rw [dif_pos h]; exact Classical.choose_spec (hall i h)⟩
   refine ⟨(List.range len).map f, ⟨by simp, hl, hm, (fun h => by cases h), fun h0 => ?_⟩, fun y hy => ?_⟩
   · have h00 := (hf 0 h0).2 0 _ rfl
     have hsp : a'.spot = none := World.cell?_spot (a := a') (by simpa [Addr.add] using h00)
     obtain ⟨b, off, sp⟩ := a'
     replace hsp : sp = none := hsp
     subst hsp
     rw [Go.WideShapes.add_plain] at h00
     refine ⟨b, off, rfl, World.block_lt_of_cell? _ _ h00, fun j hj i v hv => ?_⟩
     have e : ((List.range len).map f).getD j fd0 = f j := by
      rw [List.getD, List.getElem?_map, List.getElem?_range hj]; rfl
     rw [e] at hv
     have := (hf j hj).2 i v hv
     rwa [Go.WideShapes.add_plain, ← Nat.add_assoc] at this
   · obtain ⟨i, hi', rfl⟩ := List.mem_map.1 hy
     exact (hf i (List.mem_range.1 hi')).1
theorem open_facts {fuel : Nat} {a : Option Addr} {len cap : Nat} {x : DataW H × List MemPlace}
 (h : DataW.trod enc Try.prog w base (fun _ => true) held fuel 23 [.slice a len cap] = some x) : ∃ L, FAL w a len cap L ∧ ∀ y ∈ L, FAok y := by
 rcases open_slice Try.underlying23 h with ⟨hcs, _⟩ | ⟨a', l, c, m, n, D', Pl, hcs, hb, hl, hm, hmm, hx, hi⟩
 · simp at hcs
   obtain ⟨rfl, rfl, rfl⟩ := hcs
   exact ⟨[], SlG.empty w, fun y hy => by cases hy⟩
 · simp at hcs
   obtain ⟨rfl, rfl, rfl⟩ := hcs
   rw [if_pos rfl] at hmm
   subst hmm
   have hall : ∀ i, i < len → ∃ y : FA, FAok y ∧ ∀ j u, (fac y)[j]? = some u → w.cell? (a'.add (i * 5 + j)) = some u := by
    intro i hil
    obtain ⟨cs', hc, ht⟩ := hi i (by omega)
    rw [factCells] at hc
    obtain ⟨y, hy, rfl⟩ := fa_trod ht
    obtain ⟨_, hcl, hat⟩ := World.cells?_some hc
    refine ⟨y, hy, fun j u hu => ?_⟩
    have hj : j < 5 := (List.getElem?_eq_some_iff.1 hu).1
    have := hat j hj
    rw [← Go.Deep.add_add, this]
    exact hu
   obtain ⟨f, hf⟩ : ∃ f : Nat → FA, ∀ i, i < len → FAok (f i) ∧ ∀ j u, (fac (f i))[j]? = some u → w.cell? (a'.add (i * 5 + j)) = some u :=
    ⟨fun i => if h : i < len then Classical.choose (hall i h) else fa0, fun i h => by dsimp only; rw [dif_pos h]; exact Classical.choose_spec (hall i h)⟩
   refine ⟨(List.range len).map f, ⟨by simp, hl, hm, (fun h => by cases h), fun h0 => ?_⟩, fun y hy => ?_⟩
   · have h00 := (hf 0 h0).2 0 _ rfl
     have hsp : a'.spot = none := World.cell?_spot (a := a') (by simpa [Addr.add] using h00)
     obtain ⟨b, off, sp⟩ := a'
     replace hsp : sp = none := hsp
     subst hsp
     rw [Go.WideShapes.add_plain] at h00
     refine ⟨b, off, rfl, World.block_lt_of_cell? _ _ h00, fun j hj i v hv => ?_⟩
     have e : ((List.range len).map f).getD j fa0 = f j := by
      rw [List.getD, List.getElem?_map, List.getElem?_range hj]; rfl
     rw [e] at hv
     have := (hf j hj).2 i v hv
     rwa [Go.WideShapes.add_plain, ← Nat.add_assoc] at this
   · obtain ⟨i, hi', rfl⟩ := List.mem_map.1 hy
     exact (hf i (List.mem_range.1 hi')).1
end
end Go.Proofs.Ytmdldbchdnkfcaa
namespace Go.Proofs.Ytmdldbchdnkfcaa
set_option linter.unusedVariables false
set_option maxRecDepth 10000
structure FOk (M : List FW) : Prop where
 up : Up (keysG M)
 kok : ∀ r ∈ M, Kok r.1
 fok : ∀ r ∈ M, Fok r.2
theorem FOk.nil : FOk [] := ⟨List.Pairwise.nil, (fun r h => by cases h), (fun r h => by cases h)⟩
theorem FOk.put {M : List FW} (h : FOk M) {k : K} {f : Fv} (hk : Kok k) (hf : Fok f) : FOk (putG M k f) := by
 refine ⟨g_up_put k f h.up, fun r hr => ?_, fun r hr => ?_⟩
 · rcases g_mem_putM hr with rfl | hr
   · exact hk
   · exact h.kok r hr
 · rcases g_mem_putM hr with rfl | hr
   · exact hf
   · exact h.fok r hr
theorem FOk.new : ∀ (L : List FD) (S : List FW), (∀ x ∈ L, FDok x) → FOk S → FOk (L.foldl fnewOne S)
 | [], S, _, h => h
 | x :: L, S, hx, h => by
  rw [List.foldl_cons]
  refine FOk.new L _ (fun y hy => hx y (List.mem_cons_of_mem _ hy)) ?_
  obtain ⟨h1, h2, h3, h4⟩ := hx x (List.mem_cons_self ..)
  unfold fnewOne
  split
  · exact h.put h1 ⟨h2, h4, h3, h3, h3, h3⟩
  · exact h
theorem FOk.newL {L : List FD} (hx : ∀ x ∈ L, FDok x) : FOk (fnewL L) := FOk.new L [] hx FOk.nil
theorem doF_fok {c d : Int} {f : Fv} (hf : Fok f) : Fok (doF c f d) := by
 unfold doF
 split
 · exact grantF_fok' hf
 · exact moveF_fok' hf
theorem FOk.doL {M : List FW} (h : FOk M) (c : Int) (k : K) (d : Int) (hk : Kok k) : FOk (fdoL c M k d) := by
 cases hg : getG M k with
 | none => rw [(fdoL_none hg).1]; exact h
 | some f =>
  rw [(fdoL_some hg).1]
  split
  · exact h.put hk (doF_fok (h.fok _ (g_get_some_mem hg)))
  · exact h
theorem FOk.setL {M : List FW} (h : FOk M) {k : K} {f : Fv} (hk : Kok k) (hf : Fok f) : FOk (fsetL M k f) := by
 unfold fsetL
 split
 · exact h.put hk hf
 · exact h
theorem keys_put_same {M : List FW} (hu : Up (keysG M)) {k : K} {f g : Fv} (hg : getG M k = some f) : keysG (putG M k g) = keysG M := by
 rw [g_keys_put]
 refine up_one _ _ (ins_up k _ hu) hu fun x => ?_
 rw [ins_mem]
 constructor
 · rintro (rfl | hx)
   · exact (g_get_isSome x M).1 (by rw [hg]; rfl)
   · exact hx
 · exact .inr
theorem fdoL_keys {M : List FW} (hu : Up (keysG M)) (c : Int) (k : K) (d : Int) : keysG (fdoL c M k d) = keysG M := by
 cases hg : getG M k with
 | none => rw [(fdoL_none hg).1]
 | some f =>
  rw [(fdoL_some hg).1]
  split
  · exact keys_put_same hu hg
  · rfl
theorem fdoL_length {M : List FW} (hu : Up (keysG M)) (c : Int) (k : K) (d : Int) : (fdoL c M k d).length = M.length := by
 rw [← g_len_keys, fdoL_keys hu, g_len_keys]
theorem fsetL_length {M : List FW} (hu : Up (keysG M)) (k : K) (f : Fv) : (fsetL M k f).length = M.length := by
 unfold fsetL
 split
 · rename_i h
   obtain ⟨v, hv⟩ := Option.isSome_iff_exists.1 h.1
   rw [← g_len_keys, keys_put_same hu hv, g_len_keys]
 · rfl
theorem rows_ext : ∀ {M N : List FW}, Up (keysG M) → keysG M = keysG N → (∀ k ∈ keysG M, getG M k = getG N k) → M = N
 | [], [], _, _, _ => rfl
 | [], _ :: _, _, h, _ => by cases h
 | _ :: _, [], _, h, _ => by cases h
 | r :: M, s :: N, hu, hk, hg => by
  have e1 : r.1 = s.1 := (List.cons.inj hk).1
  have e2 : keysG M = keysG N := (List.cons.inj hk).2
  obtain ⟨u1, u2⟩ := List.pairwise_cons.1 hu
  have h0 := hg r.1 (List.mem_cons_self ..)
  rw [g_get_cons, g_get_cons, if_pos rfl, if_pos e1.symm] at h0
  have e3 : r.2 = s.2 := Option.some.inj h0
  have e4 : r = s := Prod.ext e1 e3
  subst e4
  rw [rows_ext u2 e2 fun k hk' => ?_]
  have hne : r.1 ≠ k := fun e => by
   have := u1 k hk'
   rw [← e, less_irrefl] at this
   cases this
  have := hg k (List.mem_cons_of_mem _ hk')
  rw [g_get_cons, g_get_cons, if_neg hne, if_neg hne] at this
  exact this
theorem negs_app (A B : List Int) : negs (A ++ B) = negs A + negs B := by
 induction A with
 | nil => show negs B = 0 + negs B; omega
 | cons x A ih => rw [List.cons_append, negs, negs, ih]; omega
theorem poss_app (A B : List Int) : poss (A ++ B) = poss A + poss B := by
 induction A with
 | nil => show poss B = 0 + poss B; omega
 | cons x A ih => rw [List.cons_append, poss, poss, ih]; omega
theorem suml_app (A B : List Int) : suml (A ++ B) = suml A + suml B := by
 induction A with
 | nil => show suml B = 0 + suml B; omega
 | cons x A ih => rw [List.cons_append, suml, suml, ih]; omega
theorem Opn.front {lo hi w : Int} {A B : List Int} {d : Int} {f : Fv} (h : Opn lo hi w (A ++ d :: B) f) : Opn lo hi w (d :: (A ++ B)) f := by
 have e1 : negs (A ++ d :: B) = negs (d :: (A ++ B)) := by rw [negs_app, negs, negs, negs_app]; omega
 have e2 : poss (A ++ d :: B) = poss (d :: (A ++ B)) := by rw [poss_app, poss, poss, poss_app]; omega
 have e3 : suml (A ++ d :: B) = suml (d :: (A ++ B)) := by rw [suml_app, suml, suml, suml_app]; omega
 exact ⟨h.elo, h.ehi, h.eba, by rw [← e1]; exact h.einf, by rw [← e2]; exact h.esup, by rw [← e3]; exact h.eva, by rw [← e1]; exact h.low, by rw [← e2]; exact h.top, fun x hx => h.el x (by
  rcases List.mem_cons.1 hx with rfl | hx
  · exact List.mem_append.2 (.inr (List.mem_cons_self ..))
  · rcases List.mem_append.1 hx with hx | hx
    · exact List.mem_append.2 (.inl hx)
    · exact List.mem_append.2 (.inr (List.mem_cons_of_mem _ hx)))⟩
structure Fo (M0 M : List FW) (G : List O) : Prop where
 keys : keysG M = keysG M0
 fresh : ∀ k f, getG M0 k = some f → f = ⟨f.lo, f.hi, f.ba, f.ba, f.ba, f.ba⟩ ∧ I64 f.lo ∧ I64 f.hi
 each : ∀ k f0, getG M0 k = some f0 → ∃ f, getG M k = some f ∧ Opn f0.lo f0.hi f0.ba (dsL G k) f
 here : ∀ x ∈ G, ∃ f, getG M0 x.1 = some f
theorem Fo.start {M0 : List FW} (h : ∀ k f, getG M0 k = some f → f = ⟨f.lo, f.hi, f.ba, f.ba, f.ba, f.ba⟩ ∧ I64 f.lo ∧ I64 f.hi ∧ f.lo ≤ f.ba ∧ f.ba ≤ f.hi) : Fo M0 M0 [] := by
 refine ⟨rfl, fun k f hg => ⟨(h k f hg).1, (h k f hg).2.1, (h k f hg).2.2.1⟩, fun k f0 hg => ⟨f0, hg, ?_⟩, fun x hx => by cases hx⟩
 obtain ⟨e, _, _, h1, h2⟩ := h k f0 hg
 have := Opn.start h1 h2
 rw [← e] at this
 exact this
theorem get_isSome_keys {M N : List FW} (h : keysG M = keysG N) (k : K) : (getG M k).isSome = (getG N k).isSome := by
 rw [Bool.eq_iff_iff, g_get_isSome, g_get_isSome, h]
theorem Fo.grant {M0 M : List FW} {G : List O} (h : Fo M0 M G) (hu : Up (keysG M)) {k : K} {d : Int} (hz : fdoE 0 M k d = 0) : Fo M0 (fdoL 0 M k d) (G ++ [(k, d)]) := by
 cases hg : getG M k with
 | none => rw [(fdoL_none hg).2] at hz; omega
 | some f =>
  rw [(fdoL_some hg).2, (doF_zero f d).2] at hz
  have hL := (fdoL_some (c := 0) (d := d) hg).1
  rw [(doF_zero f d).1, (doF_zero f d).2, if_pos hz, grantF_ok hz] at hL
  have hs : (getG M0 k).isSome = true := by rw [← get_isSome_keys h.keys, hg]; rfl
  obtain ⟨f0, hf0⟩ := Option.isSome_iff_exists.1 hs
  refine ⟨by rw [fdoL_keys hu]; exact h.keys, h.fresh, fun j g0 hj => ?_, fun x hx => ?_⟩
  · obtain ⟨g, hg', ho⟩ := h.each j g0 hj
    rw [hL, g_get_put, dsL_append, dsL_one]
    by_cases e : j = k
    · subst e
      rw [if_pos rfl, if_pos rfl]
      obtain rfl : g = f := by rw [hg] at hg'; exact (Option.some.inj hg').symm
      exact ⟨_, rfl, ho.grant hz⟩
    · rw [if_neg e, if_neg (fun e' => e e'.symm), List.append_nil]
      exact ⟨g, hg', ho⟩
  · rcases List.mem_append.1 hx with hx | hx
    · exact h.here x hx
    · rw [List.mem_singleton.1 hx]; exact ⟨f0, hf0⟩
theorem dsL_mid (A B : List O) (k : K) (d : Int) (j : K) : dsL (A ++ (k, d) :: B) j = dsL A j ++ ((if k = j then [d] else []) ++ dsL B j) := by
 have e : A ++ (k, d) :: B = A ++ ([(k, d)] ++ B) := rfl
 rw [e, dsL_append, dsL_append, dsL_one]
theorem Fo.undo {M0 M : List FW} {A B : List O} {k : K} {d : Int} (h : Fo M0 M (A ++ (k, d) :: B)) (hu : Up (keysG M)) : fdoE 1 M k d = 0 ∧ Fo M0 (fdoL 1 M k d) (A ++ B) := by
 obtain ⟨f0, hf0⟩ := h.here (k, d) (List.mem_append.2 (.inr (List.mem_cons_self ..)))
 obtain ⟨f, hg, ho⟩ := h.each k f0 hf0
 obtain ⟨_, hl, hh⟩ := h.fresh k f0 hf0
 rw [dsL_mid, if_pos rfl] at ho
 have hq := (Opn.front (A := dsL A k) (B := dsL B k) ho).undo hl hh
 have he : doE 1 f d = 0 := hq.1
 have hd : doF 1 f d = undoF f d := rfl
 have hL := (fdoL_some (c := 1) (d := d) hg).1
 rw [if_pos he, hd] at hL
 refine ⟨by rw [(fdoL_some hg).2]; exact he, by rw [fdoL_keys hu]; exact h.keys, h.fresh, fun j g0 hj => ?_, fun x hx => ?_⟩
 · obtain ⟨g, hg', hog⟩ := h.each j g0 hj
   rw [hL, g_get_put]
   by_cases e : j = k
   · subst e
     rw [if_pos rfl]
     obtain rfl : g0 = f0 := by rw [hf0] at hj; exact (Option.some.inj hj).symm
     exact ⟨_, rfl, by rw [dsL_append]; exact hq.2⟩
   · rw [if_neg e]
     rw [dsL_mid, if_neg (fun e' => e e'.symm), List.nil_append] at hog
     exact ⟨g, hg', by rw [dsL_append]; exact hog⟩
 · refine h.here x ?_
   rcases List.mem_append.1 hx with hx | hx
   · exact List.mem_append.2 (.inl hx)
   · exact List.mem_append.2 (.inr (List.mem_cons_of_mem _ hx))
theorem Fo.over {M0 M : List FW} (h : Fo M0 M []) (hu : Up (keysG M)) : M = M0 := by
 refine rows_ext hu h.keys fun k hk => ?_
 have hs : (getG M0 k).isSome = true := (g_get_isSome k M0).2 (by rw [← h.keys]; exact hk)
 obtain ⟨f0, hf0⟩ := Option.isSome_iff_exists.1 hs
 obtain ⟨f, hf, ho⟩ := h.each k f0 hf0
 obtain ⟨e, _, _⟩ := h.fresh k f0 hf0
 have ho' : Opn f0.lo f0.hi f0.ba [] f := ho
 rw [hf, hf0, ho'.over, ← e]
theorem new_fresh : ∀ (L : List FD) (S : List FW), (∀ x ∈ L, FDok x) → (∀ k f, getG S k = some f → f = ⟨f.lo, f.hi, f.ba, f.ba, f.ba, f.ba⟩ ∧ I64 f.lo ∧ I64 f.hi ∧ f.lo ≤ f.ba ∧ f.ba ≤ f.hi) → ∀ k f, getG (L.foldl fnewOne S) k = some f → f = ⟨f.lo, f.hi, f.ba, f.ba, f.ba, f.ba⟩ ∧ I64 f.lo ∧ I64 f.hi ∧ f.lo ≤ f.ba ∧ f.ba ≤ f.hi
 | [], S, _, h => h
 | x :: L, S, hx, h => by
  rw [List.foldl_cons]
  refine new_fresh L _ (fun y hy => hx y (List.mem_cons_of_mem _ hy)) ?_
  obtain ⟨h1, h2, h3, h4⟩ := hx x (List.mem_cons_self ..)
  unfold fnewOne
  split
  · rename_i hb
    intro k f hf
    rw [g_get_put] at hf
    split at hf
    · cases hf
      exact ⟨rfl, h2, h4, hb.1, hb.2⟩
    · exact h k f hf
  · exact h
theorem Fo.new {L : List FD} (hx : ∀ x ∈ L, FDok x) : Fo (fnewL L) (fnewL L) [] := Fo.start (new_fresh L [] hx fun k f h => by rw [g_get_nil] at h; cases h)
end Go.Proofs.Ytmdldbchdnkfcaa
