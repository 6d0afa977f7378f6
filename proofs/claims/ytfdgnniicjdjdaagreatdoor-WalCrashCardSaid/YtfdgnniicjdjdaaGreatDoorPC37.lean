import Derived.Test.YtfdgnniicjdjdaaGreatDoorPC36
namespace Go.Proofs.YtfdgnniicjdjdaaGreatDoor
open Go.RowKit Go.ChangeShapes Go.WideShapes
set_option linter.unusedVariables false
set_option linter.unusedSimpArgs false
set_option maxRecDepth 10000
structure Zw (w : World) (N B : Nat) (S : St) : Prop where
 rd : ∃ p c, Rd w B p c S ∧ ∀ a, p = some a → a.block < N
 low : B < N
 size : N ≤ w.heap.size
 small : S.2.length ≤ 1000
 bytes : ∀ y ∈ S.2, y < 256
theorem Zw.later {w w' : World} {N B : Nat} {S : St} (h : Zw w N B S) (hc : Chg (fun k => N ≤ k) w w') : Zw w' N B S := by
 obtain ⟨p, c, hr, hp⟩ := h.rd
 have hs := h.size
 exact ⟨⟨p, c, hr.chg hc (by have := h.low; omega) (fun a ha => by have := hp a ha; omega), hp⟩, h.low, Nat.le_trans hs hc.size, h.small, h.bytes⟩
theorem Zw.below {w w' : World} {N B : Nat} {S : St} (h : Zw w N B S) (hb : Below w.heap.size w w') : Zw w' N B S := h.later (Chg.of_below hb)
theorem Zw.went {w w' : World} {N B : Nat} {S T : St} {p : Option Addr} {c : Nat} (h : Zw w N B S) (hp : ∀ a, p = some a → a.block < N) (hw : Went w B p T w') (hl : T.2.length ≤ S.2.length) (hb : ∀ y ∈ T.2, y < 256) : Zw w' N B T ∧ Chg (fun k => k = B) w w' := by
 obtain ⟨p', c', h1, h2⟩ := hw.rd
 refine ⟨⟨⟨p', c', h1, fun a ha => ?_⟩, h.low, Nat.le_trans h.size hw.chg.size, Nat.le_trans hl h.small, hb⟩, hw.chg⟩
 obtain ⟨a', e1, e2⟩ := h2 a ha
 rw [e2]
 exact hp a' e1
theorem zw_num {w : World} {N B : Nat} {S : St} (h : Zw w N B S) (size : Int) : Calls Tryz.prog 134 #[.pointer (some ⟨B, 0, none⟩), .int .i64 size] w fun e w' => e = .returned (.int .u64 (((numR S size).2 : Nat) : Int)) ∧ Zw w' N B (numR S size).1 ∧ Chg (fun k => k = B) w w' := by
 obtain ⟨p, c, hr, hp⟩ := h.rd
 refine (num_any B c p S size w hr (by have := h.small; omega)).mono ?_
 rintro e w' ⟨rfl, hw⟩
 obtain ⟨h1, h2⟩ := h.went (c := c) hp hw (numR_less S size) (numR_bytes h.bytes size)
 exact ⟨rfl, h1, h2⟩
theorem zw_int {w : World} {N B : Nat} {S : St} (h : Zw w N B S) : Calls Tryz.prog 138 #[.pointer (some ⟨B, 0, none⟩)] w fun e w' => e = .returned (.int .i64 (sgn (numR S 8).2)) ∧ Zw w' N B (numR S 8).1 ∧ Chg (fun k => k = B) w w' := by
 obtain ⟨p, c, hr, hp⟩ := h.rd
 refine (int_any B c p S w hr (by have := h.small; omega)).mono ?_
 rintro e w' ⟨rfl, hw⟩
 obtain ⟨h1, h2⟩ := h.went (c := c) hp hw (numR_less S 8) (numR_bytes h.bytes 8)
 exact ⟨rfl, h1, h2⟩
theorem bad_2 (e : Int) (S : St) : (bad e S).2 = S.2 := by unfold bad; split <;> rfl
theorem boolR_2 (S : St) : (boolR S).1.2 = (numR S 1).1.2 := by unfold boolR; split; exact bad_2 _ _; rfl
theorem zw_bool {w : World} {N B : Nat} {S : St} (h : Zw w N B S) : Calls Tryz.prog 137 #[.pointer (some ⟨B, 0, none⟩)] w fun e w' => e = .returned (.bool (boolR S).2) ∧ Zw w' N B (boolR S).1 ∧ Chg (fun k => k = B) w w' := by
 obtain ⟨p, c, hr, hp⟩ := h.rd
 refine (bool_any B c p S w hr (by have := h.small; omega)).mono ?_
 rintro e w' ⟨rfl, hw⟩
 obtain ⟨h1, h2⟩ := h.went (c := c) hp hw (by rw [boolR_2]; exact numR_less S 1) (by rw [boolR_2]; exact numR_bytes h.bytes 1)
 exact ⟨rfl, h1, h2⟩
theorem takeR_less (S : St) (n : Nat) : (takeR S n).1.2.length ≤ S.2.length := by
 unfold takeR
 split
 · split
   · exact Nat.le_refl _
   · show (S.2.drop n).length ≤ _
     rw [List.length_drop]; omega
 · exact Nat.le_refl _
theorem takeR_bytes {S : St} (h : ∀ y ∈ S.2, y < 256) (n : Nat) : ∀ y ∈ (takeR S n).1.2, y < 256 := by
 unfold takeR
 split
 · split
   · exact h
   · intro y hy
     exact h y (List.mem_of_mem_drop hy)
 · exact h
theorem bytesR_less (S : St) (most : Int) : (bytesR S most).1.2.length ≤ S.2.length := by
 unfold bytesR
 refine Nat.le_trans (takeR_less _ _) ?_
 split
 · rw [bad_2]; exact numR_less S 2
 · exact numR_less S 2
theorem bytesR_bytes {S : St} (h : ∀ y ∈ S.2, y < 256) (most : Int) : ∀ y ∈ (bytesR S most).1.2, y < 256 := by
 unfold bytesR
 refine takeR_bytes ?_ _
 split
 · rw [bad_2]; exact numR_bytes h 2
 · exact numR_bytes h 2
theorem bytesR_most (S : St) : (bytesR S 512).2.length ≤ 512 := by
 unfold bytesR
 by_cases h : (512 : Int) < ((numR S 2).2 : Int)
 · rw [if_pos h]
   unfold takeR
   rw [if_neg]
   · exact Nat.zero_le _
   · unfold bad
     split
     · show ¬ (7 : Int) = 0
       decide
     · assumption
 · rw [if_neg h]
   have := takeR_len (numR S 2).1 (numR S 2).2
   omega
theorem bytesR_lt {S : St} (h : ∀ y ∈ S.2, y < 256) (most : Int) : ∀ y ∈ (bytesR S most).2, y < 256 := by
 unfold bytesR
 refine takeR_lt _ _ ?_
 split
 · rw [bad_2]; exact numR_bytes h 2
 · exact numR_bytes h 2
theorem zw_bytes {w : World} {N B : Nat} {S : St} (h : Zw w N B S) (most : Int) : Calls Tryz.prog 139 #[.pointer (some ⟨B, 0, none⟩), .int .i64 most] w fun e w' => ∃ p c, e = .returned (.slice p (bytesR S most).2.length c) ∧ Sl w' p (bytesR S most).2.length c (bytesR S most).2 ∧ Zw w' N B (bytesR S most).1 ∧ Chg (fun k => k = B) w w' := by
 obtain ⟨p, c, hr, hp⟩ := h.rd
 refine (bytes_any B c p S most w hr (by have := h.small; omega)).mono ?_
 rintro e w' ⟨v, rfl, hrow, _, hw⟩
 obtain ⟨h1, h2⟩ := h.went (c := c) hp hw (bytesR_less S most) (bytesR_bytes h.bytes most)
 obtain ⟨p', c', rfl, _, hs, _⟩ := hrow.sl
 exact ⟨p', c', rfl, hs, h1, h2⟩
theorem zw_end {w : World} {N B : Nat} {S : St} (h : Zw w N B S) : Calls Tryz.prog 141 #[.pointer (some ⟨B, 0, none⟩)] w fun e w' => e = .returned (.int .i64 (endR S)) ∧ w = w' := by
 obtain ⟨p, c, hr, hp⟩ := h.rd
 exact end_any B c p S w hr (by have := h.small; omega)
theorem zw_err {w : World} {N B : Nat} {S : St} (h : Zw w N B S) : Calls Tryz.prog 136 #[.pointer (some ⟨B, 0, none⟩)] w fun e w' => e = .returned (.int .i64 S.1) ∧ w = w' := by
 obtain ⟨p, c, hr, hp⟩ := h.rd
 exact err_any B S.1 w hr.c0
theorem held_load_rc {a : Act} {w : World} {dst : Option Tmp} {x : Operand} {ty : TypeId} {pos : String} {after : Array Edge} {gd : Option (Nat × Bool)} {B : Nat} {r : Rv} (hx : a.eval x = .pointer (some ⟨B, 0, none⟩)) (hC : RB w B r) :
 (execOp a.eval (Oper.mk dst (.load 51 x) ty pos after gd)).run Tryz.prog w = .ok (.value (.agg (rcs r))) w := by
 unfold execOp
 simp only [hx, Instr.loadAt, Instr.sureAddr, Sem.run_bind, Sem.run_pure, Result.andThen_ok, run_loadVar_row w B 51 51 (rcs r) (0, 0) _ hC Tryz.underlying51 rfl (by kernel_rfl)]
def readE (B : List Nat) : Int := if kOk (((numR (0, B) 1).2 : Nat) : Int) = true then rdE (rdX (((numR (0, B) 1).2 : Nat) : Int) (numR (0, B) 1).1) else if (numR (0, B) 1).1.1 ≠ 0 then (numR (0, B) 1).1.1 else 8
structure Qz (W w : World) (N B R X : Nat) (S : St) (r : Rv) : Prop where
 z : Zw w N B S
 x : RB w X r
 res : RB w R rz
 chg : Chg (fun k => k = B) W w
 ord : N ≤ R ∧ R < X ∧ W.heap.size ≤ R
theorem Qz.low {W w w' : World} {N B R X : Nat} {S S' : St} {r : Rv} (h : Qz W w N B R X S r) (hz : Zw w' N B S') (hc : Chg (fun k => k = B) w w') : Qz W w' N B R X S' r := by
 have ho := h.ord
 have hl := h.z.low
 exact ⟨hz, h.x.chg hc (by omega), h.res.chg hc (by omega), h.chg.trans hc fun _ _ e => e, ho⟩
theorem Qz.later {W w w' : World} {N B R X : Nat} {S : St} {r : Rv} (h : Qz W w N B R X S r) (hb : Below w.heap.size w w') : Qz W w' N B R X S r :=
 ⟨h.z.below hb, h.x.later hb, h.res.later hb, h.chg.trans (Chg.of_below (S := fun k => k = B) hb) fun _ _ e => e, h.ord⟩
theorem Qz.put {W w : World} {N B R X : Nat} {S : St} {r : Rv} (h : Qz W w N B R X S r) (j : Nat) (v : Value) (r' : Rv) (he : (rcs r).setIfInBounds j v = rcs r') : Qz W (w.setCell ⟨X, j, none⟩ v) N B R X S r' := by
 have ho := h.ord
 have hc : Chg (fun k => k = X) w (w.setCell ⟨X, j, none⟩ v) := (Chg.refl _ _).setCell ⟨X, j, none⟩ _ fun _ => rfl
 exact ⟨h.z.later (hc.mono fun k _ hk => by omega), h.x.put j v r' he, h.res.chg hc (by omega), h.chg.trans hc fun k hk e => by omega, ho⟩
theorem Qz.set {W w : World} {N B R X : Nat} {S : St} {r : Rv} (h : Qz W w N B R X S r) (r' : Rv) : Qz W (w.setRow X (rcs r')) N B R X S r' := by
 have ho := h.ord
 have hc : Chg (fun k => k = X) w (w.setRow X (rcs r')) := ⟨rfl, rfl, rfl, by simp [World.setRow], fun k _ hn => setRow_other _ _ _ _ hn⟩
 exact ⟨h.z.later (hc.mono fun k _ hk => by omega), h.x.set r', h.res.chg hc (by omega), h.chg.trans hc fun k hk e => by omega, ho⟩
theorem Qz.cx {W w : World} {N B R X : Nat} {S : St} {r : Rv} (h : Qz W w N B R X S r) {j : Nat} {v : Value} (hj : (rcs r)[j]? = some v) : w.cell? ⟨X, j, none⟩ = some v ∧ w.frozen? ⟨X, j, none⟩ = false := ⟨block_cell h.x hj, block_free j h.x⟩
structure Qp (W w : World) (N B R X Pb : Nat) (C : Array Value) (S : St) (r : Rv) : Prop where
 q : Qz W w N B R X S r
 p : w.heap[Pb]? = some (.cells C 194 (0, 0))
 lt : X < Pb
theorem Qp.low {W w w' : World} {N B R X Pb : Nat} {C : Array Value} {S S' : St} {r : Rv} (h : Qp W w N B R X Pb C S r) (hz : Zw w' N B S') (hc : Chg (fun k => k = B) w w') : Qp W w' N B R X Pb C S' r := by
 have ho := h.q.ord
 have hl := h.q.z.low
 have ht := h.lt
 exact ⟨h.q.low hz hc, (hc.block Pb (block_lt h.p) (by omega)).trans h.p, h.lt⟩
theorem Qp.later {W w w' : World} {N B R X Pb : Nat} {C : Array Value} {S : St} {r : Rv} (h : Qp W w N B R X Pb C S r) (hb : Below w.heap.size w w') : Qp W w' N B R X Pb C S r := ⟨h.q.later hb, block_later h.p hb, h.lt⟩
theorem Qp.put {W w : World} {N B R X Pb : Nat} {C : Array Value} {S : St} {r : Rv} (h : Qp W w N B R X Pb C S r) (j : Nat) (v : Value) (r' : Rv) (he : (rcs r).setIfInBounds j v = rcs r') : Qp W (w.setCell ⟨X, j, none⟩ v) N B R X Pb C S r' :=
 ⟨h.q.put j v r' he, (Below.heap_setCell _ _ _ _ (by have := h.lt; show Pb ≠ X; omega)).trans h.p, h.lt⟩
theorem Qp.set {W w : World} {N B R X Pb : Nat} {C : Array Value} {S : St} {r : Rv} (h : Qp W w N B R X Pb C S r) (r' : Rv) : Qp W (w.setRow X (rcs r')) N B R X Pb C S r' :=
 ⟨h.q.set r', (setRow_other _ _ _ _ (by have := h.lt; omega)).trans h.p, h.lt⟩
theorem Qp.c {W w : World} {N B R X Pb : Nat} {C : Array Value} {S : St} {r : Rv} (h : Qp W w N B R X Pb C S r) {j : Nat} {v : Value} (hj : C[j]? = some v) : w.cell? ⟨Pb, j, none⟩ = some v := block_cell h.p hj
theorem rd_of {Bs : List Nat} {R0 : St × Nat} {kk : Int} {D : Rdd} (h0 : numR (0, Bs) 1 = R0) (hk : ((R0.2 : Nat) : Int) = kk) (ho : kOk kk = true) (hd : rdX kk R0.1 = D) : readE Bs = rdE D ∧ rdX (((numR (0, Bs) 1).2 : Nat) : Int) (numR (0, Bs) 1).1 = D := by
 subst h0 hk
 refine ⟨?_, hd⟩
 unfold readE
 rw [if_pos ho, hd]
theorem rd_bad {Bs : List Nat} {R0 : St × Nat} {kk : Int} (h0 : numR (0, Bs) 1 = R0) (hk : ((R0.2 : Nat) : Int) = kk) (ho : kOk kk = false) : readE Bs = if R0.1.1 ≠ 0 then R0.1.1 else 8 := by
 subst h0 hk
 unfold readE
 rw [if_neg (by rw [ho]; decide)]
abbrev zr : Array Value := #[.int .u8 0, .int .u32 0, .int .u32 0, .int .u8 0, .bool false, .int .u8 0, .int .u8 0, .int .u8 0, .int .i64 0, .int .u8 0, .int .u8 0, .int .u32 0, .int .u8 0, .slice none 0 0, .slice none 0 0, .slice none 0 0, .int .u8 0, .int .u8 0, .int .u8 0, .int .i64 0]
def GivesRd (W : World) (B : Nat) (Bs : List Nat) (e : Ending) (w' : World) : Prop := ∃ r L T M, e = .returned (.tuple #[.agg (rcs r), .int .i64 (readE Bs)]) ∧ RvM w' r L T M ∧ (readE Bs = 0 → r.x L T M = (rdX (((numR (0, Bs) 1).2 : Nat) : Int) (numR (0, Bs) 1).1).rx) ∧ Chg (fun k => k = B) W w' ∧ (∀ a, r.lp = some a → W.heap.size ≤ a.block) ∧ (∀ a, r.tp = some a → W.heap.size ≤ a.block) ∧ (∀ a, r.wp = some a → W.heap.size ≤ a.block)
theorem no_lists {r : Rv} (h : r.lp = none ∧ r.ln = 0 ∧ r.lcp = 0 ∧ r.tp = none ∧ r.tn = 0 ∧ r.tcp = 0 ∧ r.wp = none ∧ r.wn = 0 ∧ r.wcp = 0) (w : World) : RvM w r [] [] [] := by
 obtain ⟨e1, e2, e3, e4, e5, e6, e7, e8, e9⟩ := h
 unfold RvM
 rw [e1, e2, e3, e4, e5, e6, e7, e8, e9]
 exact ⟨SlG.empty _, SlG.empty _, SlG.empty _⟩
set_option maxHeartbeats 8000000 in
theorem rec_write1 (r : Rv) (L : List Ln) (T : List Tk) (M : List Ln) (W : World) (hok : Rxok (r.x L T M)) (hk : r.k = 1) (hw : Words W) (hP : RvM W r L T M) (h1 : r.ln ≤ 400 ∧ r.tn ≤ 400 ∧ r.wn ≤ 400) (hg : goodP 4 4 (r.pg L T M) = true) : Calls Tryz.prog 84 #[.agg (rcs r)] W (GivesB W (bytesX (r.x L T M))) := by
 obtain ⟨W1, hW1, hb1⟩ : ∃ W1, W.alloc (.cells (rcs r) 51) = W1 ∧ Below W.heap.size W W1 := ⟨_, rfl, (Below.refl _ _).alloc (Nat.le_refl _) _⟩
 obtain ⟨B, hB⟩ : ∃ B, W.heap.size = B := ⟨_, rfl⟩
 have hrb := RB.new W r
 rw [hW1, hB] at hrb
 have HX1 := Lib.hid hrb
 have HW1 := Lib.hid hW1
 have HB1 := Lib.hid hb1
 have HRE := Lib.hid hB
 have c0 : W1.cell? ⟨B, 0, none⟩ = some (.int .u8 r.k) := block_cell hrb rfl
 rw [hk] at c0
 clear hW1 hb1 hB hrb
 have HOK := Lib.hid hok
 have u1 := wrap_u64 hok.sg
 have u2 := wrap_u64 hok.tx
 have u3 : IntKind.u64.wrap r.st = r.st := wrap_u64 ⟨hok.st.1, Int.le_trans hok.st.2 (by decide)⟩
 have u4 : IntKind.u64.wrap r.o = r.o := wrap_u64 ⟨hok.o.1, Int.le_trans hok.o.2 (by decide)⟩
 change IntKind.u64.wrap r.sg = r.sg at u1
 change IntKind.u64.wrap r.tx = r.tx at u2
 have hpa := parts_any 1 W1
 unfold GivesPt at hpa
 rw [show ptc 1 = #[.bool true, .bool false, .bool false, .bool false, .bool false, .bool true] from rfl] at hpa
 have HEN := Lib.hid (fun W' (hb : Below W.heap.size W W') => encode_p r.pk r.od r.po r.lp r.ln r.lcp r.tp r.tn r.tcp r.wp r.wn r.wcp r.sk r.fr r.to r.q L T M W' (hw.later hb) (hP.later hb) hok.pg h1)
 have HPF := Lib.hid (pg_few hg)
 have HGG := Lib.hid hg
 clear hw hP h1 hg
 clear hok
 go_enter Tryz.func84, Tryz.ntmps84
 go_upto_region 1 with (fail)
 rw [HW1.out, HRE.out]
 go_wp2_with fail
 refine hpa.mono ?_
 rintro e w2 ⟨rfl, h2⟩
 have HB2 := Lib.hid (HB1.out.trans (h2.mono HB1.out.size))
 have HX2 := Lib.hid (HX1.out.later h2)
 clear h2 hpa c0
 obtain ⟨N2, hN2⟩ : ∃ n, w2.heap.size = n := ⟨_, rfl⟩
 obtain ⟨w3, hwn, hxn, hbn⟩ : ∃ w3, (w2.alloc (.cells pz 194)).setRow N2 #[.bool true, .bool false, .bool false, .bool false, .bool false, .bool true] = w3 ∧ w3.heap[N2]? = some (.cells #[.bool true, .bool false, .bool false, .bool false, .bool false, .bool true] 194 (0, 0)) ∧ Below w2.heap.size w2 w3 := ⟨_, rfl, by rw [← hN2]; exact setRow_heap _ _ _ _ _ _ (alloc_block w2 _), below_setRow ((Below.refl _ _).alloc (Nat.le_refl _) _) (by omega) _⟩
 have hx2 := alloc_block w2 (.cells pz 194)
 rw [hN2] at hx2
 have HPX := Lib.hid hxn
 have HPZ := Lib.hid hx2
 have HBN := Lib.hid hbn
 have HWN := Lib.hid hwn
 have HNN := Lib.hid hN2
 have HS6 : Hid ((#[.bool true, .bool false, .bool false, .bool false, .bool false, .bool true] : Array Value).size = 6) := Lib.hid rfl
 have HA6 : Hid ((#[.bool true, .bool false, .bool false, .bool false, .bool false, .bool true] : Array Value).all (·.oneCell') = true) := Lib.hid (by simp [Value.oneCell'])
 clear hx2 hxn hbn hwn hN2
 have HB3 := Lib.hid (HB2.out.trans (HBN.out.mono HB2.out.size))
 have HX3 := Lib.hid (HX2.out.later HBN.out)
 go_wp2_with ((try rw [HNN.out]); (with_reducible refine wpList_store_pt #[.bool true, .bool false, .bool false, .bool false, .bool false, .bool true] HS6.out HA6.out HPZ.out ?_ ?_ ?_); rfl; rfl; rw [HWN.out])
 refine (new_ok w3 w3 512 (Below.refl _ _)).mono ?_
 rintro e w4 ⟨Bw, rfl, hkk⟩
 rw [show lim 512 = 512 from rfl] at hkk
 have HK4 := Lib.hid hkk
 clear hkk
 have gp := block_later HPX.out HK4.out.below
 have HGX := Lib.hid (HX3.out.later HK4.out.below)
 have p0 : w4.cell? ⟨N2, 0, none⟩ = some (.bool true) := block_cell gp rfl
 have p1 : w4.cell? ⟨N2, 1, none⟩ = some (.bool false) := block_cell gp rfl
 have p2 : w4.cell? ⟨N2, 2, none⟩ = some (.bool false) := block_cell gp rfl
 have p3 : w4.cell? ⟨N2, 3, none⟩ = some (.bool false) := block_cell gp rfl
 have p4 : w4.cell? ⟨N2, 4, none⟩ = some (.bool false) := block_cell gp rfl
 have p5 : w4.cell? ⟨N2, 5, none⟩ = some (.bool true) := block_cell gp rfl
 obtain ⟨c0, c1, c2, c3, c4, c5, c6, c7, c8, c9⟩ := HGX.out.at
 rw [hk] at c0
 clear gp
 go_wp2_with fail
 refine (wo_num1 HK4.out 1 (by omega) (by simp)).mono ?_
 rintro e w5 ⟨rfl, hkk⟩
 have HK5 := Lib.hid hkk
 clear hkk HK4
 clear p0 p1 p2 p3 p4 p5 c0 c1 c2 c3 c4 c5 c6 c7 c8 c9 HGX
 have gp := block_later HPX.out HK5.out.below
 have HGX := Lib.hid (HX3.out.later HK5.out.below)
 have p0 : w5.cell? ⟨N2, 0, none⟩ = some (.bool true) := block_cell gp rfl
 have p1 : w5.cell? ⟨N2, 1, none⟩ = some (.bool false) := block_cell gp rfl
 have p2 : w5.cell? ⟨N2, 2, none⟩ = some (.bool false) := block_cell gp rfl
 have p3 : w5.cell? ⟨N2, 3, none⟩ = some (.bool false) := block_cell gp rfl
 have p4 : w5.cell? ⟨N2, 4, none⟩ = some (.bool false) := block_cell gp rfl
 have p5 : w5.cell? ⟨N2, 5, none⟩ = some (.bool true) := block_cell gp rfl
 obtain ⟨c0, c1, c2, c3, c4, c5, c6, c7, c8, c9⟩ := HGX.out.at
 rw [hk] at c0
 clear gp
 go_wp2_with fail
 refine (wo_num4 HK5.out r.sg HOK.out.sg (by simp only [List.length_append, List.length_nil, le_len]; omega)).mono ?_
 rintro e w6 ⟨rfl, hkk⟩
 have HK6 := Lib.hid hkk
 clear hkk HK5
 clear p0 p1 p2 p3 p4 p5 c0 c1 c2 c3 c4 c5 c6 c7 c8 c9 HGX
 have gp := block_later HPX.out HK6.out.below
 have HGX := Lib.hid (HX3.out.later HK6.out.below)
 have p0 : w6.cell? ⟨N2, 0, none⟩ = some (.bool true) := block_cell gp rfl
 have p1 : w6.cell? ⟨N2, 1, none⟩ = some (.bool false) := block_cell gp rfl
 have p2 : w6.cell? ⟨N2, 2, none⟩ = some (.bool false) := block_cell gp rfl
 have p3 : w6.cell? ⟨N2, 3, none⟩ = some (.bool false) := block_cell gp rfl
 have p4 : w6.cell? ⟨N2, 4, none⟩ = some (.bool false) := block_cell gp rfl
 have p5 : w6.cell? ⟨N2, 5, none⟩ = some (.bool true) := block_cell gp rfl
 obtain ⟨c0, c1, c2, c3, c4, c5, c6, c7, c8, c9⟩ := HGX.out.at
 rw [hk] at c0
 clear gp
 go_wp2_with ((with_reducible refine wpList_load_pr HGX.out ?_ ?_); rfl)
 refine (HEN.out w6 (HB3.out.trans (HK6.out.below.mono HB3.out.size))).mono ?_
 rintro e w7 ⟨hbe, hy⟩
 have hgg : goodP 4 4 ⟨r.pk, r.od, r.po, L, T, M, r.sk, r.fr, r.to, r.q⟩ = true := HGG.out
 rw [if_pos hgg] at hy
 obtain ⟨py, cy, rfl, hsy, _, _⟩ := hy
 have HSY := Lib.hid hsy
 have HK7 := Lib.hid (HK6.out.later (Chg.of_below (S := fun _ => False) hbe))
 have hpf : (bytesP ⟨r.pk, r.od, r.po, L, T, M, r.sk, r.fr, r.to, r.q⟩).length ≤ 400 := HPF.out
 have HBP : Hid (bytesP (r.pg L T M) = bytesP ⟨r.pk, r.od, r.po, L, T, M, r.sk, r.fr, r.to, r.q⟩) := Lib.hid rfl
 generalize bytesP ⟨r.pk, r.od, r.po, L, T, M, r.sk, r.fr, r.to, r.q⟩ = Y at *
 generalize hny : Y.length = ny at *
 clear hsy hbe hgg HK6
 clear p0 p1 p2 p3 p4 p5 c0 c1 c2 c3 c4 c5 c6 c7 c8 c9 HGX
 have gp := block_later HPX.out HK7.out.below
 have HGX := Lib.hid (HX3.out.later HK7.out.below)
 have p0 : w7.cell? ⟨N2, 0, none⟩ = some (.bool true) := block_cell gp rfl
 have p1 : w7.cell? ⟨N2, 1, none⟩ = some (.bool false) := block_cell gp rfl
 have p2 : w7.cell? ⟨N2, 2, none⟩ = some (.bool false) := block_cell gp rfl
 have p3 : w7.cell? ⟨N2, 3, none⟩ = some (.bool false) := block_cell gp rfl
 have p4 : w7.cell? ⟨N2, 4, none⟩ = some (.bool false) := block_cell gp rfl
 have p5 : w7.cell? ⟨N2, 5, none⟩ = some (.bool true) := block_cell gp rfl
 obtain ⟨c0, c1, c2, c3, c4, c5, c6, c7, c8, c9⟩ := HGX.out.at
 rw [hk] at c0
 clear gp
 go_wp2_with fail
 have HNY := Lib.hid hny
 clear hny
 refine (wo_bytes HK7.out py ny cy Y HSY.out (by simp only [List.length_append, List.length_nil, le_len]; omega)).mono ?_
 rintro e w8 ⟨rfl, hkk⟩
 have HK8 := Lib.hid hkk
 clear hkk HK7
 clear p0 p1 p2 p3 p4 p5 c0 c1 c2 c3 c4 c5 c6 c7 c8 c9 HGX
 have gp := block_later HPX.out HK8.out.below
 have HGX := Lib.hid (HX3.out.later HK8.out.below)
 have p0 : w8.cell? ⟨N2, 0, none⟩ = some (.bool true) := block_cell gp rfl
 have p1 : w8.cell? ⟨N2, 1, none⟩ = some (.bool false) := block_cell gp rfl
 have p2 : w8.cell? ⟨N2, 2, none⟩ = some (.bool false) := block_cell gp rfl
 have p3 : w8.cell? ⟨N2, 3, none⟩ = some (.bool false) := block_cell gp rfl
 have p4 : w8.cell? ⟨N2, 4, none⟩ = some (.bool false) := block_cell gp rfl
 have p5 : w8.cell? ⟨N2, 5, none⟩ = some (.bool true) := block_cell gp rfl
 obtain ⟨c0, c1, c2, c3, c4, c5, c6, c7, c8, c9⟩ := HGX.out.at
 rw [hk] at c0
 clear gp
 go_wp2_with fail
 have hbx : (((([] : List Nat) ++ le ((1 : Int)).toNat 1) ++ le r.sg.toNat 4) ++ (le Y.length 2 ++ Y)) = bytesX (r.x L T M) := by
  unfold bytesX
  rw [show ((r.x L T M)).k = 1 from hk]
  simp [kS, kT, kB, kA, kO, kP, Rv.x, List.append_assoc, HBP.out]
 have hlx : (bytesX (r.x L T M)).length ≤ 100000 := by rw [← hbx]; simp only [List.length_append, List.length_nil, le_len]; have := HNY.out; omega
 have HKz : Hid (WrOk w3 w8 Bw 512 (0, bytesX (r.x L T M))) := Lib.hid (by rw [← hbx]; exact HK8.out)
 clear hbx HK8
 generalize bytesX (r.x L T M) = Z at *
 refine (done_good w3 w8 Bw 512 Z HKz.out hlx).mono ?_
 rintro e w9 ⟨pz', cz, rfl, hbz, hsz, _⟩
 have HF : Hid (GivesB W Z (.returned (.tuple #[.slice pz' Z.length cz, .int .i64 0])) w9) := Lib.hid ⟨pz', cz, rfl, hsz, HB3.out.trans (hbz.mono HB3.out.size)⟩
 clear hbz hsz hlx
 generalize Z.length = nz at *
 clear p0 p1 p2 p3 p4 p5 c0 c1 c2 c3 c4 c5 c6 c7 c8 c9 HGX
 go_wp2_with fail
 go_ret2
 exact HF.out
set_option maxHeartbeats 8000000 in
theorem rec_write2 (r : Rv) (L : List Ln) (T : List Tk) (M : List Ln) (W : World) (hok : Rxok (r.x L T M)) (hk : r.k = 2) : Calls Tryz.prog 84 #[.agg (rcs r)] W (GivesB W (bytesX (r.x L T M))) := by
 obtain ⟨W1, hW1, hb1⟩ : ∃ W1, W.alloc (.cells (rcs r) 51) = W1 ∧ Below W.heap.size W W1 := ⟨_, rfl, (Below.refl _ _).alloc (Nat.le_refl _) _⟩
 obtain ⟨B, hB⟩ : ∃ B, W.heap.size = B := ⟨_, rfl⟩
 have hrb := RB.new W r
 rw [hW1, hB] at hrb
 have HX1 := Lib.hid hrb
 have HW1 := Lib.hid hW1
 have HB1 := Lib.hid hb1
 have HRE := Lib.hid hB
 have c0 : W1.cell? ⟨B, 0, none⟩ = some (.int .u8 r.k) := block_cell hrb rfl
 rw [hk] at c0
 clear hW1 hb1 hB hrb
 have HOK := Lib.hid hok
 have u1 := wrap_u64 hok.sg
 have u2 := wrap_u64 hok.tx
 have u3 : IntKind.u64.wrap r.st = r.st := wrap_u64 ⟨hok.st.1, Int.le_trans hok.st.2 (by decide)⟩
 have u4 : IntKind.u64.wrap r.o = r.o := wrap_u64 ⟨hok.o.1, Int.le_trans hok.o.2 (by decide)⟩
 change IntKind.u64.wrap r.sg = r.sg at u1
 change IntKind.u64.wrap r.tx = r.tx at u2
 have hpa := parts_any 2 W1
 unfold GivesPt at hpa
 rw [show ptc 2 = #[.bool true, .bool true, .bool true, .bool false, .bool false, .bool false] from rfl] at hpa
 clear hok
 go_enter Tryz.func84, Tryz.ntmps84
 go_upto_region 1 with (fail)
 rw [HW1.out, HRE.out]
 go_wp2_with fail
 refine hpa.mono ?_
 rintro e w2 ⟨rfl, h2⟩
 have HB2 := Lib.hid (HB1.out.trans (h2.mono HB1.out.size))
 have HX2 := Lib.hid (HX1.out.later h2)
 clear h2 hpa c0
 obtain ⟨N2, hN2⟩ : ∃ n, w2.heap.size = n := ⟨_, rfl⟩
 obtain ⟨w3, hwn, hxn, hbn⟩ : ∃ w3, (w2.alloc (.cells pz 194)).setRow N2 #[.bool true, .bool true, .bool true, .bool false, .bool false, .bool false] = w3 ∧ w3.heap[N2]? = some (.cells #[.bool true, .bool true, .bool true, .bool false, .bool false, .bool false] 194 (0, 0)) ∧ Below w2.heap.size w2 w3 := ⟨_, rfl, by rw [← hN2]; exact setRow_heap _ _ _ _ _ _ (alloc_block w2 _), below_setRow ((Below.refl _ _).alloc (Nat.le_refl _) _) (by omega) _⟩
 have hx2 := alloc_block w2 (.cells pz 194)
 rw [hN2] at hx2
 have HPX := Lib.hid hxn
 have HPZ := Lib.hid hx2
 have HBN := Lib.hid hbn
 have HWN := Lib.hid hwn
 have HNN := Lib.hid hN2
 have HS6 : Hid ((#[.bool true, .bool true, .bool true, .bool false, .bool false, .bool false] : Array Value).size = 6) := Lib.hid rfl
 have HA6 : Hid ((#[.bool true, .bool true, .bool true, .bool false, .bool false, .bool false] : Array Value).all (·.oneCell') = true) := Lib.hid (by simp [Value.oneCell'])
 clear hx2 hxn hbn hwn hN2
 have HB3 := Lib.hid (HB2.out.trans (HBN.out.mono HB2.out.size))
 have HX3 := Lib.hid (HX2.out.later HBN.out)
 go_wp2_with ((try rw [HNN.out]); (with_reducible refine wpList_store_pt #[.bool true, .bool true, .bool true, .bool false, .bool false, .bool false] HS6.out HA6.out HPZ.out ?_ ?_ ?_); rfl; rfl; rw [HWN.out])
 refine (new_ok w3 w3 512 (Below.refl _ _)).mono ?_
 rintro e w4 ⟨Bw, rfl, hkk⟩
 rw [show lim 512 = 512 from rfl] at hkk
 have HK4 := Lib.hid hkk
 clear hkk
 have gp := block_later HPX.out HK4.out.below
 have HGX := Lib.hid (HX3.out.later HK4.out.below)
 have p0 : w4.cell? ⟨N2, 0, none⟩ = some (.bool true) := block_cell gp rfl
 have p1 : w4.cell? ⟨N2, 1, none⟩ = some (.bool true) := block_cell gp rfl
 have p2 : w4.cell? ⟨N2, 2, none⟩ = some (.bool true) := block_cell gp rfl
 have p3 : w4.cell? ⟨N2, 3, none⟩ = some (.bool false) := block_cell gp rfl
 have p4 : w4.cell? ⟨N2, 4, none⟩ = some (.bool false) := block_cell gp rfl
 have p5 : w4.cell? ⟨N2, 5, none⟩ = some (.bool false) := block_cell gp rfl
 obtain ⟨c0, c1, c2, c3, c4, c5, c6, c7, c8, c9⟩ := HGX.out.at
 rw [hk] at c0
 clear gp
 go_wp2_with fail
 refine (wo_num1 HK4.out 2 (by omega) (by simp)).mono ?_
 rintro e w5 ⟨rfl, hkk⟩
 have HK5 := Lib.hid hkk
 clear hkk HK4
 clear p0 p1 p2 p3 p4 p5 c0 c1 c2 c3 c4 c5 c6 c7 c8 c9 HGX
 have gp := block_later HPX.out HK5.out.below
 have HGX := Lib.hid (HX3.out.later HK5.out.below)
 have p0 : w5.cell? ⟨N2, 0, none⟩ = some (.bool true) := block_cell gp rfl
 have p1 : w5.cell? ⟨N2, 1, none⟩ = some (.bool true) := block_cell gp rfl
 have p2 : w5.cell? ⟨N2, 2, none⟩ = some (.bool true) := block_cell gp rfl
 have p3 : w5.cell? ⟨N2, 3, none⟩ = some (.bool false) := block_cell gp rfl
 have p4 : w5.cell? ⟨N2, 4, none⟩ = some (.bool false) := block_cell gp rfl
 have p5 : w5.cell? ⟨N2, 5, none⟩ = some (.bool false) := block_cell gp rfl
 obtain ⟨c0, c1, c2, c3, c4, c5, c6, c7, c8, c9⟩ := HGX.out.at
 rw [hk] at c0
 clear gp
 go_wp2_with fail
 refine (wo_num4 HK5.out r.sg HOK.out.sg (by simp only [List.length_append, List.length_nil, le_len]; omega)).mono ?_
 rintro e w6 ⟨rfl, hkk⟩
 have HK6 := Lib.hid hkk
 clear hkk HK5
 clear p0 p1 p2 p3 p4 p5 c0 c1 c2 c3 c4 c5 c6 c7 c8 c9 HGX
 have gp := block_later HPX.out HK6.out.below
 have HGX := Lib.hid (HX3.out.later HK6.out.below)
 have p0 : w6.cell? ⟨N2, 0, none⟩ = some (.bool true) := block_cell gp rfl
 have p1 : w6.cell? ⟨N2, 1, none⟩ = some (.bool true) := block_cell gp rfl
 have p2 : w6.cell? ⟨N2, 2, none⟩ = some (.bool true) := block_cell gp rfl
 have p3 : w6.cell? ⟨N2, 3, none⟩ = some (.bool false) := block_cell gp rfl
 have p4 : w6.cell? ⟨N2, 4, none⟩ = some (.bool false) := block_cell gp rfl
 have p5 : w6.cell? ⟨N2, 5, none⟩ = some (.bool false) := block_cell gp rfl
 obtain ⟨c0, c1, c2, c3, c4, c5, c6, c7, c8, c9⟩ := HGX.out.at
 rw [hk] at c0
 clear gp
 go_wp2_with fail
 refine (wo_num4 HK6.out r.tx HOK.out.tx (by simp only [List.length_append, List.length_nil, le_len]; omega)).mono ?_
 rintro e w7 ⟨rfl, hkk⟩
 have HK7 := Lib.hid hkk
 clear hkk HK6
 clear p0 p1 p2 p3 p4 p5 c0 c1 c2 c3 c4 c5 c6 c7 c8 c9 HGX
 have gp := block_later HPX.out HK7.out.below
 have HGX := Lib.hid (HX3.out.later HK7.out.below)
 have p0 : w7.cell? ⟨N2, 0, none⟩ = some (.bool true) := block_cell gp rfl
 have p1 : w7.cell? ⟨N2, 1, none⟩ = some (.bool true) := block_cell gp rfl
 have p2 : w7.cell? ⟨N2, 2, none⟩ = some (.bool true) := block_cell gp rfl
 have p3 : w7.cell? ⟨N2, 3, none⟩ = some (.bool false) := block_cell gp rfl
 have p4 : w7.cell? ⟨N2, 4, none⟩ = some (.bool false) := block_cell gp rfl
 have p5 : w7.cell? ⟨N2, 5, none⟩ = some (.bool false) := block_cell gp rfl
 obtain ⟨c0, c1, c2, c3, c4, c5, c6, c7, c8, c9⟩ := HGX.out.at
 rw [hk] at c0
 clear gp
 go_wp2_with fail
 refine (wo_num1 HK7.out r.st HOK.out.st (by simp only [List.length_append, List.length_nil, le_len]; omega)).mono ?_
 rintro e w8 ⟨rfl, hkk⟩
 have HK8 := Lib.hid hkk
 clear hkk HK7
 clear p0 p1 p2 p3 p4 p5 c0 c1 c2 c3 c4 c5 c6 c7 c8 c9 HGX
 have gp := block_later HPX.out HK8.out.below
 have HGX := Lib.hid (HX3.out.later HK8.out.below)
 have p0 : w8.cell? ⟨N2, 0, none⟩ = some (.bool true) := block_cell gp rfl
 have p1 : w8.cell? ⟨N2, 1, none⟩ = some (.bool true) := block_cell gp rfl
 have p2 : w8.cell? ⟨N2, 2, none⟩ = some (.bool true) := block_cell gp rfl
 have p3 : w8.cell? ⟨N2, 3, none⟩ = some (.bool false) := block_cell gp rfl
 have p4 : w8.cell? ⟨N2, 4, none⟩ = some (.bool false) := block_cell gp rfl
 have p5 : w8.cell? ⟨N2, 5, none⟩ = some (.bool false) := block_cell gp rfl
 obtain ⟨c0, c1, c2, c3, c4, c5, c6, c7, c8, c9⟩ := HGX.out.at
 rw [hk] at c0
 clear gp
 go_wp2_with fail
 refine (wo_bool HK8.out r.cp (by simp only [List.length_append, List.length_nil, le_len]; omega)).mono ?_
 rintro e w9 ⟨rfl, hkk⟩
 have HK9 := Lib.hid hkk
 clear hkk HK8
 clear p0 p1 p2 p3 p4 p5 c0 c1 c2 c3 c4 c5 c6 c7 c8 c9 HGX
 have gp := block_later HPX.out HK9.out.below
 have HGX := Lib.hid (HX3.out.later HK9.out.below)
 have p0 : w9.cell? ⟨N2, 0, none⟩ = some (.bool true) := block_cell gp rfl
 have p1 : w9.cell? ⟨N2, 1, none⟩ = some (.bool true) := block_cell gp rfl
 have p2 : w9.cell? ⟨N2, 2, none⟩ = some (.bool true) := block_cell gp rfl
 have p3 : w9.cell? ⟨N2, 3, none⟩ = some (.bool false) := block_cell gp rfl
 have p4 : w9.cell? ⟨N2, 4, none⟩ = some (.bool false) := block_cell gp rfl
 have p5 : w9.cell? ⟨N2, 5, none⟩ = some (.bool false) := block_cell gp rfl
 obtain ⟨c0, c1, c2, c3, c4, c5, c6, c7, c8, c9⟩ := HGX.out.at
 rw [hk] at c0
 clear gp
 go_wp2_with fail
 have hbx : (((((([] : List Nat) ++ le ((2 : Int)).toNat 1) ++ le r.sg.toNat 4) ++ le r.tx.toNat 4) ++ le r.st.toNat 1) ++ [bitN r.cp]) = bytesX (r.x L T M) := by
  unfold bytesX
  rw [show ((r.x L T M)).k = 2 from hk]
  simp [kS, kT, kB, kA, kO, kP, Rv.x, List.append_assoc]
 have hlx : (bytesX (r.x L T M)).length ≤ 100000 := by rw [← hbx]; simp only [List.length_append, List.length_nil, List.length_cons, le_len, keyB]; omega
 have HKz : Hid (WrOk w3 w9 Bw 512 (0, bytesX (r.x L T M))) := Lib.hid (by rw [← hbx]; exact HK9.out)
 clear hbx HK9
 generalize bytesX (r.x L T M) = Z at *
 refine (done_good w3 w9 Bw 512 Z HKz.out hlx).mono ?_
 rintro e w10 ⟨pz', cz, rfl, hbz, hsz, _⟩
 have HF : Hid (GivesB W Z (.returned (.tuple #[.slice pz' Z.length cz, .int .i64 0])) w10) := Lib.hid ⟨pz', cz, rfl, hsz, HB3.out.trans (hbz.mono HB3.out.size)⟩
 clear hbz hsz hlx
 generalize Z.length = nz at *
 clear p0 p1 p2 p3 p4 p5 c0 c1 c2 c3 c4 c5 c6 c7 c8 c9 HGX
 go_wp2_with fail
 go_ret2
 exact HF.out
set_option maxHeartbeats 8000000 in
theorem rec_write3 (r : Rv) (L : List Ln) (T : List Tk) (M : List Ln) (W : World) (hok : Rxok (r.x L T M)) (hk : r.k = 3) : Calls Tryz.prog 84 #[.agg (rcs r)] W (GivesB W (bytesX (r.x L T M))) := by
 obtain ⟨W1, hW1, hb1⟩ : ∃ W1, W.alloc (.cells (rcs r) 51) = W1 ∧ Below W.heap.size W W1 := ⟨_, rfl, (Below.refl _ _).alloc (Nat.le_refl _) _⟩
 obtain ⟨B, hB⟩ : ∃ B, W.heap.size = B := ⟨_, rfl⟩
 have hrb := RB.new W r
 rw [hW1, hB] at hrb
 have HX1 := Lib.hid hrb
 have HW1 := Lib.hid hW1
 have HB1 := Lib.hid hb1
 have HRE := Lib.hid hB
 have c0 : W1.cell? ⟨B, 0, none⟩ = some (.int .u8 r.k) := block_cell hrb rfl
 rw [hk] at c0
 clear hW1 hb1 hB hrb
 have HOK := Lib.hid hok
 have u1 := wrap_u64 hok.sg
 have u2 := wrap_u64 hok.tx
 have u3 : IntKind.u64.wrap r.st = r.st := wrap_u64 ⟨hok.st.1, Int.le_trans hok.st.2 (by decide)⟩
 have u4 : IntKind.u64.wrap r.o = r.o := wrap_u64 ⟨hok.o.1, Int.le_trans hok.o.2 (by decide)⟩
 change IntKind.u64.wrap r.sg = r.sg at u1
 change IntKind.u64.wrap r.tx = r.tx at u2
 have hpa := parts_any 3 W1
 unfold GivesPt at hpa
 rw [show ptc 3 = #[.bool false, .bool true, .bool false, .bool true, .bool false, .bool false] from rfl] at hpa
 clear hok
 go_enter Tryz.func84, Tryz.ntmps84
 go_upto_region 1 with (fail)
 rw [HW1.out, HRE.out]
 go_wp2_with fail
 refine hpa.mono ?_
 rintro e w2 ⟨rfl, h2⟩
 have HB2 := Lib.hid (HB1.out.trans (h2.mono HB1.out.size))
 have HX2 := Lib.hid (HX1.out.later h2)
 clear h2 hpa c0
 obtain ⟨N2, hN2⟩ : ∃ n, w2.heap.size = n := ⟨_, rfl⟩
 obtain ⟨w3, hwn, hxn, hbn⟩ : ∃ w3, (w2.alloc (.cells pz 194)).setRow N2 #[.bool false, .bool true, .bool false, .bool true, .bool false, .bool false] = w3 ∧ w3.heap[N2]? = some (.cells #[.bool false, .bool true, .bool false, .bool true, .bool false, .bool false] 194 (0, 0)) ∧ Below w2.heap.size w2 w3 := ⟨_, rfl, by rw [← hN2]; exact setRow_heap _ _ _ _ _ _ (alloc_block w2 _), below_setRow ((Below.refl _ _).alloc (Nat.le_refl _) _) (by omega) _⟩
 have hx2 := alloc_block w2 (.cells pz 194)
 rw [hN2] at hx2
 have HPX := Lib.hid hxn
 have HPZ := Lib.hid hx2
 have HBN := Lib.hid hbn
 have HWN := Lib.hid hwn
 have HNN := Lib.hid hN2
 have HS6 : Hid ((#[.bool false, .bool true, .bool false, .bool true, .bool false, .bool false] : Array Value).size = 6) := Lib.hid rfl
 have HA6 : Hid ((#[.bool false, .bool true, .bool false, .bool true, .bool false, .bool false] : Array Value).all (·.oneCell') = true) := Lib.hid (by simp [Value.oneCell'])
 clear hx2 hxn hbn hwn hN2
 have HB3 := Lib.hid (HB2.out.trans (HBN.out.mono HB2.out.size))
 have HX3 := Lib.hid (HX2.out.later HBN.out)
 go_wp2_with ((try rw [HNN.out]); (with_reducible refine wpList_store_pt #[.bool false, .bool true, .bool false, .bool true, .bool false, .bool false] HS6.out HA6.out HPZ.out ?_ ?_ ?_); rfl; rfl; rw [HWN.out])
 refine (new_ok w3 w3 512 (Below.refl _ _)).mono ?_
 rintro e w4 ⟨Bw, rfl, hkk⟩
 rw [show lim 512 = 512 from rfl] at hkk
 have HK4 := Lib.hid hkk
 clear hkk
 have gp := block_later HPX.out HK4.out.below
 have HGX := Lib.hid (HX3.out.later HK4.out.below)
 have p0 : w4.cell? ⟨N2, 0, none⟩ = some (.bool false) := block_cell gp rfl
 have p1 : w4.cell? ⟨N2, 1, none⟩ = some (.bool true) := block_cell gp rfl
 have p2 : w4.cell? ⟨N2, 2, none⟩ = some (.bool false) := block_cell gp rfl
 have p3 : w4.cell? ⟨N2, 3, none⟩ = some (.bool true) := block_cell gp rfl
 have p4 : w4.cell? ⟨N2, 4, none⟩ = some (.bool false) := block_cell gp rfl
 have p5 : w4.cell? ⟨N2, 5, none⟩ = some (.bool false) := block_cell gp rfl
 obtain ⟨c0, c1, c2, c3, c4, c5, c6, c7, c8, c9⟩ := HGX.out.at
 rw [hk] at c0
 clear gp
 go_wp2_with fail
 refine (wo_num1 HK4.out 3 (by omega) (by simp)).mono ?_
 rintro e w5 ⟨rfl, hkk⟩
 have HK5 := Lib.hid hkk
 clear hkk HK4
 clear p0 p1 p2 p3 p4 p5 c0 c1 c2 c3 c4 c5 c6 c7 c8 c9 HGX
 have gp := block_later HPX.out HK5.out.below
 have HGX := Lib.hid (HX3.out.later HK5.out.below)
 have p0 : w5.cell? ⟨N2, 0, none⟩ = some (.bool false) := block_cell gp rfl
 have p1 : w5.cell? ⟨N2, 1, none⟩ = some (.bool true) := block_cell gp rfl
 have p2 : w5.cell? ⟨N2, 2, none⟩ = some (.bool false) := block_cell gp rfl
 have p3 : w5.cell? ⟨N2, 3, none⟩ = some (.bool true) := block_cell gp rfl
 have p4 : w5.cell? ⟨N2, 4, none⟩ = some (.bool false) := block_cell gp rfl
 have p5 : w5.cell? ⟨N2, 5, none⟩ = some (.bool false) := block_cell gp rfl
 obtain ⟨c0, c1, c2, c3, c4, c5, c6, c7, c8, c9⟩ := HGX.out.at
 rw [hk] at c0
 clear gp
 go_wp2_with fail
 refine (wo_num4 HK5.out r.tx HOK.out.tx (by simp only [List.length_append, List.length_nil, le_len]; omega)).mono ?_
 rintro e w6 ⟨rfl, hkk⟩
 have HK6 := Lib.hid hkk
 clear hkk HK5
 clear p0 p1 p2 p3 p4 p5 c0 c1 c2 c3 c4 c5 c6 c7 c8 c9 HGX
 have gp := block_later HPX.out HK6.out.below
 have HGX := Lib.hid (HX3.out.later HK6.out.below)
 have p0 : w6.cell? ⟨N2, 0, none⟩ = some (.bool false) := block_cell gp rfl
 have p1 : w6.cell? ⟨N2, 1, none⟩ = some (.bool true) := block_cell gp rfl
 have p2 : w6.cell? ⟨N2, 2, none⟩ = some (.bool false) := block_cell gp rfl
 have p3 : w6.cell? ⟨N2, 3, none⟩ = some (.bool true) := block_cell gp rfl
 have p4 : w6.cell? ⟨N2, 4, none⟩ = some (.bool false) := block_cell gp rfl
 have p5 : w6.cell? ⟨N2, 5, none⟩ = some (.bool false) := block_cell gp rfl
 obtain ⟨c0, c1, c2, c3, c4, c5, c6, c7, c8, c9⟩ := HGX.out.at
 rw [hk] at c0
 clear gp
 go_wp2_with fail
 have HKb := Lib.hid (HK6.out.later (Chg.of_below (S := fun _ => False) ((Below.refl w6.heap.size w6).alloc (Nat.le_refl _) (.cells #[.int .u8 r.ka, .int .u8 r.kb, .int .u8 r.kc] 5))))
 refine (wo_raw HKb.out (some ⟨w6.heap.size, 0, none⟩) 3 3 (keyB (r.ka, r.kb, r.kc)) (sl_three r.ka r.kb r.kc HOK.out.key.1 HOK.out.key.2.1 HOK.out.key.2.2 w6) (by simp only [List.length_append, List.length_nil, le_len]; omega)).mono ?_
 rintro e w7 ⟨rfl, hkk⟩
 have HK7 := Lib.hid hkk
 clear hkk HK6 HKb
 clear p0 p1 p2 p3 p4 p5 c0 c1 c2 c3 c4 c5 c6 c7 c8 c9 HGX
 have gp := block_later HPX.out HK7.out.below
 have HGX := Lib.hid (HX3.out.later HK7.out.below)
 have p0 : w7.cell? ⟨N2, 0, none⟩ = some (.bool false) := block_cell gp rfl
 have p1 : w7.cell? ⟨N2, 1, none⟩ = some (.bool true) := block_cell gp rfl
 have p2 : w7.cell? ⟨N2, 2, none⟩ = some (.bool false) := block_cell gp rfl
 have p3 : w7.cell? ⟨N2, 3, none⟩ = some (.bool true) := block_cell gp rfl
 have p4 : w7.cell? ⟨N2, 4, none⟩ = some (.bool false) := block_cell gp rfl
 have p5 : w7.cell? ⟨N2, 5, none⟩ = some (.bool false) := block_cell gp rfl
 obtain ⟨c0, c1, c2, c3, c4, c5, c6, c7, c8, c9⟩ := HGX.out.at
 rw [hk] at c0
 clear gp
 go_wp2_with fail
 refine (wo_int HK7.out r.d HOK.out.d (by simp only [List.length_append, List.length_nil, le_len, keyB, List.length_cons]; omega)).mono ?_
 rintro e w8 ⟨rfl, hkk⟩
 have HK8 := Lib.hid hkk
 clear hkk HK7
 clear p0 p1 p2 p3 p4 p5 c0 c1 c2 c3 c4 c5 c6 c7 c8 c9 HGX
 have gp := block_later HPX.out HK8.out.below
 have HGX := Lib.hid (HX3.out.later HK8.out.below)
 have p0 : w8.cell? ⟨N2, 0, none⟩ = some (.bool false) := block_cell gp rfl
 have p1 : w8.cell? ⟨N2, 1, none⟩ = some (.bool true) := block_cell gp rfl
 have p2 : w8.cell? ⟨N2, 2, none⟩ = some (.bool false) := block_cell gp rfl
 have p3 : w8.cell? ⟨N2, 3, none⟩ = some (.bool true) := block_cell gp rfl
 have p4 : w8.cell? ⟨N2, 4, none⟩ = some (.bool false) := block_cell gp rfl
 have p5 : w8.cell? ⟨N2, 5, none⟩ = some (.bool false) := block_cell gp rfl
 obtain ⟨c0, c1, c2, c3, c4, c5, c6, c7, c8, c9⟩ := HGX.out.at
 rw [hk] at c0
 clear gp
 go_wp2_with fail
 have hbx : ((((([] : List Nat) ++ le ((3 : Int)).toNat 1) ++ le r.tx.toNat 4) ++ keyB (r.ka, r.kb, r.kc)) ++ le (u64 r.d) 8) = bytesX (r.x L T M) := by
  unfold bytesX
  rw [show ((r.x L T M)).k = 3 from hk]
  simp [kS, kT, kB, kA, kO, kP, Rv.x, List.append_assoc]
 have hlx : (bytesX (r.x L T M)).length ≤ 100000 := by rw [← hbx]; simp only [List.length_append, List.length_nil, List.length_cons, le_len, keyB]; omega
 have HKz : Hid (WrOk w3 w8 Bw 512 (0, bytesX (r.x L T M))) := Lib.hid (by rw [← hbx]; exact HK8.out)
 clear hbx HK8
 generalize bytesX (r.x L T M) = Z at *
 refine (done_good w3 w8 Bw 512 Z HKz.out hlx).mono ?_
 rintro e w9 ⟨pz', cz, rfl, hbz, hsz, _⟩
 have HF : Hid (GivesB W Z (.returned (.tuple #[.slice pz' Z.length cz, .int .i64 0])) w9) := Lib.hid ⟨pz', cz, rfl, hsz, HB3.out.trans (hbz.mono HB3.out.size)⟩
 clear hbz hsz hlx
 generalize Z.length = nz at *
 clear p0 p1 p2 p3 p4 p5 c0 c1 c2 c3 c4 c5 c6 c7 c8 c9 HGX
 go_wp2_with fail
 go_ret2
 exact HF.out
set_option maxHeartbeats 8000000 in
theorem rec_write4 (r : Rv) (L : List Ln) (T : List Tk) (M : List Ln) (W : World) (hok : Rxok (r.x L T M)) (hk : r.k = 4) : Calls Tryz.prog 84 #[.agg (rcs r)] W (GivesB W (bytesX (r.x L T M))) := by
 obtain ⟨W1, hW1, hb1⟩ : ∃ W1, W.alloc (.cells (rcs r) 51) = W1 ∧ Below W.heap.size W W1 := ⟨_, rfl, (Below.refl _ _).alloc (Nat.le_refl _) _⟩
 obtain ⟨B, hB⟩ : ∃ B, W.heap.size = B := ⟨_, rfl⟩
 have hrb := RB.new W r
 rw [hW1, hB] at hrb
 have HX1 := Lib.hid hrb
 have HW1 := Lib.hid hW1
 have HB1 := Lib.hid hb1
 have HRE := Lib.hid hB
 have c0 : W1.cell? ⟨B, 0, none⟩ = some (.int .u8 r.k) := block_cell hrb rfl
 rw [hk] at c0
 clear hW1 hb1 hB hrb
 have HOK := Lib.hid hok
 have u1 := wrap_u64 hok.sg
 have u2 := wrap_u64 hok.tx
 have u3 : IntKind.u64.wrap r.st = r.st := wrap_u64 ⟨hok.st.1, Int.le_trans hok.st.2 (by decide)⟩
 have u4 : IntKind.u64.wrap r.o = r.o := wrap_u64 ⟨hok.o.1, Int.le_trans hok.o.2 (by decide)⟩
 change IntKind.u64.wrap r.sg = r.sg at u1
 change IntKind.u64.wrap r.tx = r.tx at u2
 have hpa := parts_any 4 W1
 unfold GivesPt at hpa
 rw [show ptc 4 = #[.bool false, .bool true, .bool false, .bool false, .bool false, .bool false] from rfl] at hpa
 clear hok
 go_enter Tryz.func84, Tryz.ntmps84
 go_upto_region 1 with (fail)
 rw [HW1.out, HRE.out]
 go_wp2_with fail
 refine hpa.mono ?_
 rintro e w2 ⟨rfl, h2⟩
 have HB2 := Lib.hid (HB1.out.trans (h2.mono HB1.out.size))
 have HX2 := Lib.hid (HX1.out.later h2)
 clear h2 hpa c0
 obtain ⟨N2, hN2⟩ : ∃ n, w2.heap.size = n := ⟨_, rfl⟩
 obtain ⟨w3, hwn, hxn, hbn⟩ : ∃ w3, (w2.alloc (.cells pz 194)).setRow N2 #[.bool false, .bool true, .bool false, .bool false, .bool false, .bool false] = w3 ∧ w3.heap[N2]? = some (.cells #[.bool false, .bool true, .bool false, .bool false, .bool false, .bool false] 194 (0, 0)) ∧ Below w2.heap.size w2 w3 := ⟨_, rfl, by rw [← hN2]; exact setRow_heap _ _ _ _ _ _ (alloc_block w2 _), below_setRow ((Below.refl _ _).alloc (Nat.le_refl _) _) (by omega) _⟩
 have hx2 := alloc_block w2 (.cells pz 194)
 rw [hN2] at hx2
 have HPX := Lib.hid hxn
 have HPZ := Lib.hid hx2
 have HBN := Lib.hid hbn
 have HWN := Lib.hid hwn
 have HNN := Lib.hid hN2
 have HS6 : Hid ((#[.bool false, .bool true, .bool false, .bool false, .bool false, .bool false] : Array Value).size = 6) := Lib.hid rfl
 have HA6 : Hid ((#[.bool false, .bool true, .bool false, .bool false, .bool false, .bool false] : Array Value).all (·.oneCell') = true) := Lib.hid (by simp [Value.oneCell'])
 clear hx2 hxn hbn hwn hN2
 have HB3 := Lib.hid (HB2.out.trans (HBN.out.mono HB2.out.size))
 have HX3 := Lib.hid (HX2.out.later HBN.out)
 go_wp2_with ((try rw [HNN.out]); (with_reducible refine wpList_store_pt #[.bool false, .bool true, .bool false, .bool false, .bool false, .bool false] HS6.out HA6.out HPZ.out ?_ ?_ ?_); rfl; rfl; rw [HWN.out])
 refine (new_ok w3 w3 512 (Below.refl _ _)).mono ?_
 rintro e w4 ⟨Bw, rfl, hkk⟩
 rw [show lim 512 = 512 from rfl] at hkk
 have HK4 := Lib.hid hkk
 clear hkk
 have gp := block_later HPX.out HK4.out.below
 have HGX := Lib.hid (HX3.out.later HK4.out.below)
 have p0 : w4.cell? ⟨N2, 0, none⟩ = some (.bool false) := block_cell gp rfl
 have p1 : w4.cell? ⟨N2, 1, none⟩ = some (.bool true) := block_cell gp rfl
 have p2 : w4.cell? ⟨N2, 2, none⟩ = some (.bool false) := block_cell gp rfl
 have p3 : w4.cell? ⟨N2, 3, none⟩ = some (.bool false) := block_cell gp rfl
 have p4 : w4.cell? ⟨N2, 4, none⟩ = some (.bool false) := block_cell gp rfl
 have p5 : w4.cell? ⟨N2, 5, none⟩ = some (.bool false) := block_cell gp rfl
 obtain ⟨c0, c1, c2, c3, c4, c5, c6, c7, c8, c9⟩ := HGX.out.at
 rw [hk] at c0
 clear gp
 go_wp2_with fail
 refine (wo_num1 HK4.out 4 (by omega) (by simp)).mono ?_
 rintro e w5 ⟨rfl, hkk⟩
 have HK5 := Lib.hid hkk
 clear hkk HK4
 clear p0 p1 p2 p3 p4 p5 c0 c1 c2 c3 c4 c5 c6 c7 c8 c9 HGX
 have gp := block_later HPX.out HK5.out.below
 have HGX := Lib.hid (HX3.out.later HK5.out.below)
 have p0 : w5.cell? ⟨N2, 0, none⟩ = some (.bool false) := block_cell gp rfl
 have p1 : w5.cell? ⟨N2, 1, none⟩ = some (.bool true) := block_cell gp rfl
 have p2 : w5.cell? ⟨N2, 2, none⟩ = some (.bool false) := block_cell gp rfl
 have p3 : w5.cell? ⟨N2, 3, none⟩ = some (.bool false) := block_cell gp rfl
 have p4 : w5.cell? ⟨N2, 4, none⟩ = some (.bool false) := block_cell gp rfl
 have p5 : w5.cell? ⟨N2, 5, none⟩ = some (.bool false) := block_cell gp rfl
 obtain ⟨c0, c1, c2, c3, c4, c5, c6, c7, c8, c9⟩ := HGX.out.at
 rw [hk] at c0
 clear gp
 go_wp2_with fail
 refine (wo_num4 HK5.out r.tx HOK.out.tx (by simp only [List.length_append, List.length_nil, le_len]; omega)).mono ?_
 rintro e w6 ⟨rfl, hkk⟩
 have HK6 := Lib.hid hkk
 clear hkk HK5
 clear p0 p1 p2 p3 p4 p5 c0 c1 c2 c3 c4 c5 c6 c7 c8 c9 HGX
 have gp := block_later HPX.out HK6.out.below
 have HGX := Lib.hid (HX3.out.later HK6.out.below)
 have p0 : w6.cell? ⟨N2, 0, none⟩ = some (.bool false) := block_cell gp rfl
 have p1 : w6.cell? ⟨N2, 1, none⟩ = some (.bool true) := block_cell gp rfl
 have p2 : w6.cell? ⟨N2, 2, none⟩ = some (.bool false) := block_cell gp rfl
 have p3 : w6.cell? ⟨N2, 3, none⟩ = some (.bool false) := block_cell gp rfl
 have p4 : w6.cell? ⟨N2, 4, none⟩ = some (.bool false) := block_cell gp rfl
 have p5 : w6.cell? ⟨N2, 5, none⟩ = some (.bool false) := block_cell gp rfl
 obtain ⟨c0, c1, c2, c3, c4, c5, c6, c7, c8, c9⟩ := HGX.out.at
 rw [hk] at c0
 clear gp
 go_wp2_with fail
 have hbx : ((([] : List Nat) ++ le ((4 : Int)).toNat 1) ++ le r.tx.toNat 4) = bytesX (r.x L T M) := by
  unfold bytesX
  rw [show ((r.x L T M)).k = 4 from hk]
  simp [kS, kT, kB, kA, kO, kP, Rv.x, List.append_assoc]
 have hlx : (bytesX (r.x L T M)).length ≤ 100000 := by rw [← hbx]; simp only [List.length_append, List.length_nil, List.length_cons, le_len, keyB]; omega
 have HKz : Hid (WrOk w3 w6 Bw 512 (0, bytesX (r.x L T M))) := Lib.hid (by rw [← hbx]; exact HK6.out)
 clear hbx HK6
 generalize bytesX (r.x L T M) = Z at *
 refine (done_good w3 w6 Bw 512 Z HKz.out hlx).mono ?_
 rintro e w7 ⟨pz', cz, rfl, hbz, hsz, _⟩
 have HF : Hid (GivesB W Z (.returned (.tuple #[.slice pz' Z.length cz, .int .i64 0])) w7) := Lib.hid ⟨pz', cz, rfl, hsz, HB3.out.trans (hbz.mono HB3.out.size)⟩
 clear hbz hsz hlx
 generalize Z.length = nz at *
 clear p0 p1 p2 p3 p4 p5 c0 c1 c2 c3 c4 c5 c6 c7 c8 c9 HGX
 go_wp2_with fail
 go_ret2
 exact HF.out
set_option maxHeartbeats 8000000 in
theorem rec_write5 (r : Rv) (L : List Ln) (T : List Tk) (M : List Ln) (W : World) (hok : Rxok (r.x L T M)) (hk : r.k = 5) : Calls Tryz.prog 84 #[.agg (rcs r)] W (GivesB W (bytesX (r.x L T M))) := by
 obtain ⟨W1, hW1, hb1⟩ : ∃ W1, W.alloc (.cells (rcs r) 51) = W1 ∧ Below W.heap.size W W1 := ⟨_, rfl, (Below.refl _ _).alloc (Nat.le_refl _) _⟩
 obtain ⟨B, hB⟩ : ∃ B, W.heap.size = B := ⟨_, rfl⟩
 have hrb := RB.new W r
 rw [hW1, hB] at hrb
 have HX1 := Lib.hid hrb
 have HW1 := Lib.hid hW1
 have HB1 := Lib.hid hb1
 have HRE := Lib.hid hB
 have c0 : W1.cell? ⟨B, 0, none⟩ = some (.int .u8 r.k) := block_cell hrb rfl
 rw [hk] at c0
 clear hW1 hb1 hB hrb
 have HOK := Lib.hid hok
 have u1 := wrap_u64 hok.sg
 have u2 := wrap_u64 hok.tx
 have u3 : IntKind.u64.wrap r.st = r.st := wrap_u64 ⟨hok.st.1, Int.le_trans hok.st.2 (by decide)⟩
 have u4 : IntKind.u64.wrap r.o = r.o := wrap_u64 ⟨hok.o.1, Int.le_trans hok.o.2 (by decide)⟩
 change IntKind.u64.wrap r.sg = r.sg at u1
 change IntKind.u64.wrap r.tx = r.tx at u2
 have hpa := parts_any 5 W1
 unfold GivesPt at hpa
 rw [show ptc 5 = #[.bool false, .bool true, .bool false, .bool false, .bool false, .bool false] from rfl] at hpa
 clear hok
 go_enter Tryz.func84, Tryz.ntmps84
 go_upto_region 1 with (fail)
 rw [HW1.out, HRE.out]
 go_wp2_with fail
 refine hpa.mono ?_
 rintro e w2 ⟨rfl, h2⟩
 have HB2 := Lib.hid (HB1.out.trans (h2.mono HB1.out.size))
 have HX2 := Lib.hid (HX1.out.later h2)
 clear h2 hpa c0
 obtain ⟨N2, hN2⟩ : ∃ n, w2.heap.size = n := ⟨_, rfl⟩
 obtain ⟨w3, hwn, hxn, hbn⟩ : ∃ w3, (w2.alloc (.cells pz 194)).setRow N2 #[.bool false, .bool true, .bool false, .bool false, .bool false, .bool false] = w3 ∧ w3.heap[N2]? = some (.cells #[.bool false, .bool true, .bool false, .bool false, .bool false, .bool false] 194 (0, 0)) ∧ Below w2.heap.size w2 w3 := ⟨_, rfl, by rw [← hN2]; exact setRow_heap _ _ _ _ _ _ (alloc_block w2 _), below_setRow ((Below.refl _ _).alloc (Nat.le_refl _) _) (by omega) _⟩
 have hx2 := alloc_block w2 (.cells pz 194)
 rw [hN2] at hx2
 have HPX := Lib.hid hxn
 have HPZ := Lib.hid hx2
 have HBN := Lib.hid hbn
 have HWN := Lib.hid hwn
 have HNN := Lib.hid hN2
 have HS6 : Hid ((#[.bool false, .bool true, .bool false, .bool false, .bool false, .bool false] : Array Value).size = 6) := Lib.hid rfl
 have HA6 : Hid ((#[.bool false, .bool true, .bool false, .bool false, .bool false, .bool false] : Array Value).all (·.oneCell') = true) := Lib.hid (by simp [Value.oneCell'])
 clear hx2 hxn hbn hwn hN2
 have HB3 := Lib.hid (HB2.out.trans (HBN.out.mono HB2.out.size))
 have HX3 := Lib.hid (HX2.out.later HBN.out)
 go_wp2_with ((try rw [HNN.out]); (with_reducible refine wpList_store_pt #[.bool false, .bool true, .bool false, .bool false, .bool false, .bool false] HS6.out HA6.out HPZ.out ?_ ?_ ?_); rfl; rfl; rw [HWN.out])
 refine (new_ok w3 w3 512 (Below.refl _ _)).mono ?_
 rintro e w4 ⟨Bw, rfl, hkk⟩
 rw [show lim 512 = 512 from rfl] at hkk
 have HK4 := Lib.hid hkk
 clear hkk
 have gp := block_later HPX.out HK4.out.below
 have HGX := Lib.hid (HX3.out.later HK4.out.below)
 have p0 : w4.cell? ⟨N2, 0, none⟩ = some (.bool false) := block_cell gp rfl
 have p1 : w4.cell? ⟨N2, 1, none⟩ = some (.bool true) := block_cell gp rfl
 have p2 : w4.cell? ⟨N2, 2, none⟩ = some (.bool false) := block_cell gp rfl
 have p3 : w4.cell? ⟨N2, 3, none⟩ = some (.bool false) := block_cell gp rfl
 have p4 : w4.cell? ⟨N2, 4, none⟩ = some (.bool false) := block_cell gp rfl
 have p5 : w4.cell? ⟨N2, 5, none⟩ = some (.bool false) := block_cell gp rfl
 obtain ⟨c0, c1, c2, c3, c4, c5, c6, c7, c8, c9⟩ := HGX.out.at
 rw [hk] at c0
 clear gp
 go_wp2_with fail
 refine (wo_num1 HK4.out 5 (by omega) (by simp)).mono ?_
 rintro e w5 ⟨rfl, hkk⟩
 have HK5 := Lib.hid hkk
 clear hkk HK4
 clear p0 p1 p2 p3 p4 p5 c0 c1 c2 c3 c4 c5 c6 c7 c8 c9 HGX
 have gp := block_later HPX.out HK5.out.below
 have HGX := Lib.hid (HX3.out.later HK5.out.below)
 have p0 : w5.cell? ⟨N2, 0, none⟩ = some (.bool false) := block_cell gp rfl
 have p1 : w5.cell? ⟨N2, 1, none⟩ = some (.bool true) := block_cell gp rfl
 have p2 : w5.cell? ⟨N2, 2, none⟩ = some (.bool false) := block_cell gp rfl
 have p3 : w5.cell? ⟨N2, 3, none⟩ = some (.bool false) := block_cell gp rfl
 have p4 : w5.cell? ⟨N2, 4, none⟩ = some (.bool false) := block_cell gp rfl
 have p5 : w5.cell? ⟨N2, 5, none⟩ = some (.bool false) := block_cell gp rfl
 obtain ⟨c0, c1, c2, c3, c4, c5, c6, c7, c8, c9⟩ := HGX.out.at
 rw [hk] at c0
 clear gp
 go_wp2_with fail
 refine (wo_num4 HK5.out r.tx HOK.out.tx (by simp only [List.length_append, List.length_nil, le_len]; omega)).mono ?_
 rintro e w6 ⟨rfl, hkk⟩
 have HK6 := Lib.hid hkk
 clear hkk HK5
 clear p0 p1 p2 p3 p4 p5 c0 c1 c2 c3 c4 c5 c6 c7 c8 c9 HGX
 have gp := block_later HPX.out HK6.out.below
 have HGX := Lib.hid (HX3.out.later HK6.out.below)
 have p0 : w6.cell? ⟨N2, 0, none⟩ = some (.bool false) := block_cell gp rfl
 have p1 : w6.cell? ⟨N2, 1, none⟩ = some (.bool true) := block_cell gp rfl
 have p2 : w6.cell? ⟨N2, 2, none⟩ = some (.bool false) := block_cell gp rfl
 have p3 : w6.cell? ⟨N2, 3, none⟩ = some (.bool false) := block_cell gp rfl
 have p4 : w6.cell? ⟨N2, 4, none⟩ = some (.bool false) := block_cell gp rfl
 have p5 : w6.cell? ⟨N2, 5, none⟩ = some (.bool false) := block_cell gp rfl
 obtain ⟨c0, c1, c2, c3, c4, c5, c6, c7, c8, c9⟩ := HGX.out.at
 rw [hk] at c0
 clear gp
 go_wp2_with fail
 have hbx : ((([] : List Nat) ++ le ((5 : Int)).toNat 1) ++ le r.tx.toNat 4) = bytesX (r.x L T M) := by
  unfold bytesX
  rw [show ((r.x L T M)).k = 5 from hk]
  simp [kS, kT, kB, kA, kO, kP, Rv.x, List.append_assoc]
 have hlx : (bytesX (r.x L T M)).length ≤ 100000 := by rw [← hbx]; simp only [List.length_append, List.length_nil, List.length_cons, le_len, keyB]; omega
 have HKz : Hid (WrOk w3 w6 Bw 512 (0, bytesX (r.x L T M))) := Lib.hid (by rw [← hbx]; exact HK6.out)
 clear hbx HK6
 generalize bytesX (r.x L T M) = Z at *
 refine (done_good w3 w6 Bw 512 Z HKz.out hlx).mono ?_
 rintro e w7 ⟨pz', cz, rfl, hbz, hsz, _⟩
 have HF : Hid (GivesB W Z (.returned (.tuple #[.slice pz' Z.length cz, .int .i64 0])) w7) := Lib.hid ⟨pz', cz, rfl, hsz, HB3.out.trans (hbz.mono HB3.out.size)⟩
 clear hbz hsz hlx
 generalize Z.length = nz at *
 clear p0 p1 p2 p3 p4 p5 c0 c1 c2 c3 c4 c5 c6 c7 c8 c9 HGX
 go_wp2_with fail
 go_ret2
 exact HF.out
set_option maxHeartbeats 8000000 in
theorem rec_write6 (r : Rv) (L : List Ln) (T : List Tk) (M : List Ln) (W : World) (hok : Rxok (r.x L T M)) (hk : r.k = 6) : Calls Tryz.prog 84 #[.agg (rcs r)] W (GivesB W (bytesX (r.x L T M))) := by
 obtain ⟨W1, hW1, hb1⟩ : ∃ W1, W.alloc (.cells (rcs r) 51) = W1 ∧ Below W.heap.size W W1 := ⟨_, rfl, (Below.refl _ _).alloc (Nat.le_refl _) _⟩
 obtain ⟨B, hB⟩ : ∃ B, W.heap.size = B := ⟨_, rfl⟩
 have hrb := RB.new W r
 rw [hW1, hB] at hrb
 have HX1 := Lib.hid hrb
 have HW1 := Lib.hid hW1
 have HB1 := Lib.hid hb1
 have HRE := Lib.hid hB
 have c0 : W1.cell? ⟨B, 0, none⟩ = some (.int .u8 r.k) := block_cell hrb rfl
 rw [hk] at c0
 clear hW1 hb1 hB hrb
 have HOK := Lib.hid hok
 have u1 := wrap_u64 hok.sg
 have u2 := wrap_u64 hok.tx
 have u3 : IntKind.u64.wrap r.st = r.st := wrap_u64 ⟨hok.st.1, Int.le_trans hok.st.2 (by decide)⟩
 have u4 : IntKind.u64.wrap r.o = r.o := wrap_u64 ⟨hok.o.1, Int.le_trans hok.o.2 (by decide)⟩
 change IntKind.u64.wrap r.sg = r.sg at u1
 change IntKind.u64.wrap r.tx = r.tx at u2
 have hpa := parts_any 6 W1
 unfold GivesPt at hpa
 rw [show ptc 6 = #[.bool false, .bool true, .bool false, .bool true, .bool false, .bool false] from rfl] at hpa
 clear hok
 go_enter Tryz.func84, Tryz.ntmps84
 go_upto_region 1 with (fail)
 rw [HW1.out, HRE.out]
 go_wp2_with fail
 refine hpa.mono ?_
 rintro e w2 ⟨rfl, h2⟩
 have HB2 := Lib.hid (HB1.out.trans (h2.mono HB1.out.size))
 have HX2 := Lib.hid (HX1.out.later h2)
 clear h2 hpa c0
 obtain ⟨N2, hN2⟩ : ∃ n, w2.heap.size = n := ⟨_, rfl⟩
 obtain ⟨w3, hwn, hxn, hbn⟩ : ∃ w3, (w2.alloc (.cells pz 194)).setRow N2 #[.bool false, .bool true, .bool false, .bool true, .bool false, .bool false] = w3 ∧ w3.heap[N2]? = some (.cells #[.bool false, .bool true, .bool false, .bool true, .bool false, .bool false] 194 (0, 0)) ∧ Below w2.heap.size w2 w3 := ⟨_, rfl, by rw [← hN2]; exact setRow_heap _ _ _ _ _ _ (alloc_block w2 _), below_setRow ((Below.refl _ _).alloc (Nat.le_refl _) _) (by omega) _⟩
 have hx2 := alloc_block w2 (.cells pz 194)
 rw [hN2] at hx2
 have HPX := Lib.hid hxn
 have HPZ := Lib.hid hx2
 have HBN := Lib.hid hbn
 have HWN := Lib.hid hwn
 have HNN := Lib.hid hN2
 have HS6 : Hid ((#[.bool false, .bool true, .bool false, .bool true, .bool false, .bool false] : Array Value).size = 6) := Lib.hid rfl
 have HA6 : Hid ((#[.bool false, .bool true, .bool false, .bool true, .bool false, .bool false] : Array Value).all (·.oneCell') = true) := Lib.hid (by simp [Value.oneCell'])
 clear hx2 hxn hbn hwn hN2
 have HB3 := Lib.hid (HB2.out.trans (HBN.out.mono HB2.out.size))
 have HX3 := Lib.hid (HX2.out.later HBN.out)
 go_wp2_with ((try rw [HNN.out]); (with_reducible refine wpList_store_pt #[.bool false, .bool true, .bool false, .bool true, .bool false, .bool false] HS6.out HA6.out HPZ.out ?_ ?_ ?_); rfl; rfl; rw [HWN.out])
 refine (new_ok w3 w3 512 (Below.refl _ _)).mono ?_
 rintro e w4 ⟨Bw, rfl, hkk⟩
 rw [show lim 512 = 512 from rfl] at hkk
 have HK4 := Lib.hid hkk
 clear hkk
 have gp := block_later HPX.out HK4.out.below
 have HGX := Lib.hid (HX3.out.later HK4.out.below)
 have p0 : w4.cell? ⟨N2, 0, none⟩ = some (.bool false) := block_cell gp rfl
 have p1 : w4.cell? ⟨N2, 1, none⟩ = some (.bool true) := block_cell gp rfl
 have p2 : w4.cell? ⟨N2, 2, none⟩ = some (.bool false) := block_cell gp rfl
 have p3 : w4.cell? ⟨N2, 3, none⟩ = some (.bool true) := block_cell gp rfl
 have p4 : w4.cell? ⟨N2, 4, none⟩ = some (.bool false) := block_cell gp rfl
 have p5 : w4.cell? ⟨N2, 5, none⟩ = some (.bool false) := block_cell gp rfl
 obtain ⟨c0, c1, c2, c3, c4, c5, c6, c7, c8, c9⟩ := HGX.out.at
 rw [hk] at c0
 clear gp
 go_wp2_with fail
 refine (wo_num1 HK4.out 6 (by omega) (by simp)).mono ?_
 rintro e w5 ⟨rfl, hkk⟩
 have HK5 := Lib.hid hkk
 clear hkk HK4
 clear p0 p1 p2 p3 p4 p5 c0 c1 c2 c3 c4 c5 c6 c7 c8 c9 HGX
 have gp := block_later HPX.out HK5.out.below
 have HGX := Lib.hid (HX3.out.later HK5.out.below)
 have p0 : w5.cell? ⟨N2, 0, none⟩ = some (.bool false) := block_cell gp rfl
 have p1 : w5.cell? ⟨N2, 1, none⟩ = some (.bool true) := block_cell gp rfl
 have p2 : w5.cell? ⟨N2, 2, none⟩ = some (.bool false) := block_cell gp rfl
 have p3 : w5.cell? ⟨N2, 3, none⟩ = some (.bool true) := block_cell gp rfl
 have p4 : w5.cell? ⟨N2, 4, none⟩ = some (.bool false) := block_cell gp rfl
 have p5 : w5.cell? ⟨N2, 5, none⟩ = some (.bool false) := block_cell gp rfl
 obtain ⟨c0, c1, c2, c3, c4, c5, c6, c7, c8, c9⟩ := HGX.out.at
 rw [hk] at c0
 clear gp
 go_wp2_with fail
 refine (wo_num4 HK5.out r.tx HOK.out.tx (by simp only [List.length_append, List.length_nil, le_len]; omega)).mono ?_
 rintro e w6 ⟨rfl, hkk⟩
 have HK6 := Lib.hid hkk
 clear hkk HK5
 clear p0 p1 p2 p3 p4 p5 c0 c1 c2 c3 c4 c5 c6 c7 c8 c9 HGX
 have gp := block_later HPX.out HK6.out.below
 have HGX := Lib.hid (HX3.out.later HK6.out.below)
 have p0 : w6.cell? ⟨N2, 0, none⟩ = some (.bool false) := block_cell gp rfl
 have p1 : w6.cell? ⟨N2, 1, none⟩ = some (.bool true) := block_cell gp rfl
 have p2 : w6.cell? ⟨N2, 2, none⟩ = some (.bool false) := block_cell gp rfl
 have p3 : w6.cell? ⟨N2, 3, none⟩ = some (.bool true) := block_cell gp rfl
 have p4 : w6.cell? ⟨N2, 4, none⟩ = some (.bool false) := block_cell gp rfl
 have p5 : w6.cell? ⟨N2, 5, none⟩ = some (.bool false) := block_cell gp rfl
 obtain ⟨c0, c1, c2, c3, c4, c5, c6, c7, c8, c9⟩ := HGX.out.at
 rw [hk] at c0
 clear gp
 go_wp2_with fail
 have HKb := Lib.hid (HK6.out.later (Chg.of_below (S := fun _ => False) ((Below.refl w6.heap.size w6).alloc (Nat.le_refl _) (.cells #[.int .u8 r.ka, .int .u8 r.kb, .int .u8 r.kc] 5))))
 refine (wo_raw HKb.out (some ⟨w6.heap.size, 0, none⟩) 3 3 (keyB (r.ka, r.kb, r.kc)) (sl_three r.ka r.kb r.kc HOK.out.key.1 HOK.out.key.2.1 HOK.out.key.2.2 w6) (by simp only [List.length_append, List.length_nil, le_len]; omega)).mono ?_
 rintro e w7 ⟨rfl, hkk⟩
 have HK7 := Lib.hid hkk
 clear hkk HK6 HKb
 clear p0 p1 p2 p3 p4 p5 c0 c1 c2 c3 c4 c5 c6 c7 c8 c9 HGX
 have gp := block_later HPX.out HK7.out.below
 have HGX := Lib.hid (HX3.out.later HK7.out.below)
 have p0 : w7.cell? ⟨N2, 0, none⟩ = some (.bool false) := block_cell gp rfl
 have p1 : w7.cell? ⟨N2, 1, none⟩ = some (.bool true) := block_cell gp rfl
 have p2 : w7.cell? ⟨N2, 2, none⟩ = some (.bool false) := block_cell gp rfl
 have p3 : w7.cell? ⟨N2, 3, none⟩ = some (.bool true) := block_cell gp rfl
 have p4 : w7.cell? ⟨N2, 4, none⟩ = some (.bool false) := block_cell gp rfl
 have p5 : w7.cell? ⟨N2, 5, none⟩ = some (.bool false) := block_cell gp rfl
 obtain ⟨c0, c1, c2, c3, c4, c5, c6, c7, c8, c9⟩ := HGX.out.at
 rw [hk] at c0
 clear gp
 go_wp2_with fail
 refine (wo_int HK7.out r.d HOK.out.d (by simp only [List.length_append, List.length_nil, le_len, keyB, List.length_cons]; omega)).mono ?_
 rintro e w8 ⟨rfl, hkk⟩
 have HK8 := Lib.hid hkk
 clear hkk HK7
 clear p0 p1 p2 p3 p4 p5 c0 c1 c2 c3 c4 c5 c6 c7 c8 c9 HGX
 have gp := block_later HPX.out HK8.out.below
 have HGX := Lib.hid (HX3.out.later HK8.out.below)
 have p0 : w8.cell? ⟨N2, 0, none⟩ = some (.bool false) := block_cell gp rfl
 have p1 : w8.cell? ⟨N2, 1, none⟩ = some (.bool true) := block_cell gp rfl
 have p2 : w8.cell? ⟨N2, 2, none⟩ = some (.bool false) := block_cell gp rfl
 have p3 : w8.cell? ⟨N2, 3, none⟩ = some (.bool true) := block_cell gp rfl
 have p4 : w8.cell? ⟨N2, 4, none⟩ = some (.bool false) := block_cell gp rfl
 have p5 : w8.cell? ⟨N2, 5, none⟩ = some (.bool false) := block_cell gp rfl
 obtain ⟨c0, c1, c2, c3, c4, c5, c6, c7, c8, c9⟩ := HGX.out.at
 rw [hk] at c0
 clear gp
 go_wp2_with fail
 have hbx : ((((([] : List Nat) ++ le ((6 : Int)).toNat 1) ++ le r.tx.toNat 4) ++ keyB (r.ka, r.kb, r.kc)) ++ le (u64 r.d) 8) = bytesX (r.x L T M) := by
  unfold bytesX
  rw [show ((r.x L T M)).k = 6 from hk]
  simp [kS, kT, kB, kA, kO, kP, Rv.x, List.append_assoc]
 have hlx : (bytesX (r.x L T M)).length ≤ 100000 := by rw [← hbx]; simp only [List.length_append, List.length_nil, List.length_cons, le_len, keyB]; omega
 have HKz : Hid (WrOk w3 w8 Bw 512 (0, bytesX (r.x L T M))) := Lib.hid (by rw [← hbx]; exact HK8.out)
 clear hbx HK8
 generalize bytesX (r.x L T M) = Z at *
 refine (done_good w3 w8 Bw 512 Z HKz.out hlx).mono ?_
 rintro e w9 ⟨pz', cz, rfl, hbz, hsz, _⟩
 have HF : Hid (GivesB W Z (.returned (.tuple #[.slice pz' Z.length cz, .int .i64 0])) w9) := Lib.hid ⟨pz', cz, rfl, hsz, HB3.out.trans (hbz.mono HB3.out.size)⟩
 clear hbz hsz hlx
 generalize Z.length = nz at *
 clear p0 p1 p2 p3 p4 p5 c0 c1 c2 c3 c4 c5 c6 c7 c8 c9 HGX
 go_wp2_with fail
 go_ret2
 exact HF.out
set_option maxHeartbeats 8000000 in
theorem rec_write7 (r : Rv) (L : List Ln) (T : List Tk) (M : List Ln) (W : World) (hok : Rxok (r.x L T M)) (hk : r.k = 7) : Calls Tryz.prog 84 #[.agg (rcs r)] W (GivesB W (bytesX (r.x L T M))) := by
 obtain ⟨W1, hW1, hb1⟩ : ∃ W1, W.alloc (.cells (rcs r) 51) = W1 ∧ Below W.heap.size W W1 := ⟨_, rfl, (Below.refl _ _).alloc (Nat.le_refl _) _⟩
 obtain ⟨B, hB⟩ : ∃ B, W.heap.size = B := ⟨_, rfl⟩
 have hrb := RB.new W r
 rw [hW1, hB] at hrb
 have HX1 := Lib.hid hrb
 have HW1 := Lib.hid hW1
 have HB1 := Lib.hid hb1
 have HRE := Lib.hid hB
 have c0 : W1.cell? ⟨B, 0, none⟩ = some (.int .u8 r.k) := block_cell hrb rfl
 rw [hk] at c0
 clear hW1 hb1 hB hrb
 have HOK := Lib.hid hok
 have u1 := wrap_u64 hok.sg
 have u2 := wrap_u64 hok.tx
 have u3 : IntKind.u64.wrap r.st = r.st := wrap_u64 ⟨hok.st.1, Int.le_trans hok.st.2 (by decide)⟩
 have u4 : IntKind.u64.wrap r.o = r.o := wrap_u64 ⟨hok.o.1, Int.le_trans hok.o.2 (by decide)⟩
 change IntKind.u64.wrap r.sg = r.sg at u1
 change IntKind.u64.wrap r.tx = r.tx at u2
 have hpa := parts_any 7 W1
 unfold GivesPt at hpa
 rw [show ptc 7 = #[.bool false, .bool true, .bool false, .bool false, .bool false, .bool false] from rfl] at hpa
 clear hok
 go_enter Tryz.func84, Tryz.ntmps84
 go_upto_region 1 with (fail)
 rw [HW1.out, HRE.out]
 go_wp2_with fail
 refine hpa.mono ?_
 rintro e w2 ⟨rfl, h2⟩
 have HB2 := Lib.hid (HB1.out.trans (h2.mono HB1.out.size))
 have HX2 := Lib.hid (HX1.out.later h2)
 clear h2 hpa c0
 obtain ⟨N2, hN2⟩ : ∃ n, w2.heap.size = n := ⟨_, rfl⟩
 obtain ⟨w3, hwn, hxn, hbn⟩ : ∃ w3, (w2.alloc (.cells pz 194)).setRow N2 #[.bool false, .bool true, .bool false, .bool false, .bool false, .bool false] = w3 ∧ w3.heap[N2]? = some (.cells #[.bool false, .bool true, .bool false, .bool false, .bool false, .bool false] 194 (0, 0)) ∧ Below w2.heap.size w2 w3 := ⟨_, rfl, by rw [← hN2]; exact setRow_heap _ _ _ _ _ _ (alloc_block w2 _), below_setRow ((Below.refl _ _).alloc (Nat.le_refl _) _) (by omega) _⟩
 have hx2 := alloc_block w2 (.cells pz 194)
 rw [hN2] at hx2
 have HPX := Lib.hid hxn
 have HPZ := Lib.hid hx2
 have HBN := Lib.hid hbn
 have HWN := Lib.hid hwn
 have HNN := Lib.hid hN2
 have HS6 : Hid ((#[.bool false, .bool true, .bool false, .bool false, .bool false, .bool false] : Array Value).size = 6) := Lib.hid rfl
 have HA6 : Hid ((#[.bool false, .bool true, .bool false, .bool false, .bool false, .bool false] : Array Value).all (·.oneCell') = true) := Lib.hid (by simp [Value.oneCell'])
 clear hx2 hxn hbn hwn hN2
 have HB3 := Lib.hid (HB2.out.trans (HBN.out.mono HB2.out.size))
 have HX3 := Lib.hid (HX2.out.later HBN.out)
 go_wp2_with ((try rw [HNN.out]); (with_reducible refine wpList_store_pt #[.bool false, .bool true, .bool false, .bool false, .bool false, .bool false] HS6.out HA6.out HPZ.out ?_ ?_ ?_); rfl; rfl; rw [HWN.out])
 refine (new_ok w3 w3 512 (Below.refl _ _)).mono ?_
 rintro e w4 ⟨Bw, rfl, hkk⟩
 rw [show lim 512 = 512 from rfl] at hkk
 have HK4 := Lib.hid hkk
 clear hkk
 have gp := block_later HPX.out HK4.out.below
 have HGX := Lib.hid (HX3.out.later HK4.out.below)
 have p0 : w4.cell? ⟨N2, 0, none⟩ = some (.bool false) := block_cell gp rfl
 have p1 : w4.cell? ⟨N2, 1, none⟩ = some (.bool true) := block_cell gp rfl
 have p2 : w4.cell? ⟨N2, 2, none⟩ = some (.bool false) := block_cell gp rfl
 have p3 : w4.cell? ⟨N2, 3, none⟩ = some (.bool false) := block_cell gp rfl
 have p4 : w4.cell? ⟨N2, 4, none⟩ = some (.bool false) := block_cell gp rfl
 have p5 : w4.cell? ⟨N2, 5, none⟩ = some (.bool false) := block_cell gp rfl
 obtain ⟨c0, c1, c2, c3, c4, c5, c6, c7, c8, c9⟩ := HGX.out.at
 rw [hk] at c0
 clear gp
 go_wp2_with fail
 refine (wo_num1 HK4.out 7 (by omega) (by simp)).mono ?_
 rintro e w5 ⟨rfl, hkk⟩
 have HK5 := Lib.hid hkk
 clear hkk HK4
 clear p0 p1 p2 p3 p4 p5 c0 c1 c2 c3 c4 c5 c6 c7 c8 c9 HGX
 have gp := block_later HPX.out HK5.out.below
 have HGX := Lib.hid (HX3.out.later HK5.out.below)
 have p0 : w5.cell? ⟨N2, 0, none⟩ = some (.bool false) := block_cell gp rfl
 have p1 : w5.cell? ⟨N2, 1, none⟩ = some (.bool true) := block_cell gp rfl
 have p2 : w5.cell? ⟨N2, 2, none⟩ = some (.bool false) := block_cell gp rfl
 have p3 : w5.cell? ⟨N2, 3, none⟩ = some (.bool false) := block_cell gp rfl
 have p4 : w5.cell? ⟨N2, 4, none⟩ = some (.bool false) := block_cell gp rfl
 have p5 : w5.cell? ⟨N2, 5, none⟩ = some (.bool false) := block_cell gp rfl
 obtain ⟨c0, c1, c2, c3, c4, c5, c6, c7, c8, c9⟩ := HGX.out.at
 rw [hk] at c0
 clear gp
 go_wp2_with fail
 refine (wo_num4 HK5.out r.tx HOK.out.tx (by simp only [List.length_append, List.length_nil, le_len]; omega)).mono ?_
 rintro e w6 ⟨rfl, hkk⟩
 have HK6 := Lib.hid hkk
 clear hkk HK5
 clear p0 p1 p2 p3 p4 p5 c0 c1 c2 c3 c4 c5 c6 c7 c8 c9 HGX
 have gp := block_later HPX.out HK6.out.below
 have HGX := Lib.hid (HX3.out.later HK6.out.below)
 have p0 : w6.cell? ⟨N2, 0, none⟩ = some (.bool false) := block_cell gp rfl
 have p1 : w6.cell? ⟨N2, 1, none⟩ = some (.bool true) := block_cell gp rfl
 have p2 : w6.cell? ⟨N2, 2, none⟩ = some (.bool false) := block_cell gp rfl
 have p3 : w6.cell? ⟨N2, 3, none⟩ = some (.bool false) := block_cell gp rfl
 have p4 : w6.cell? ⟨N2, 4, none⟩ = some (.bool false) := block_cell gp rfl
 have p5 : w6.cell? ⟨N2, 5, none⟩ = some (.bool false) := block_cell gp rfl
 obtain ⟨c0, c1, c2, c3, c4, c5, c6, c7, c8, c9⟩ := HGX.out.at
 rw [hk] at c0
 clear gp
 go_wp2_with fail
 have hbx : ((([] : List Nat) ++ le ((7 : Int)).toNat 1) ++ le r.tx.toNat 4) = bytesX (r.x L T M) := by
  unfold bytesX
  rw [show ((r.x L T M)).k = 7 from hk]
  simp [kS, kT, kB, kA, kO, kP, Rv.x, List.append_assoc]
 have hlx : (bytesX (r.x L T M)).length ≤ 100000 := by rw [← hbx]; simp only [List.length_append, List.length_nil, List.length_cons, le_len, keyB]; omega
 have HKz : Hid (WrOk w3 w6 Bw 512 (0, bytesX (r.x L T M))) := Lib.hid (by rw [← hbx]; exact HK6.out)
 clear hbx HK6
 generalize bytesX (r.x L T M) = Z at *
 refine (done_good w3 w6 Bw 512 Z HKz.out hlx).mono ?_
 rintro e w7 ⟨pz', cz, rfl, hbz, hsz, _⟩
 have HF : Hid (GivesB W Z (.returned (.tuple #[.slice pz' Z.length cz, .int .i64 0])) w7) := Lib.hid ⟨pz', cz, rfl, hsz, HB3.out.trans (hbz.mono HB3.out.size)⟩
 clear hbz hsz hlx
 generalize Z.length = nz at *
 clear p0 p1 p2 p3 p4 p5 c0 c1 c2 c3 c4 c5 c6 c7 c8 c9 HGX
 go_wp2_with fail
 go_ret2
 exact HF.out
set_option maxHeartbeats 8000000 in
theorem rec_write8 (r : Rv) (L : List Ln) (T : List Tk) (M : List Ln) (W : World) (hok : Rxok (r.x L T M)) (hk : r.k = 8) : Calls Tryz.prog 84 #[.agg (rcs r)] W (GivesB W (bytesX (r.x L T M))) := by
 obtain ⟨W1, hW1, hb1⟩ : ∃ W1, W.alloc (.cells (rcs r) 51) = W1 ∧ Below W.heap.size W W1 := ⟨_, rfl, (Below.refl _ _).alloc (Nat.le_refl _) _⟩
 obtain ⟨B, hB⟩ : ∃ B, W.heap.size = B := ⟨_, rfl⟩
 have hrb := RB.new W r
 rw [hW1, hB] at hrb
 have HX1 := Lib.hid hrb
 have HW1 := Lib.hid hW1
 have HB1 := Lib.hid hb1
 have HRE := Lib.hid hB
 have c0 : W1.cell? ⟨B, 0, none⟩ = some (.int .u8 r.k) := block_cell hrb rfl
 rw [hk] at c0
 clear hW1 hb1 hB hrb
 have HOK := Lib.hid hok
 have u1 := wrap_u64 hok.sg
 have u2 := wrap_u64 hok.tx
 have u3 : IntKind.u64.wrap r.st = r.st := wrap_u64 ⟨hok.st.1, Int.le_trans hok.st.2 (by decide)⟩
 have u4 : IntKind.u64.wrap r.o = r.o := wrap_u64 ⟨hok.o.1, Int.le_trans hok.o.2 (by decide)⟩
 change IntKind.u64.wrap r.sg = r.sg at u1
 change IntKind.u64.wrap r.tx = r.tx at u2
 have hpa := parts_any 8 W1
 unfold GivesPt at hpa
 rw [show ptc 8 = #[.bool true, .bool false, .bool false, .bool false, .bool false, .bool false] from rfl] at hpa
 clear hok
 go_enter Tryz.func84, Tryz.ntmps84
 go_upto_region 1 with (fail)
 rw [HW1.out, HRE.out]
 go_wp2_with fail
 refine hpa.mono ?_
 rintro e w2 ⟨rfl, h2⟩
 have HB2 := Lib.hid (HB1.out.trans (h2.mono HB1.out.size))
 have HX2 := Lib.hid (HX1.out.later h2)
 clear h2 hpa c0
 obtain ⟨N2, hN2⟩ : ∃ n, w2.heap.size = n := ⟨_, rfl⟩
 obtain ⟨w3, hwn, hxn, hbn⟩ : ∃ w3, (w2.alloc (.cells pz 194)).setRow N2 #[.bool true, .bool false, .bool false, .bool false, .bool false, .bool false] = w3 ∧ w3.heap[N2]? = some (.cells #[.bool true, .bool false, .bool false, .bool false, .bool false, .bool false] 194 (0, 0)) ∧ Below w2.heap.size w2 w3 := ⟨_, rfl, by rw [← hN2]; exact setRow_heap _ _ _ _ _ _ (alloc_block w2 _), below_setRow ((Below.refl _ _).alloc (Nat.le_refl _) _) (by omega) _⟩
 have hx2 := alloc_block w2 (.cells pz 194)
 rw [hN2] at hx2
 have HPX := Lib.hid hxn
 have HPZ := Lib.hid hx2
 have HBN := Lib.hid hbn
 have HWN := Lib.hid hwn
 have HNN := Lib.hid hN2
 have HS6 : Hid ((#[.bool true, .bool false, .bool false, .bool false, .bool false, .bool false] : Array Value).size = 6) := Lib.hid rfl
 have HA6 : Hid ((#[.bool true, .bool false, .bool false, .bool false, .bool false, .bool false] : Array Value).all (·.oneCell') = true) := Lib.hid (by simp [Value.oneCell'])
 clear hx2 hxn hbn hwn hN2
 have HB3 := Lib.hid (HB2.out.trans (HBN.out.mono HB2.out.size))
 have HX3 := Lib.hid (HX2.out.later HBN.out)
 go_wp2_with ((try rw [HNN.out]); (with_reducible refine wpList_store_pt #[.bool true, .bool false, .bool false, .bool false, .bool false, .bool false] HS6.out HA6.out HPZ.out ?_ ?_ ?_); rfl; rfl; rw [HWN.out])
 refine (new_ok w3 w3 512 (Below.refl _ _)).mono ?_
 rintro e w4 ⟨Bw, rfl, hkk⟩
 rw [show lim 512 = 512 from rfl] at hkk
 have HK4 := Lib.hid hkk
 clear hkk
 have gp := block_later HPX.out HK4.out.below
 have HGX := Lib.hid (HX3.out.later HK4.out.below)
 have p0 : w4.cell? ⟨N2, 0, none⟩ = some (.bool true) := block_cell gp rfl
 have p1 : w4.cell? ⟨N2, 1, none⟩ = some (.bool false) := block_cell gp rfl
 have p2 : w4.cell? ⟨N2, 2, none⟩ = some (.bool false) := block_cell gp rfl
 have p3 : w4.cell? ⟨N2, 3, none⟩ = some (.bool false) := block_cell gp rfl
 have p4 : w4.cell? ⟨N2, 4, none⟩ = some (.bool false) := block_cell gp rfl
 have p5 : w4.cell? ⟨N2, 5, none⟩ = some (.bool false) := block_cell gp rfl
 obtain ⟨c0, c1, c2, c3, c4, c5, c6, c7, c8, c9⟩ := HGX.out.at
 rw [hk] at c0
 clear gp
 go_wp2_with fail
 refine (wo_num1 HK4.out 8 (by omega) (by simp)).mono ?_
 rintro e w5 ⟨rfl, hkk⟩
 have HK5 := Lib.hid hkk
 clear hkk HK4
 clear p0 p1 p2 p3 p4 p5 c0 c1 c2 c3 c4 c5 c6 c7 c8 c9 HGX
 have gp := block_later HPX.out HK5.out.below
 have HGX := Lib.hid (HX3.out.later HK5.out.below)
 have p0 : w5.cell? ⟨N2, 0, none⟩ = some (.bool true) := block_cell gp rfl
 have p1 : w5.cell? ⟨N2, 1, none⟩ = some (.bool false) := block_cell gp rfl
 have p2 : w5.cell? ⟨N2, 2, none⟩ = some (.bool false) := block_cell gp rfl
 have p3 : w5.cell? ⟨N2, 3, none⟩ = some (.bool false) := block_cell gp rfl
 have p4 : w5.cell? ⟨N2, 4, none⟩ = some (.bool false) := block_cell gp rfl
 have p5 : w5.cell? ⟨N2, 5, none⟩ = some (.bool false) := block_cell gp rfl
 obtain ⟨c0, c1, c2, c3, c4, c5, c6, c7, c8, c9⟩ := HGX.out.at
 rw [hk] at c0
 clear gp
 go_wp2_with fail
 refine (wo_num4 HK5.out r.sg HOK.out.sg (by simp only [List.length_append, List.length_nil, le_len]; omega)).mono ?_
 rintro e w6 ⟨rfl, hkk⟩
 have HK6 := Lib.hid hkk
 clear hkk HK5
 clear p0 p1 p2 p3 p4 p5 c0 c1 c2 c3 c4 c5 c6 c7 c8 c9 HGX
 have gp := block_later HPX.out HK6.out.below
 have HGX := Lib.hid (HX3.out.later HK6.out.below)
 have p0 : w6.cell? ⟨N2, 0, none⟩ = some (.bool true) := block_cell gp rfl
 have p1 : w6.cell? ⟨N2, 1, none⟩ = some (.bool false) := block_cell gp rfl
 have p2 : w6.cell? ⟨N2, 2, none⟩ = some (.bool false) := block_cell gp rfl
 have p3 : w6.cell? ⟨N2, 3, none⟩ = some (.bool false) := block_cell gp rfl
 have p4 : w6.cell? ⟨N2, 4, none⟩ = some (.bool false) := block_cell gp rfl
 have p5 : w6.cell? ⟨N2, 5, none⟩ = some (.bool false) := block_cell gp rfl
 obtain ⟨c0, c1, c2, c3, c4, c5, c6, c7, c8, c9⟩ := HGX.out.at
 rw [hk] at c0
 clear gp
 go_wp2_with fail
 have hbx : ((([] : List Nat) ++ le ((8 : Int)).toNat 1) ++ le r.sg.toNat 4) = bytesX (r.x L T M) := by
  unfold bytesX
  rw [show ((r.x L T M)).k = 8 from hk]
  simp [kS, kT, kB, kA, kO, kP, Rv.x, List.append_assoc]
 have hlx : (bytesX (r.x L T M)).length ≤ 100000 := by rw [← hbx]; simp only [List.length_append, List.length_nil, List.length_cons, le_len, keyB]; omega
 have HKz : Hid (WrOk w3 w6 Bw 512 (0, bytesX (r.x L T M))) := Lib.hid (by rw [← hbx]; exact HK6.out)
 clear hbx HK6
 generalize bytesX (r.x L T M) = Z at *
 refine (done_good w3 w6 Bw 512 Z HKz.out hlx).mono ?_
 rintro e w7 ⟨pz', cz, rfl, hbz, hsz, _⟩
 have HF : Hid (GivesB W Z (.returned (.tuple #[.slice pz' Z.length cz, .int .i64 0])) w7) := Lib.hid ⟨pz', cz, rfl, hsz, HB3.out.trans (hbz.mono HB3.out.size)⟩
 clear hbz hsz hlx
 generalize Z.length = nz at *
 clear p0 p1 p2 p3 p4 p5 c0 c1 c2 c3 c4 c5 c6 c7 c8 c9 HGX
 go_wp2_with fail
 go_ret2
 exact HF.out
set_option maxHeartbeats 8000000 in
theorem rec_write9 (r : Rv) (L : List Ln) (T : List Tk) (M : List Ln) (W : World) (hok : Rxok (r.x L T M)) (hk : r.k = 9) : Calls Tryz.prog 84 #[.agg (rcs r)] W (GivesB W (bytesX (r.x L T M))) := by
 obtain ⟨W1, hW1, hb1⟩ : ∃ W1, W.alloc (.cells (rcs r) 51) = W1 ∧ Below W.heap.size W W1 := ⟨_, rfl, (Below.refl _ _).alloc (Nat.le_refl _) _⟩
 obtain ⟨B, hB⟩ : ∃ B, W.heap.size = B := ⟨_, rfl⟩
 have hrb := RB.new W r
 rw [hW1, hB] at hrb
 have HX1 := Lib.hid hrb
 have HW1 := Lib.hid hW1
 have HB1 := Lib.hid hb1
 have HRE := Lib.hid hB
 have c0 : W1.cell? ⟨B, 0, none⟩ = some (.int .u8 r.k) := block_cell hrb rfl
 rw [hk] at c0
 clear hW1 hb1 hB hrb
 have HOK := Lib.hid hok
 have u1 := wrap_u64 hok.sg
 have u2 := wrap_u64 hok.tx
 have u3 : IntKind.u64.wrap r.st = r.st := wrap_u64 ⟨hok.st.1, Int.le_trans hok.st.2 (by decide)⟩
 have u4 : IntKind.u64.wrap r.o = r.o := wrap_u64 ⟨hok.o.1, Int.le_trans hok.o.2 (by decide)⟩
 change IntKind.u64.wrap r.sg = r.sg at u1
 change IntKind.u64.wrap r.tx = r.tx at u2
 have hpa := parts_any 9 W1
 unfold GivesPt at hpa
 rw [show ptc 9 = #[.bool true, .bool false, .bool false, .bool false, .bool true, .bool false] from rfl] at hpa
 clear hok
 go_enter Tryz.func84, Tryz.ntmps84
 go_upto_region 1 with (fail)
 rw [HW1.out, HRE.out]
 go_wp2_with fail
 refine hpa.mono ?_
 rintro e w2 ⟨rfl, h2⟩
 have HB2 := Lib.hid (HB1.out.trans (h2.mono HB1.out.size))
 have HX2 := Lib.hid (HX1.out.later h2)
 clear h2 hpa c0
 obtain ⟨N2, hN2⟩ : ∃ n, w2.heap.size = n := ⟨_, rfl⟩
 obtain ⟨w3, hwn, hxn, hbn⟩ : ∃ w3, (w2.alloc (.cells pz 194)).setRow N2 #[.bool true, .bool false, .bool false, .bool false, .bool true, .bool false] = w3 ∧ w3.heap[N2]? = some (.cells #[.bool true, .bool false, .bool false, .bool false, .bool true, .bool false] 194 (0, 0)) ∧ Below w2.heap.size w2 w3 := ⟨_, rfl, by rw [← hN2]; exact setRow_heap _ _ _ _ _ _ (alloc_block w2 _), below_setRow ((Below.refl _ _).alloc (Nat.le_refl _) _) (by omega) _⟩
 have hx2 := alloc_block w2 (.cells pz 194)
 rw [hN2] at hx2
 have HPX := Lib.hid hxn
 have HPZ := Lib.hid hx2
 have HBN := Lib.hid hbn
 have HWN := Lib.hid hwn
 have HNN := Lib.hid hN2
 have HS6 : Hid ((#[.bool true, .bool false, .bool false, .bool false, .bool true, .bool false] : Array Value).size = 6) := Lib.hid rfl
 have HA6 : Hid ((#[.bool true, .bool false, .bool false, .bool false, .bool true, .bool false] : Array Value).all (·.oneCell') = true) := Lib.hid (by simp [Value.oneCell'])
 clear hx2 hxn hbn hwn hN2
 have HB3 := Lib.hid (HB2.out.trans (HBN.out.mono HB2.out.size))
 have HX3 := Lib.hid (HX2.out.later HBN.out)
 go_wp2_with ((try rw [HNN.out]); (with_reducible refine wpList_store_pt #[.bool true, .bool false, .bool false, .bool false, .bool true, .bool false] HS6.out HA6.out HPZ.out ?_ ?_ ?_); rfl; rfl; rw [HWN.out])
 refine (new_ok w3 w3 512 (Below.refl _ _)).mono ?_
 rintro e w4 ⟨Bw, rfl, hkk⟩
 rw [show lim 512 = 512 from rfl] at hkk
 have HK4 := Lib.hid hkk
 clear hkk
 have gp := block_later HPX.out HK4.out.below
 have HGX := Lib.hid (HX3.out.later HK4.out.below)
 have p0 : w4.cell? ⟨N2, 0, none⟩ = some (.bool true) := block_cell gp rfl
 have p1 : w4.cell? ⟨N2, 1, none⟩ = some (.bool false) := block_cell gp rfl
 have p2 : w4.cell? ⟨N2, 2, none⟩ = some (.bool false) := block_cell gp rfl
 have p3 : w4.cell? ⟨N2, 3, none⟩ = some (.bool false) := block_cell gp rfl
 have p4 : w4.cell? ⟨N2, 4, none⟩ = some (.bool true) := block_cell gp rfl
 have p5 : w4.cell? ⟨N2, 5, none⟩ = some (.bool false) := block_cell gp rfl
 obtain ⟨c0, c1, c2, c3, c4, c5, c6, c7, c8, c9⟩ := HGX.out.at
 rw [hk] at c0
 clear gp
 go_wp2_with fail
 refine (wo_num1 HK4.out 9 (by omega) (by simp)).mono ?_
 rintro e w5 ⟨rfl, hkk⟩
 have HK5 := Lib.hid hkk
 clear hkk HK4
 clear p0 p1 p2 p3 p4 p5 c0 c1 c2 c3 c4 c5 c6 c7 c8 c9 HGX
 have gp := block_later HPX.out HK5.out.below
 have HGX := Lib.hid (HX3.out.later HK5.out.below)
 have p0 : w5.cell? ⟨N2, 0, none⟩ = some (.bool true) := block_cell gp rfl
 have p1 : w5.cell? ⟨N2, 1, none⟩ = some (.bool false) := block_cell gp rfl
 have p2 : w5.cell? ⟨N2, 2, none⟩ = some (.bool false) := block_cell gp rfl
 have p3 : w5.cell? ⟨N2, 3, none⟩ = some (.bool false) := block_cell gp rfl
 have p4 : w5.cell? ⟨N2, 4, none⟩ = some (.bool true) := block_cell gp rfl
 have p5 : w5.cell? ⟨N2, 5, none⟩ = some (.bool false) := block_cell gp rfl
 obtain ⟨c0, c1, c2, c3, c4, c5, c6, c7, c8, c9⟩ := HGX.out.at
 rw [hk] at c0
 clear gp
 go_wp2_with fail
 refine (wo_num4 HK5.out r.sg HOK.out.sg (by simp only [List.length_append, List.length_nil, le_len]; omega)).mono ?_
 rintro e w6 ⟨rfl, hkk⟩
 have HK6 := Lib.hid hkk
 clear hkk HK5
 clear p0 p1 p2 p3 p4 p5 c0 c1 c2 c3 c4 c5 c6 c7 c8 c9 HGX
 have gp := block_later HPX.out HK6.out.below
 have HGX := Lib.hid (HX3.out.later HK6.out.below)
 have p0 : w6.cell? ⟨N2, 0, none⟩ = some (.bool true) := block_cell gp rfl
 have p1 : w6.cell? ⟨N2, 1, none⟩ = some (.bool false) := block_cell gp rfl
 have p2 : w6.cell? ⟨N2, 2, none⟩ = some (.bool false) := block_cell gp rfl
 have p3 : w6.cell? ⟨N2, 3, none⟩ = some (.bool false) := block_cell gp rfl
 have p4 : w6.cell? ⟨N2, 4, none⟩ = some (.bool true) := block_cell gp rfl
 have p5 : w6.cell? ⟨N2, 5, none⟩ = some (.bool false) := block_cell gp rfl
 obtain ⟨c0, c1, c2, c3, c4, c5, c6, c7, c8, c9⟩ := HGX.out.at
 rw [hk] at c0
 clear gp
 go_wp2_with fail
 refine (wo_num1 HK6.out r.o HOK.out.o (by simp only [List.length_append, List.length_nil, le_len]; omega)).mono ?_
 rintro e w7 ⟨rfl, hkk⟩
 have HK7 := Lib.hid hkk
 clear hkk HK6
 clear p0 p1 p2 p3 p4 p5 c0 c1 c2 c3 c4 c5 c6 c7 c8 c9 HGX
 have gp := block_later HPX.out HK7.out.below
 have HGX := Lib.hid (HX3.out.later HK7.out.below)
 have p0 : w7.cell? ⟨N2, 0, none⟩ = some (.bool true) := block_cell gp rfl
 have p1 : w7.cell? ⟨N2, 1, none⟩ = some (.bool false) := block_cell gp rfl
 have p2 : w7.cell? ⟨N2, 2, none⟩ = some (.bool false) := block_cell gp rfl
 have p3 : w7.cell? ⟨N2, 3, none⟩ = some (.bool false) := block_cell gp rfl
 have p4 : w7.cell? ⟨N2, 4, none⟩ = some (.bool true) := block_cell gp rfl
 have p5 : w7.cell? ⟨N2, 5, none⟩ = some (.bool false) := block_cell gp rfl
 obtain ⟨c0, c1, c2, c3, c4, c5, c6, c7, c8, c9⟩ := HGX.out.at
 rw [hk] at c0
 clear gp
 go_wp2_with fail
 have hbx : (((([] : List Nat) ++ le ((9 : Int)).toNat 1) ++ le r.sg.toNat 4) ++ le r.o.toNat 1) = bytesX (r.x L T M) := by
  unfold bytesX
  rw [show ((r.x L T M)).k = 9 from hk]
  simp [kS, kT, kB, kA, kO, kP, Rv.x, List.append_assoc]
 have hlx : (bytesX (r.x L T M)).length ≤ 100000 := by rw [← hbx]; simp only [List.length_append, List.length_nil, List.length_cons, le_len, keyB]; omega
 have HKz : Hid (WrOk w3 w7 Bw 512 (0, bytesX (r.x L T M))) := Lib.hid (by rw [← hbx]; exact HK7.out)
 clear hbx HK7
 generalize bytesX (r.x L T M) = Z at *
 refine (done_good w3 w7 Bw 512 Z HKz.out hlx).mono ?_
 rintro e w8 ⟨pz', cz, rfl, hbz, hsz, _⟩
 have HF : Hid (GivesB W Z (.returned (.tuple #[.slice pz' Z.length cz, .int .i64 0])) w8) := Lib.hid ⟨pz', cz, rfl, hsz, HB3.out.trans (hbz.mono HB3.out.size)⟩
 clear hbz hsz hlx
 generalize Z.length = nz at *
 clear p0 p1 p2 p3 p4 p5 c0 c1 c2 c3 c4 c5 c6 c7 c8 c9 HGX
 go_wp2_with fail
 go_ret2
 exact HF.out
def GivesEn (W : World) (X : Rx) (e : Ending) (w' : World) : Prop := Below W.heap.size W w' ∧ if goodX X = true then ∃ p c, e = .returned (.tuple #[.slice p (bytesX X).length c, .int .i64 0]) ∧ Sl w' p (bytesX X).length c (bytesX X) else e = .returned (.tuple #[.slice none 0 0, .int .i64 1])
theorem rec_write_any (r : Rv) (L : List Ln) (T : List Tk) (M : List Ln) (W : World) (hok : Rxok (r.x L T M)) (hk : kOk r.k = true) (hw : Words W) (hP : RvM W r L T M) (h1 : r.ln ≤ 400 ∧ r.tn ≤ 400 ∧ r.wn ≤ 400) (hg : r.k = 1 → goodP 4 4 (r.pg L T M) = true) : Calls Tryz.prog 84 #[.agg (rcs r)] W (GivesB W (bytesX (r.x L T M))) := by
 rcases kOk_cases hk with h | h | h | h | h | h | h | h | h
 · exact rec_write1 r L T M W hok h hw hP h1 (hg h)
 · exact rec_write2 r L T M W hok h
 · exact rec_write3 r L T M W hok h
 · exact rec_write4 r L T M W hok h
 · exact rec_write5 r L T M W hok h
 · exact rec_write6 r L T M W hok h
 · exact rec_write7 r L T M W hok h
 · exact rec_write8 r L T M W hok h
 · exact rec_write9 r L T M W hok h
set_option maxHeartbeats 2000000 in
theorem rec_encode (r : Rv) (L : List Ln) (T : List Tk) (M : List Ln) (W : World) (hw : Words W) (hP : RvM W r L T M) (hok : Rxok (r.x L T M)) (h1 : r.ln ≤ 400 ∧ r.tn ≤ 400 ∧ r.wn ≤ 400) : Calls Tryz.prog 46 #[.agg (rcs r)] W (GivesEn W (r.x L T M)) := by
 obtain ⟨W1, hW1, hb1⟩ : ∃ W1, W.alloc (.cells (rcs r) 51) = W1 ∧ Below W.heap.size W W1 := ⟨_, rfl, (Below.refl _ _).alloc (Nat.le_refl _) _⟩
 obtain ⟨B, hB⟩ : ∃ B, W.heap.size = B := ⟨_, rfl⟩
 have hrb := RB.new W r
 rw [hW1, hB] at hrb
 have HX1 := Lib.hid hrb
 have HW1 := Lib.hid hW1
 have HB1 := Lib.hid hb1
 have HRE := Lib.hid hB
 clear hW1 hb1 hB hrb
 have hgd := rec_good r L T M W1 (hw.later HB1.out) (hP.later HB1.out) hok h1
 have HWR := Lib.hid (fun (h : goodX (r.x L T M) = true) W' (hb : Below W.heap.size W W') => rec_write_any r L T M W' hok (goodX_kOk h) (hw.later hb) (hP.later hb) h1 (fun hk => by have := goodX_prog h; rw [show (r.x L T M).k = 1 from hk] at this; exact this))
 clear hw hP hok h1
 cases hg : goodX (r.x L T M) with
 | false =>
  rw [hg] at hgd
  have HG := Lib.hid hg
  clear hg
  go_enter Tryz.func46, Tryz.ntmps46
  go_upto_region 1 with (fail)
  rw [HW1.out, HRE.out]
  go_wp2_with ((with_reducible refine wpList_load_rc HX1.out ?_ ?_); rfl)
  refine hgd.mono ?_
  rintro e w2 ⟨rfl, h2⟩
  have HF : Hid (GivesEn W (r.x L T M) (.returned (.tuple #[.slice none 0 0, .int .i64 1])) w2) := Lib.hid ⟨HB1.out.trans (h2.mono HB1.out.size), by rw [HG.out, if_neg (by decide)]⟩
  clear h2 hgd
  go_wp2_with fail
  go_ret2
  exact HF.out
 | true =>
  rw [hg] at hgd
  have HG := Lib.hid hg
  clear hg
  go_enter Tryz.func46, Tryz.ntmps46
  go_upto_region 1 with (fail)
  rw [HW1.out, HRE.out]
  go_wp2_with ((with_reducible refine wpList_load_rc HX1.out ?_ ?_); rfl)
  refine hgd.mono ?_
  rintro e w2 ⟨rfl, h2⟩
  have HB2 := Lib.hid (HB1.out.trans (h2.mono HB1.out.size))
  have HX2 := Lib.hid (HX1.out.later h2)
  clear h2 hgd
  go_wp2_with ((with_reducible refine wpList_load_rc HX2.out ?_ ?_); rfl)
  refine (HWR.out HG.out w2 HB2.out).mono ?_
  rintro e w3 ⟨p3, c3, rfl, hs3, hb3⟩
  have HF : Hid (GivesEn W (r.x L T M) (.returned (.tuple #[.slice p3 (bytesX (r.x L T M)).length c3, .int .i64 0])) w3) := Lib.hid ⟨HB2.out.trans (hb3.mono HB2.out.size), by rw [HG.out, if_pos rfl]; exact ⟨p3, c3, rfl, hs3⟩⟩
  clear hs3 hb3
  generalize (bytesX (r.x L T M)).length = n at *
  go_wp2_with fail
  go_ret2
  exact HF.out
theorem noP_ok : Pgok noP := ⟨by simp [noP], by simp [noP], by simp [noP], (fun x hx => by cases hx), (fun x hx => by cases hx), (fun x hx => by cases hx), by simp [noP], by simp [noP], by simp [noP], by simp [noP, In64]⟩
def rk (k : Int) : Rv := ⟨k, 0, 0, 0, false, 0, 0, 0, 0, 0, 0, 0, 0, none, 0, 0, none, 0, 0, none, 0, 0, 0, 0, 0, 0⟩
end Go.Proofs.YtfdgnniicjdjdaaGreatDoor
