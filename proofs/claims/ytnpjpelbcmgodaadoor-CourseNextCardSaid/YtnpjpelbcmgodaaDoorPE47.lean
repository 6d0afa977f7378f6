import Derived.Test.YtnpjpelbcmgodaaDoorPE99
import Derived.Test.YtnpjpelbcmgodaaDoorPE45
import Derived.Test.YtnpjpelbcmgodaaDoorPE46
import Derived.Test.YtnpjpelbcmgodaaDoorPE38
namespace Go.Proofs.YtnpjpelbcmgodaaDoor
open Go.Lib (hid)
set_option maxHeartbeats 32000000
open Go.RowKit Go.ChangeShapes Go.WideShapes
set_option linter.unusedVariables false
set_option linter.unusedSimpArgs false
set_option maxRecDepth 10000
theorem cr_three2 (W:World) (c:Cv) (t:Tv) (x0 x1:Int):∃ W1,((W.alloc (.cells (ccs c) 28)).alloc (.cells #[.int .u32 t.c.id,.int .u32 t.c.sg,.int .u8 t.c.st,.bool t.c.cp,.bool t.c.dd,.slice t.p t.n t.m,.int .i64 t.c.fs,.int .i64 t.c.sz] 36)).alloc (.cells #[.int .i64 x0,.int .i64 x1] 49)=W1∧CB W1 W.heap.size c∧W1.heap[W.heap.size+1]?=some (.cells #[.int .u32 t.c.id,.int .u32 t.c.sg,.int .u8 t.c.st,.bool t.c.cp,.bool t.c.dd,.slice t.p t.n t.m,.int .i64 t.c.fs,.int .i64 t.c.sz] 36 (0,0))∧W1.heap[W.heap.size+2]?=some (.cells #[.int .i64 x0,.int .i64 x1] 49 (0,0))∧Below W.heap.size W W1:=by
 have hb0:Below W.heap.size W (W.alloc (.cells (ccs c) 28)):=(Below.refl _ _).alloc (Nat.le_refl _) _
 have hs:(W.alloc (.cells (ccs c) 28)).heap.size=W.heap.size+1:=by simp only [World.alloc,Array.size_push]
 have hx:=CB.new W c
 obtain⟨V,hV⟩:∃ V,W.alloc (.cells (ccs c) 28)=V:=⟨_,rfl⟩
 rw [hV] at hb0 hs hx ⊢
 have hb1:Below V.heap.size V (V.alloc (.cells #[.int .u32 t.c.id,.int .u32 t.c.sg,.int .u8 t.c.st,.bool t.c.cp,.bool t.c.dd,.slice t.p t.n t.m,.int .i64 t.c.fs,.int .i64 t.c.sz] 36)):=(Below.refl _ _).alloc (Nat.le_refl _) _
 have ht:=z0d V (.cells #[.int .u32 t.c.id,.int .u32 t.c.sg,.int .u8 t.c.st,.bool t.c.cp,.bool t.c.dd,.slice t.p t.n t.m,.int .i64 t.c.fs,.int .i64 t.c.sz] 36)
 have hs1:(V.alloc (.cells #[.int .u32 t.c.id,.int .u32 t.c.sg,.int .u8 t.c.st,.bool t.c.cp,.bool t.c.dd,.slice t.p t.n t.m,.int .i64 t.c.fs,.int .i64 t.c.sz] 36)).heap.size=W.heap.size+2:=by simp only [World.alloc,Array.size_push];omega
 obtain⟨U,hU⟩:∃ U,V.alloc (.cells #[.int .u32 t.c.id,.int .u32 t.c.sg,.int .u8 t.c.st,.bool t.c.cp,.bool t.c.dd,.slice t.p t.n t.m,.int .i64 t.c.fs,.int .i64 t.c.sz] 36)=U:=⟨_,rfl⟩
 rw [hU] at hb1 ht hs1 ⊢
 rw [hs] at ht
 have hb2:Below U.heap.size U (U.alloc (.cells #[.int .i64 x0,.int .i64 x1] 49)):=(Below.refl _ _).alloc (Nat.le_refl _) _
 have hz:=z0d U (.cells #[.int .i64 x0,.int .i64 x1] 49)
 rw [hs1] at hz
 have h3:=hb0.trans (hb1.mono hb0.size)
 exact⟨_,rfl,(hx.later hb1).later hb2,z0a ht hb2,hz,h3.trans (hb2.mono h3.size)⟩
theorem z7v {w:World} {p q:Option Addr} {c d:Nat} {L:List O} (h1:OL w p L.length c L) (h2:OL w q L.length d L) (hn:L.length≤100000):Calls Tryd.prog 21 #[.slice p L.length c,.slice q L.length d] w fun e w'=>e=.returned (.bool true)∧Below w.heap.size w w':=by
 have h:=rsame_o p q L.length L.length c d L L w h1 h2 hn hn
 rw [decide_eq_true rfl] at h
 exact h
theorem opsT_len {s:Stp} (h:z5n s):(opsT s).length≤6:=by
 have h1:=z3u (S:=[s]) fun x hx=>by
  rw [List.mem_singleton.1 hx]
  exact h.2.2.2.2
 have e:z1z [s]=opsT s:=by simp [z1z,opsT]
 rw [e] at h1
 simpa using h1
theorem opsC_len {c:Crs} (hok:Pgok c.P):(opsC c).length≤6:=by
 unfold opsC
 split
 · simp
 · rename_i h
   have hg:z2d c=true:=by
    cases hg:z2d c with
    | true=>rfl
    | false=>exact absurd (.inl hg) h
   have ht:(z1k c).2=true:=by
    cases ht:(z1k c).2 with
    | true=>rfl
    | false=>exact absurd (.inr ht) h
   obtain⟨i,_,_,_,hf⟩:=z7a hg hok ht
   split
   · unfold negF
     rw [List.length_reverse,List.length_map]
     exact opsT_len hf
   · exact opsT_len hf
theorem liveC_len {c:Crs} {t:Tc} (hok:Pgok c.P) (h:t.dn.length≤20):(z4f c t).length≤50:=by
 unfold z4f
 split
 · simp
 · rename_i hg
   have hg':z2d c=true:=by simpa using hg
   have hs:=z3d (z1q hg').2.1 hok
   have h1:=z3u (S:=(z0l c.P).take c.st.toNat) fun s hx=>(hs.2 s (List.mem_of_mem_take hx)).2.2.2.2
   have e:((z0l c.P).take c.st.toNat).flatMap opsT=z1z ((z0l c.P).take c.st.toNat):=rfl
   rw [List.length_append,e]
   have h2:((z0l c.P).take c.st.toNat).length≤5:=by rw [List.length_take];omega
   have h3:(if c.bk=false∧c.tx≠0 then t.dn else []).length≤20:=by
    split
    · exact h
    · simp
   omega
theorem takenC_len {c:Crs} {t:Tc} (h:t.dn.length≤20):(z4s c t).length≤20:=by
 unfold z4s
 split
 · simp
 · rw [List.length_map]
   exact h
theorem law_cnext (c:Cv) (L:List Ln) (T:List Tk) (M:List Ln) (t:Tv) (x0 x1:Int) (W:World) (hw:Words W) (hP:CvM W c L T M) (hok:Crok (c.x L T M)) (hT:TvM W t) (hto:Tcok t.c):Calls Tryd.prog 4 #[.agg (ccs c),.agg #[.int .u32 t.c.id,.int .u32 t.c.sg,.int .u8 t.c.st,.bool t.c.cp,.bool t.c.dd,.slice t.p t.n t.m,.int .i64 t.c.fs,.int .i64 t.c.sz],.agg #[.int .i64 x0,.int .i64 x1]] W fun e w'=>e=.returned (.bool true)∧Below W.heap.size W w':=by
 obtain⟨W1,hW1,hx,ht,hp,hb1⟩:=cr_three2 W c t x0 x1
 obtain⟨B,hB⟩:∃ B,W.heap.size=B:=⟨_,rfl⟩
 rw [hB] at hx ht hp
 have HX:=hid hx
 have HT:=hid ht
 have HPR:=hid hp
 have HW1:=hid hW1
 have HB1:=hid hb1
 have HRE:=hid hB
 have HV:=hid fun w' (hb:Below W.heap.size W w')=>hw.later hb
 have hf1:=cr_few c t W1
 cases q1:fewC c t with
 | false =>
  rw [q1] at hf1
  clear hW1 hx ht hp hb1 hB hw hP hok hT hto q1
  go_enter Tryd.func4,Tryd.ntmps4
  go_upto_region 1 with (fail)
  (rw [HW1.out,HRE.out];try rw [show B+1+1=B+2 from rfl])
  obtain⟨d0,d1,d2,d3,d4,d5,d6,d7⟩:=z0h HT.out
  go_wp2_with ((with_reducible refine z0c HX.out ?_ ?_);rfl)
  refine hf1.mono ?_
  rintro e w2 ⟨rfl,h2⟩
  have HX2:=hid (HX.out.later h2)
  have HT2:=hid (z0a HT.out h2)
  have HP2:=hid (z0a HPR.out h2)
  have HB2:=hid (HB1.out.trans (h2.mono HB1.out.size))
  clear h2 hf1 d0 d1 d2 d3 d4 d5 d6 d7
  go_wp2_with fail
  refine (cr_works w2 (HV.out _ HB2.out)).mono ?_
  rintro e w3 ⟨rfl,h3⟩
  have HB3:=hid (HB2.out.trans (h3.mono HB2.out.size))
  clear h3
  go_wp2_with fail
  go_ret
  exact⟨rfl,HB3.out⟩
 | true =>
  rw [q1] at hf1
  obtain⟨hs1,hs2⟩:=fewC_small q1
  have hz1:c.p.ln≤400∧c.p.tn≤400∧c.p.wn≤400:=by omega
  have hdl:t.c.dn.length≤20:=by rw [hT.len];exact hs2
  obtain⟨id,hiQ⟩:∃ id,IntKind.u32.wrap x1=id:=⟨_,rfl⟩
  have HNX:=hid fun w' (hb:Below W.heap.size W w')=>z7o c L T M w' (hw.later hb) (PgM.later hP hb) hok hz1 t x0 id (hT.later hb) hto.dn (by omega)
  have HRN:=hid fun w' (hb:Below W.heap.size W w')=>cr_rnext c L T M w' (PgM.later hP hb) hok hz1 t x0 id (hT.later hb) hto.dn (by omega)
  have HUN:=hid fun w' (hb:Below W.heap.size W w')=>cr_undo t w' (hT.later hb) hto.dn (by omega)
  have HRU:=hid fun w' (hb:Below W.heap.size W w')=>cr_rundo t w' (hT.later hb) hto.dn (by omega)
  have HSM:Hid (∀ (X:Rx) (w':World),Calls Tryd.prog 16 #[.agg (rcs (rvK X)),.agg (rcs (rvK X))] w' fun e w''=>e=.returned (.bool true)∧Below w'.heap.size w' w''):=hid fun X w'=>by
   have h:=rrec_same (rvK X) (rvK X) [] [] [] [] [] [] w' (z8w X w') (z8w X w') ⟨by simp [rvK],by simp [rvK],by simp [rvK]⟩ ⟨by simp [rvK],by simp [rvK],by simp [rvK]⟩
   rw [decide_eq_true rfl] at h
   exact h
  have HOP:=hid fun w' (hb:Below W.heap.size W w')=>cr_ops c L T M w' (hw.later hb) (PgM.later hP hb) hok hz1
  have HRO:=hid fun w' (hb:Below W.heap.size W w')=>cr_rops c L T M w' (PgM.later hP hb) hok hz1
  have HLV:=hid fun w' (hb:Below W.heap.size W w')=>cr_live c L T M w' (hw.later hb) (PgM.later hP hb) hok hz1 t (hT.later hb) (by omega)
  have HRL:=hid fun w' (hb:Below W.heap.size W w')=>cr_rlive c L T M w' (PgM.later hP hb) hok hz1 t (hT.later hb) (by omega)
  have HTK:=hid fun w' (hb:Below W.heap.size W w')=>cr_taken c L T M w' (hw.later hb) (PgM.later hP hb) hok hz1 t (hT.later hb) (by omega) hto.dn
  have HRT:=hid fun w' (hb:Below W.heap.size W w')=>cr_rtaken c L T M w' (PgM.later hP hb) hok hz1 t (hT.later hb) (by omega) hto.dn
  have HLO:Hid ((opsC (c.x L T M)).length≤100000):=hid (by have:=opsC_len (c:=c.x L T M) hok.P;omega)
  have HLL:Hid ((z4f (c.x L T M) t.c).length≤100000):=hid (by have:=liveC_len (c:=c.x L T M) (t:=t.c) hok.P hdl;omega)
  have HLT:Hid ((z4s (c.x L T M) t.c).length≤100000):=hid (by have:=takenC_len (c:=c.x L T M) (t:=t.c) hdl;omega)
  generalize z4e (c.x L T M) t.c x0 id=N at *
  generalize z5x t.c=U at *
  generalize opsC (c.x L T M)=LO at *
  generalize z4f (c.x L T M) t.c=LV at *
  generalize z4s (c.x L T M) t.c=TK at *
  clear hW1 hx ht hp hb1 hB hw hP hok hT hto q1 hs1 hs2 hz1 hdl
  go_enter Tryd.func4,Tryd.ntmps4
  go_upto_region 1 with (fail)
  (rw [HW1.out,HRE.out];try rw [show B+1+1=B+2 from rfl])
  obtain⟨d0,d1,d2,d3,d4,d5,d6,d7⟩:=z0h HT.out
  go_wp2_with ((with_reducible refine z0c HX.out ?_ ?_);rfl)
  refine hf1.mono ?_
  rintro e w2 ⟨rfl,h2⟩
  have HX2:=hid (HX.out.later h2)
  have HT2:=hid (z0a HT.out h2)
  have HP2:=hid (z0a HPR.out h2)
  have HB2:=hid (HB1.out.trans (h2.mono HB1.out.size))
  clear h2 hf1 d0 d1 d2 d3 d4 d5 d6 d7
  go_upto_region 3 with (fail)
  have hbd:Below w2.heap.size w2 w2.drew:=(Below.refl _ _).drew
  refine wp_region_held_drew (S:=fun w'=>Hid (Below w2.heap.size w2 w')) (by kernel_rfl) (hid hbd) (fun hHeld=>?_)
  clear hbd
  generalize w2.drew=Wd at *
  refine wpAnyH_take (i:=0) (oi:=⟨some 14,_,_,_,_,_⟩) (v:=.pointer (some ⟨B+2,0,none⟩)) rfl (by kernel_rfl) (by kernel_rfl) (by kernel_rfl) (fun _ _ _ h=>h) (Or.inl ⟨by rfl,fun w' hw'=>?_⟩) (by assumption) ?_
  · clear hHeld
    go_simp
  try simp only [Act.put,sIB,sCZ,sCS]
  refine wpAnyH_take (i:=1) (oi:=⟨some 15,_,_,_,_,_⟩) (v:=.int .i64 x0) rfl (by kernel_rfl) (by kernel_rfl) (by kernel_rfl) (fun _ _ _ h=>h) (Or.inl ⟨by rfl,fun w' hw'=>?_⟩) (by assumption) ?_
  · have hcx:=z0b (j:=0) (z0a HP2.out hw'.out) (v:=.int .i64 x0) rfl
    clear hHeld hw'
    go_simp
  try simp only [Act.put,sIB,sCZ,sCS]
  refine wpAnyH_take (i:=2) (oi:=⟨some 16,_,_,_,_,_⟩) (v:=.pointer (some ⟨B+2,1,none⟩)) rfl (by kernel_rfl) (by kernel_rfl) (by kernel_rfl) (fun _ _ _ h=>h) (Or.inl ⟨by rfl,fun w' hw'=>?_⟩) (by assumption) ?_
  · clear hHeld
    go_simp
  try simp only [Act.put,sIB,sCZ,sCS]
  refine wpAnyH_take (i:=3) (oi:=⟨some 17,_,_,_,_,_⟩) (v:=.int .i64 x1) rfl (by kernel_rfl) (by kernel_rfl) (by kernel_rfl) (fun _ _ _ h=>h) (Or.inl ⟨by rfl,fun w' hw'=>?_⟩) (by assumption) ?_
  · have hcx:=z0b (j:=1) (z0a HP2.out hw'.out) (v:=.int .i64 x1) rfl
    clear hHeld hw'
    go_simp
  try simp only [Act.put,sIB,sCZ,sCS]
  refine wpAnyH_take (i:=4) (oi:=⟨some 18,_,_,_,_,_⟩) (v:=.int .u32 id) rfl (by kernel_rfl) (by kernel_rfl) (by kernel_rfl) (fun _ _ _ h=>h) (Or.inl ⟨by rfl,fun w' hw'=>?_⟩) (by assumption) ?_
  · clear hHeld
    go_simp
  try simp only [Act.put,sIB,sCZ,sCS]
  refine wpAnyH_take (i:=5) (oi:=⟨some 7,_,_,_,_,_⟩) (v:=.int .i64 x0) rfl (by kernel_rfl) (by kernel_rfl) (by kernel_rfl) (fun _ _ _ h=>h) (Or.inl ⟨by rfl,fun w' hw'=>?_⟩) (by assumption) ?_
  · clear hHeld
    go_simp
  try simp only [Act.put,sIB,sCZ,sCS]
  refine wpAnyH_take (i:=6) (oi:=⟨some 8,_,_,_,_,_⟩) (v:=.int .u32 id) rfl (by kernel_rfl) (by kernel_rfl) (by kernel_rfl) (fun _ _ _ h=>h) (Or.inl ⟨by rfl,fun w' hw'=>?_⟩) (by assumption) ?_
  · clear hHeld
    go_simp
  try simp only [Act.put,sIB,sCZ,sCS]
  have hb3:=hHeld.out
  have HH3:=hid hb3
  refine wpAnyH_done (by kernel_rfl) ?_ _
  clear hHeld hb3
  go_upto_region 4 with (fail)
  have hbd:Below w2.heap.size w2 Wd.drew:=HH3.out.drew
  refine wp_region_held_drew (S:=fun w'=>Hid (Below w2.heap.size w2 w')) (by kernel_rfl) (hid hbd) (fun hHeld=>?_)
  clear hbd HH3
  generalize Wd.drew=We at *
  refine wpAnyH_take (i:=0) (oi:=⟨some 19,_,_,_,_,_⟩) (v:=.agg (ccs c)) rfl (by kernel_rfl) (by kernel_rfl) (by kernel_rfl) (fun _ _ _ h=>h) (Or.inl ⟨by rfl,fun w' hw'=>z1i rfl (HX2.out.later (Hid.out hw'))⟩) (by assumption) ?_
  try simp only [Act.put,sIB,sCZ,sCS]
  refine wpAnyH_take (i:=1) (oi:=⟨some 20,_,_,_,_,_⟩) (v:=.agg #[.int .u32 t.c.id,.int .u32 t.c.sg,.int .u8 t.c.st,.bool t.c.cp,.bool t.c.dd,.slice t.p t.n t.m,.int .i64 t.c.fs,.int .i64 t.c.sz]) rfl (by kernel_rfl) (by kernel_rfl) (by kernel_rfl) (fun _ _ _ h=>h) (Or.inl ⟨by rfl,fun w' hw'=>?_⟩) (by assumption) ?_
  · obtain⟨e0,e1,e2,e3,e4,e5,e6,e7⟩:=z0h (z0a HT2.out hw'.out)
    clear hHeld hw'
    go_simp
  try simp only [Act.put,sIB,sCZ,sCS]
  refine wpAnyH_take (i:=2) (oi:=⟨some 21,_,_,_,_,_⟩) (v:=.int .i64 x0) rfl (by kernel_rfl) (by kernel_rfl) (by kernel_rfl) (fun _ _ _ h=>h) (Or.inl ⟨by rfl,fun w' hw'=>?_⟩) (by assumption) ?_
  · clear hHeld
    go_simp
  try simp only [Act.put,sIB,sCZ,sCS]
  refine wpAnyH_take (i:=3) (oi:=⟨some 22,_,_,_,_,_⟩) (v:=.int .u32 id) rfl (by kernel_rfl) (by kernel_rfl) (by kernel_rfl) (fun _ _ _ h=>h) (Or.inl ⟨by rfl,fun w' hw'=>?_⟩) (by assumption) ?_
  · clear hHeld
    go_simp
  try simp only [Act.put,sIB,sCZ,sCS]
  refine wpAnyH_take (i:=5) (oi:=⟨some 24,_,_,_,_,_⟩) (v:=.agg (ccs c)) rfl (by kernel_rfl) (by kernel_rfl) (by kernel_rfl) (fun _ _ _ h=>h) (Or.inl ⟨by rfl,fun w' hw'=>z1i rfl (HX2.out.later (Hid.out hw'))⟩) (by assumption) ?_
  try simp only [Act.put,sIB,sCZ,sCS]
  refine wpAnyH_take (i:=6) (oi:=⟨some 25,_,_,_,_,_⟩) (v:=.agg #[.int .u32 t.c.id,.int .u32 t.c.sg,.int .u8 t.c.st,.bool t.c.cp,.bool t.c.dd,.slice t.p t.n t.m,.int .i64 t.c.fs,.int .i64 t.c.sz]) rfl (by kernel_rfl) (by kernel_rfl) (by kernel_rfl) (fun _ _ _ h=>h) (Or.inl ⟨by rfl,fun w' hw'=>?_⟩) (by assumption) ?_
  · obtain⟨e0,e1,e2,e3,e4,e5,e6,e7⟩:=z0h (z0a HT2.out hw'.out)
    clear hHeld hw'
    go_simp
  try simp only [Act.put,sIB,sCZ,sCS]
  refine wpAnyH_take (i:=7) (oi:=⟨some 26,_,_,_,_,_⟩) (v:=.int .i64 x0) rfl (by kernel_rfl) (by kernel_rfl) (by kernel_rfl) (fun _ _ _ h=>h) (Or.inl ⟨by rfl,fun w' hw'=>?_⟩) (by assumption) ?_
  · clear hHeld
    go_simp
  try simp only [Act.put,sIB,sCZ,sCS]
  refine wpAnyH_take (i:=8) (oi:=⟨some 27,_,_,_,_,_⟩) (v:=.int .u32 id) rfl (by kernel_rfl) (by kernel_rfl) (by kernel_rfl) (fun _ _ _ h=>h) (Or.inl ⟨by rfl,fun w' hw'=>?_⟩) (by assumption) ?_
  · clear hHeld
    go_simp
  try simp only [Act.put,sIB,sCZ,sCS]
  refine wpAnyH_ready (rs:=[4]) (by kernel_rfl) (by simp) (AllReadyH.cons rfl (fun K hK=>?_) (AllReadyH.nil))
  go_simp
  go_wp2_with fail
  refine (HNX.out _ (HB2.out.trans (hHeld.out.mono HB2.out.size))).mono ?_
  rintro e v1 ⟨rfl,hb⟩
  have hSN:Hid (Below w2.heap.size w2 v1):=hid (hHeld.out.trans (hb.mono hHeld.out.size))
  clear hb
  go_wp2_with fail
  refine hK.out _ _ hSN (fun hHeld2=>?_)
  try simp only [Act.put,sIB,sCZ,sCS]
  clear hSN hK K hHeld
  have hHeld:=hHeld2
  clear hHeld2
  refine wpAnyH_ready (rs:=[9]) (by kernel_rfl) (by simp) (AllReadyH.cons rfl (fun K hK=>?_) (AllReadyH.nil))
  go_simp
  go_wp2_with fail
  refine (HRN.out _ (HB2.out.trans (hHeld.out.mono HB2.out.size))).mono ?_
  rintro e v2 ⟨rfl,hb⟩
  have hSN:Hid (Below w2.heap.size w2 v2):=hid (hHeld.out.trans (hb.mono hHeld.out.size))
  clear hb
  go_wp2_with fail
  refine hK.out _ _ hSN (fun hHeld2=>?_)
  try simp only [Act.put,sIB,sCZ,sCS]
  clear hSN hK K hHeld
  have hHeld:=hHeld2
  clear hHeld2
  refine wpAnyH_ready (rs:=[10]) (by kernel_rfl) (by simp) (AllReadyH.cons rfl (fun K hK=>?_) (AllReadyH.nil))
  go_simp
  go_wp2_with fail
  refine (HSM.out N _).mono ?_
  rintro e v3 ⟨rfl,hb⟩
  have hSN:Hid (Below w2.heap.size w2 v3):=hid (hHeld.out.trans (hb.mono hHeld.out.size))
  clear hb
  go_wp2_with fail
  refine hK.out _ _ hSN (fun hHeld2=>?_)
  try simp only [Act.put,sIB,sCZ,sCS]
  clear hSN hK K hHeld
  have hHeld:=hHeld2
  clear hHeld2
  refine wpAnyH_take (i:=11) (oi:=⟨some 30,_,_,_,_,_⟩) (v:=.bool true) rfl (by kernel_rfl) (by kernel_rfl) (by kernel_rfl) (fun _ _ _ h=>h) (Or.inl ⟨by rfl,fun w' hw'=>?_⟩) (by assumption) ?_
  · clear hHeld
    go_simp
  try simp only [Act.put,sIB,sCZ,sCS]
  refine wpAnyH_take (i:=12) (oi:=⟨some 31,_,_,_,_,_⟩) (v:=.agg #[.int .u32 t.c.id,.int .u32 t.c.sg,.int .u8 t.c.st,.bool t.c.cp,.bool t.c.dd,.slice t.p t.n t.m,.int .i64 t.c.fs,.int .i64 t.c.sz]) rfl (by kernel_rfl) (by kernel_rfl) (by kernel_rfl) (fun _ _ _ h=>h) (Or.inl ⟨by rfl,fun w' hw'=>?_⟩) (by assumption) ?_
  · obtain⟨e0,e1,e2,e3,e4,e5,e6,e7⟩:=z0h (z0a HT2.out hw'.out)
    clear hHeld hw'
    go_simp
  try simp only [Act.put,sIB,sCZ,sCS]
  refine wpAnyH_take (i:=14) (oi:=⟨some 33,_,_,_,_,_⟩) (v:=.agg #[.int .u32 t.c.id,.int .u32 t.c.sg,.int .u8 t.c.st,.bool t.c.cp,.bool t.c.dd,.slice t.p t.n t.m,.int .i64 t.c.fs,.int .i64 t.c.sz]) rfl (by kernel_rfl) (by kernel_rfl) (by kernel_rfl) (fun _ _ _ h=>h) (Or.inl ⟨by rfl,fun w' hw'=>?_⟩) (by assumption) ?_
  · obtain⟨e0,e1,e2,e3,e4,e5,e6,e7⟩:=z0h (z0a HT2.out hw'.out)
    clear hHeld hw'
    go_simp
  try simp only [Act.put,sIB,sCZ,sCS]
  refine wpAnyH_ready (rs:=[13]) (by kernel_rfl) (by simp) (AllReadyH.cons rfl (fun K hK=>?_) (AllReadyH.nil))
  go_simp
  go_wp2_with fail
  refine (HUN.out _ (HB2.out.trans (hHeld.out.mono HB2.out.size))).mono ?_
  rintro e v4 ⟨rfl,hb⟩
  have hSN:Hid (Below w2.heap.size w2 v4):=hid (hHeld.out.trans (hb.mono hHeld.out.size))
  clear hb
  go_wp2_with fail
  refine hK.out _ _ hSN (fun hHeld2=>?_)
  try simp only [Act.put,sIB,sCZ,sCS]
  clear hSN hK K hHeld
  have hHeld:=hHeld2
  clear hHeld2
  refine wpAnyH_ready (rs:=[15]) (by kernel_rfl) (by simp) (AllReadyH.cons rfl (fun K hK=>?_) (AllReadyH.nil))
  go_simp
  go_wp2_with fail
  refine (HRU.out _ (HB2.out.trans (hHeld.out.mono HB2.out.size))).mono ?_
  rintro e v5 ⟨rfl,hb⟩
  have hSN:Hid (Below w2.heap.size w2 v5):=hid (hHeld.out.trans (hb.mono hHeld.out.size))
  clear hb
  go_wp2_with fail
  refine hK.out _ _ hSN (fun hHeld2=>?_)
  try simp only [Act.put,sIB,sCZ,sCS]
  clear hSN hK K hHeld
  have hHeld:=hHeld2
  clear hHeld2
  refine wpAnyH_ready (rs:=[16]) (by kernel_rfl) (by simp) (AllReadyH.cons rfl (fun K hK=>?_) (AllReadyH.nil))
  go_simp
  go_wp2_with fail
  refine (HSM.out U _).mono ?_
  rintro e v6 ⟨rfl,hb⟩
  have hSN:Hid (Below w2.heap.size w2 v6):=hid (hHeld.out.trans (hb.mono hHeld.out.size))
  clear hb
  go_wp2_with fail
  refine hK.out _ _ hSN (fun hHeld2=>?_)
  try simp only [Act.put,sIB,sCZ,sCS]
  clear hSN hK K hHeld
  have hHeld:=hHeld2
  clear hHeld2
  refine wpAnyH_take (i:=17) (oi:=⟨some 36,_,_,_,_,_⟩) (v:=.bool true) rfl (by kernel_rfl) (by kernel_rfl) (by kernel_rfl) (fun _ _ _ h=>h) (Or.inl ⟨by rfl,fun w' hw'=>?_⟩) (by assumption) ?_
  · clear hHeld
    go_simp
  try simp only [Act.put,sIB,sCZ,sCS]
  refine wpAnyH_take (i:=18) (oi:=⟨some 37,_,_,_,_,_⟩) (v:=.bool true) rfl (by kernel_rfl) (by kernel_rfl) (by kernel_rfl) (fun _ _ _ h=>h) (Or.inl ⟨by rfl,fun w' hw'=>?_⟩) (by assumption) ?_
  · clear hHeld
    go_simp
  try simp only [Act.put,sIB,sCZ,sCS]
  refine wpAnyH_take (i:=19) (oi:=⟨some 38,_,_,_,_,_⟩) (v:=.agg (ccs c)) rfl (by kernel_rfl) (by kernel_rfl) (by kernel_rfl) (fun _ _ _ h=>h) (Or.inl ⟨by rfl,fun w' hw'=>z1i rfl (HX2.out.later (Hid.out hw'))⟩) (by assumption) ?_
  try simp only [Act.put,sIB,sCZ,sCS]
  refine wpAnyH_take (i:=21) (oi:=⟨some 40,_,_,_,_,_⟩) (v:=.agg (ccs c)) rfl (by kernel_rfl) (by kernel_rfl) (by kernel_rfl) (fun _ _ _ h=>h) (Or.inl ⟨by rfl,fun w' hw'=>z1i rfl (HX2.out.later (Hid.out hw'))⟩) (by assumption) ?_
  try simp only [Act.put,sIB,sCZ,sCS]
  refine wpAnyH_ready (rs:=[20]) (by kernel_rfl) (by simp) (AllReadyH.cons rfl (fun K hK=>?_) (AllReadyH.nil))
  go_simp
  go_wp2_with fail
  refine (HOP.out _ (HB2.out.trans (hHeld.out.mono HB2.out.size))).mono ?_
  rintro e v7 ⟨pa,ca,rfl,hsa,hb,_⟩
  have hSN:Hid (Below w2.heap.size w2 v7):=hid (hHeld.out.trans (hb.mono hHeld.out.size))
  have HSa:=hid hsa
  clear hsa
  clear hb
  go_wp2_with fail
  refine hK.out _ _ hSN (fun hHeld2=>?_)
  try simp only [Act.put,sIB,sCZ,sCS]
  clear hSN hK K hHeld
  have hHeld:=hHeld2
  clear hHeld2
  refine wpAnyH_ready (rs:=[22]) (by kernel_rfl) (by simp) (AllReadyH.cons rfl (fun K hK=>?_) (AllReadyH.nil))
  go_simp
  go_wp2_with fail
  refine (HRO.out _ (HB2.out.trans (hHeld.out.mono HB2.out.size))).mono ?_
  rintro e v8 ⟨pb,cb,rfl,hsb,hb,_⟩
  have hSN:Hid (Below w2.heap.size w2 v8):=hid (hHeld.out.trans (hb.mono hHeld.out.size))
  have HSb:=hid hsb
  have HBBb:=hid hb
  clear hsb
  clear hb
  go_wp2_with fail
  refine hK.out _ _ hSN (fun hHeld2=>?_)
  try simp only [Act.put,sIB,sCZ,sCS]
  clear hSN hK K hHeld
  have hHeld:=hHeld2
  clear hHeld2
  have HSXa:=hid (HSa.out.later HBBb.out)
  refine wpAnyH_ready (rs:=[23]) (by kernel_rfl) (by simp) (AllReadyH.cons rfl (fun K hK=>?_) (AllReadyH.nil))
  go_simp
  go_wp2_with fail
  refine (z7v HSXa.out HSb.out HLO.out).mono ?_
  rintro e v9 ⟨rfl,hb⟩
  have hSN:Hid (Below w2.heap.size w2 v9):=hid (hHeld.out.trans (hb.mono hHeld.out.size))
  clear hb
  go_wp2_with fail
  refine hK.out _ _ hSN (fun hHeld2=>?_)
  try simp only [Act.put,sIB,sCZ,sCS]
  clear hSN hK K hHeld
  have hHeld:=hHeld2
  clear hHeld2
  refine wpAnyH_take (i:=24) (oi:=⟨some 43,_,_,_,_,_⟩) (v:=.bool true) rfl (by kernel_rfl) (by kernel_rfl) (by kernel_rfl) (fun _ _ _ h=>h) (Or.inl ⟨by rfl,fun w' hw'=>?_⟩) (by assumption) ?_
  · clear hHeld
    go_simp
  try simp only [Act.put,sIB,sCZ,sCS]
  refine wpAnyH_take (i:=25) (oi:=⟨some 44,_,_,_,_,_⟩) (v:=.bool true) rfl (by kernel_rfl) (by kernel_rfl) (by kernel_rfl) (fun _ _ _ h=>h) (Or.inl ⟨by rfl,fun w' hw'=>?_⟩) (by assumption) ?_
  · clear hHeld
    go_simp
  try simp only [Act.put,sIB,sCZ,sCS]
  refine wpAnyH_take (i:=26) (oi:=⟨some 45,_,_,_,_,_⟩) (v:=.agg (ccs c)) rfl (by kernel_rfl) (by kernel_rfl) (by kernel_rfl) (fun _ _ _ h=>h) (Or.inl ⟨by rfl,fun w' hw'=>z1i rfl (HX2.out.later (Hid.out hw'))⟩) (by assumption) ?_
  try simp only [Act.put,sIB,sCZ,sCS]
  refine wpAnyH_take (i:=27) (oi:=⟨some 46,_,_,_,_,_⟩) (v:=.agg #[.int .u32 t.c.id,.int .u32 t.c.sg,.int .u8 t.c.st,.bool t.c.cp,.bool t.c.dd,.slice t.p t.n t.m,.int .i64 t.c.fs,.int .i64 t.c.sz]) rfl (by kernel_rfl) (by kernel_rfl) (by kernel_rfl) (fun _ _ _ h=>h) (Or.inl ⟨by rfl,fun w' hw'=>?_⟩) (by assumption) ?_
  · obtain⟨e0,e1,e2,e3,e4,e5,e6,e7⟩:=z0h (z0a HT2.out hw'.out)
    clear hHeld hw'
    go_simp
  try simp only [Act.put,sIB,sCZ,sCS]
  refine wpAnyH_take (i:=29) (oi:=⟨some 48,_,_,_,_,_⟩) (v:=.agg (ccs c)) rfl (by kernel_rfl) (by kernel_rfl) (by kernel_rfl) (fun _ _ _ h=>h) (Or.inl ⟨by rfl,fun w' hw'=>z1i rfl (HX2.out.later (Hid.out hw'))⟩) (by assumption) ?_
  try simp only [Act.put,sIB,sCZ,sCS]
  refine wpAnyH_take (i:=30) (oi:=⟨some 49,_,_,_,_,_⟩) (v:=.agg #[.int .u32 t.c.id,.int .u32 t.c.sg,.int .u8 t.c.st,.bool t.c.cp,.bool t.c.dd,.slice t.p t.n t.m,.int .i64 t.c.fs,.int .i64 t.c.sz]) rfl (by kernel_rfl) (by kernel_rfl) (by kernel_rfl) (fun _ _ _ h=>h) (Or.inl ⟨by rfl,fun w' hw'=>?_⟩) (by assumption) ?_
  · obtain⟨e0,e1,e2,e3,e4,e5,e6,e7⟩:=z0h (z0a HT2.out hw'.out)
    clear hHeld hw'
    go_simp
  try simp only [Act.put,sIB,sCZ,sCS]
  refine wpAnyH_ready (rs:=[28]) (by kernel_rfl) (by simp) (AllReadyH.cons rfl (fun K hK=>?_) (AllReadyH.nil))
  go_simp
  go_wp2_with fail
  refine (HLV.out _ (HB2.out.trans (hHeld.out.mono HB2.out.size))).mono ?_
  rintro e v10 ⟨pd,cd,rfl,hsd,hb,_⟩
  have hSN:Hid (Below w2.heap.size w2 v10):=hid (hHeld.out.trans (hb.mono hHeld.out.size))
  have HSd:=hid hsd
  clear hsd
  clear hb
  go_wp2_with fail
  refine hK.out _ _ hSN (fun hHeld2=>?_)
  try simp only [Act.put,sIB,sCZ,sCS]
  clear hSN hK K hHeld
  have hHeld:=hHeld2
  clear hHeld2
  refine wpAnyH_ready (rs:=[31]) (by kernel_rfl) (by simp) (AllReadyH.cons rfl (fun K hK=>?_) (AllReadyH.nil))
  go_simp
  go_wp2_with fail
  refine (HRL.out _ (HB2.out.trans (hHeld.out.mono HB2.out.size))).mono ?_
  rintro e v11 ⟨pf,cf,rfl,hsf,hb,_⟩
  have hSN:Hid (Below w2.heap.size w2 v11):=hid (hHeld.out.trans (hb.mono hHeld.out.size))
  have HSf:=hid hsf
  have HBBf:=hid hb
  clear hsf
  clear hb
  go_wp2_with fail
  refine hK.out _ _ hSN (fun hHeld2=>?_)
  try simp only [Act.put,sIB,sCZ,sCS]
  clear hSN hK K hHeld
  have hHeld:=hHeld2
  clear hHeld2
  have HSXd:=hid (HSd.out.later HBBf.out)
  refine wpAnyH_ready (rs:=[32]) (by kernel_rfl) (by simp) (AllReadyH.cons rfl (fun K hK=>?_) (AllReadyH.nil))
  go_simp
  go_wp2_with fail
  refine (z7v HSXd.out HSf.out HLL.out).mono ?_
  rintro e v12 ⟨rfl,hb⟩
  have hSN:Hid (Below w2.heap.size w2 v12):=hid (hHeld.out.trans (hb.mono hHeld.out.size))
  clear hb
  go_wp2_with fail
  refine hK.out _ _ hSN (fun hHeld2=>?_)
  try simp only [Act.put,sIB,sCZ,sCS]
  clear hSN hK K hHeld
  have hHeld:=hHeld2
  clear hHeld2
  refine wpAnyH_take (i:=33) (oi:=⟨some 52,_,_,_,_,_⟩) (v:=.bool true) rfl (by kernel_rfl) (by kernel_rfl) (by kernel_rfl) (fun _ _ _ h=>h) (Or.inl ⟨by rfl,fun w' hw'=>?_⟩) (by assumption) ?_
  · clear hHeld
    go_simp
  try simp only [Act.put,sIB,sCZ,sCS]
  refine wpAnyH_take (i:=34) (oi:=⟨some 53,_,_,_,_,_⟩) (v:=.bool true) rfl (by kernel_rfl) (by kernel_rfl) (by kernel_rfl) (fun _ _ _ h=>h) (Or.inl ⟨by rfl,fun w' hw'=>?_⟩) (by assumption) ?_
  · clear hHeld
    go_simp
  try simp only [Act.put,sIB,sCZ,sCS]
  refine wpAnyH_take (i:=35) (oi:=⟨some 54,_,_,_,_,_⟩) (v:=.agg (ccs c)) rfl (by kernel_rfl) (by kernel_rfl) (by kernel_rfl) (fun _ _ _ h=>h) (Or.inl ⟨by rfl,fun w' hw'=>z1i rfl (HX2.out.later (Hid.out hw'))⟩) (by assumption) ?_
  try simp only [Act.put,sIB,sCZ,sCS]
  refine wpAnyH_take (i:=36) (oi:=⟨some 55,_,_,_,_,_⟩) (v:=.agg #[.int .u32 t.c.id,.int .u32 t.c.sg,.int .u8 t.c.st,.bool t.c.cp,.bool t.c.dd,.slice t.p t.n t.m,.int .i64 t.c.fs,.int .i64 t.c.sz]) rfl (by kernel_rfl) (by kernel_rfl) (by kernel_rfl) (fun _ _ _ h=>h) (Or.inl ⟨by rfl,fun w' hw'=>?_⟩) (by assumption) ?_
  · obtain⟨e0,e1,e2,e3,e4,e5,e6,e7⟩:=z0h (z0a HT2.out hw'.out)
    clear hHeld hw'
    go_simp
  try simp only [Act.put,sIB,sCZ,sCS]
  refine wpAnyH_take (i:=38) (oi:=⟨some 57,_,_,_,_,_⟩) (v:=.agg (ccs c)) rfl (by kernel_rfl) (by kernel_rfl) (by kernel_rfl) (fun _ _ _ h=>h) (Or.inl ⟨by rfl,fun w' hw'=>z1i rfl (HX2.out.later (Hid.out hw'))⟩) (by assumption) ?_
  try simp only [Act.put,sIB,sCZ,sCS]
  refine wpAnyH_take (i:=39) (oi:=⟨some 58,_,_,_,_,_⟩) (v:=.agg #[.int .u32 t.c.id,.int .u32 t.c.sg,.int .u8 t.c.st,.bool t.c.cp,.bool t.c.dd,.slice t.p t.n t.m,.int .i64 t.c.fs,.int .i64 t.c.sz]) rfl (by kernel_rfl) (by kernel_rfl) (by kernel_rfl) (fun _ _ _ h=>h) (Or.inl ⟨by rfl,fun w' hw'=>?_⟩) (by assumption) ?_
  · obtain⟨e0,e1,e2,e3,e4,e5,e6,e7⟩:=z0h (z0a HT2.out hw'.out)
    clear hHeld hw'
    go_simp
  try simp only [Act.put,sIB,sCZ,sCS]
  refine wpAnyH_ready (rs:=[37]) (by kernel_rfl) (by simp) (AllReadyH.cons rfl (fun K hK=>?_) (AllReadyH.nil))
  go_simp
  go_wp2_with fail
  refine (HTK.out _ (HB2.out.trans (hHeld.out.mono HB2.out.size))).mono ?_
  rintro e v13 ⟨pg,cg,rfl,hsg,hb,_⟩
  have hSN:Hid (Below w2.heap.size w2 v13):=hid (hHeld.out.trans (hb.mono hHeld.out.size))
  have HSg:=hid hsg
  clear hsg
  clear hb
  go_wp2_with fail
  refine hK.out _ _ hSN (fun hHeld2=>?_)
  try simp only [Act.put,sIB,sCZ,sCS]
  clear hSN hK K hHeld
  have hHeld:=hHeld2
  clear hHeld2
  refine wpAnyH_ready (rs:=[40]) (by kernel_rfl) (by simp) (AllReadyH.cons rfl (fun K hK=>?_) (AllReadyH.nil))
  go_simp
  go_wp2_with fail
  refine (HRT.out _ (HB2.out.trans (hHeld.out.mono HB2.out.size))).mono ?_
  rintro e v14 ⟨ph,ch,rfl,hsh,hb,_⟩
  have hSN:Hid (Below w2.heap.size w2 v14):=hid (hHeld.out.trans (hb.mono hHeld.out.size))
  have HSh:=hid hsh
  have HBBh:=hid hb
  clear hsh
  clear hb
  go_wp2_with fail
  refine hK.out _ _ hSN (fun hHeld2=>?_)
  try simp only [Act.put,sIB,sCZ,sCS]
  clear hSN hK K hHeld
  have hHeld:=hHeld2
  clear hHeld2
  have HSXg:=hid (HSg.out.later HBBh.out)
  refine wpAnyH_ready (rs:=[41]) (by kernel_rfl) (by simp) (AllReadyH.cons rfl (fun K hK=>?_) (AllReadyH.nil))
  go_simp
  go_wp2_with fail
  refine (z7v HSXg.out HSh.out HLT.out).mono ?_
  rintro e v15 ⟨rfl,hb⟩
  have hSN:Hid (Below w2.heap.size w2 v15):=hid (hHeld.out.trans (hb.mono hHeld.out.size))
  clear hb
  go_wp2_with fail
  refine hK.out _ _ hSN (fun hHeld2=>?_)
  try simp only [Act.put,sIB,sCZ,sCS]
  clear hSN hK K hHeld
  have hHeld:=hHeld2
  clear hHeld2
  refine wpAnyH_take (i:=42) (oi:=⟨some 61,_,_,_,_,_⟩) (v:=.bool true) rfl (by kernel_rfl) (by kernel_rfl) (by kernel_rfl) (fun _ _ _ h=>h) (Or.inl ⟨by rfl,fun w' hw'=>?_⟩) (by assumption) ?_
  · clear hHeld
    go_simp
  try simp only [Act.put,sIB,sCZ,sCS]
  refine wpAnyH_take (i:=43) (oi:=⟨some 62,_,_,_,_,_⟩) (v:=.bool true) rfl (by kernel_rfl) (by kernel_rfl) (by kernel_rfl) (fun _ _ _ h=>h) (Or.inl ⟨by rfl,fun w' hw'=>?_⟩) (by assumption) ?_
  · clear hHeld
    go_simp
  try simp only [Act.put,sIB,sCZ,sCS]
  refine wpAnyH_ready (rs:=[44]) (by kernel_rfl) (by simp) (AllReadyH.cons rfl (fun K hK=>?_) (AllReadyH.nil))
  go_simp
  go_wp2_with fail
  refine (cr_works _ (HV.out _ (HB2.out.trans (hHeld.out.mono HB2.out.size)))).mono ?_
  rintro e v16 ⟨rfl,hb⟩
  have hSN:Hid (Below w2.heap.size w2 v16):=hid (hHeld.out.trans (hb.mono hHeld.out.size))
  clear hb
  go_wp2_with fail
  refine hK.out _ _ hSN (fun hHeld2=>?_)
  try simp only [Act.put,sIB,sCZ,sCS]
  clear hSN hK K hHeld
  have hHeld:=hHeld2
  clear hHeld2
  refine wpAnyH_take (i:=45) (oi:=⟨some 64,_,_,_,_,_⟩) (v:=.bool true) rfl (by kernel_rfl) (by kernel_rfl) (by kernel_rfl) (fun _ _ _ h=>h) (Or.inl ⟨by rfl,fun w' hw'=>?_⟩) (by assumption) ?_
  · clear hHeld
    go_simp
  try simp only [Act.put,sIB,sCZ,sCS]
  refine wpAnyH_take (i:=46) (oi:=⟨some 6,_,_,_,_,_⟩) (v:=.bool true) rfl (by kernel_rfl) (by kernel_rfl) (by kernel_rfl) (fun _ _ _ h=>h) (Or.inl ⟨by rfl,fun w' hw'=>?_⟩) (by assumption) ?_
  · clear hHeld
    go_simp
  try simp only [Act.put,sIB,sCZ,sCS]
  have hfin:=hHeld.out
  refine wpAnyH_done (by kernel_rfl) ?_ _
  clear hHeld
  go_wp2_with fail
  go_ret
  exact⟨rfl,HB2.out.trans (hfin.mono HB2.out.size)⟩
end Go.Proofs.YtnpjpelbcmgodaaDoor
