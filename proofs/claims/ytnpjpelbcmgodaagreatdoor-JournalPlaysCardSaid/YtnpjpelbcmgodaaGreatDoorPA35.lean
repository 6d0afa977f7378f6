import Derived.Test.YtnpjpelbcmgodaaGreatDoorPA99
import Derived.Test.YtnpjpelbcmgodaaGreatDoorPA34
import Derived.Test.YtnpjpelbcmgodaaGreatDoorPA20
namespace Go.Proofs.YtnpjpelbcmgodaaGreatDoor
open Go.Lib (hid)
set_option maxHeartbeats 8000000
open Go.RowKit Go.ChangeShapes Go.WideShapes
set_option linter.unusedVariables false
set_option linter.unusedSimpArgs false
set_option maxRecDepth 10000
theorem rrec_bytes (r:Rv) (L:List Ln) (T:List Tk) (M:List Ln) (W:World) (hP:RvM W r L T M) (hok:Rxok (r.x L T M)) (h1:r.ln≤20∧r.tn≤30∧r.wn≤20) (hg:z0v (r.x L T M)=true):Calls Tryz.prog 50 #[.agg (rcs r)] W (z3a W (z0o (r.x L T M)).length (z0o (r.x L T M))):=by
 have hk:kOk r.k=true:=z6u hg
 rcases z4s hk with h | h | h | h | h | h | h | h | h
 · exact rrec_bytes1 r L T M W hP hok h1 h (by have:=z5u hg;rw [show (r.x L T M).k=1 from h] at this;exact this)
 · exact rrec_bytes2 r L T M W hP hok h1 h
 · exact rrec_bytes3 r L T M W hP hok h1 h
 · exact rrec_bytes4 r L T M W hP hok h1 h
 · exact rrec_bytes5 r L T M W hP hok h1 h
 · exact rrec_bytes6 r L T M W hP hok h1 h
 · exact rrec_bytes7 r L T M W hP hok h1 h
 · exact rrec_bytes8 r L T M W hP hok h1 h
 · exact rrec_bytes9 r L T M W hP hok h1 h
theorem z4m (r:Rv) (L:List Ln) (T:List Tk) (M:List Ln) (W:World) (hP:RvM W r L T M) (hok:Rxok (r.x L T M)) (h1:r.ln≤20∧r.tn≤30∧r.wn≤20):Calls Tryz.prog 25 #[.agg (rcs r)] W fun e w'=>e=.returned (.int .i64 (z1h (r.x L T M)))∧Below W.heap.size W w':=by
 obtain⟨W1,hW1,hb1⟩:∃ W1,W.alloc (.cells (rcs r) 40)=W1∧Below W.heap.size W W1:=⟨_,rfl,(Below.refl _ _).alloc (Nat.le_refl _) _⟩
 obtain⟨B,hB⟩:∃ B,W.heap.size=B:=⟨_,rfl⟩
 have hrb:=RB.new W r
 rw [hW1,hB] at hrb
 have HX1:=hid hrb
 have HW1:=hid hW1
 have HB1:=hid hb1
 have HRE:=hid hB
 have hgd:=z2k r L T M W1 (hP.later hb1) hok ⟨by omega,by omega,by omega⟩
 have HBY:=hid (fun (hg:z0v (r.x L T M)=true) w (h:Below W1.heap.size W1 w)=>rrec_bytes r L T M w (hP.later (hb1.trans (h.mono hb1.size))) hok h1 hg)
 clear hW1 hB hb1 hrb hP hok h1
 cases hg:z0v (r.x L T M) with
 | false =>
  have HG:Hid (z1h (r.x L T M)=0):=hid (by unfold z1h;rw [hg];rfl)
  rw [hg] at hgd
  clear hg
  go_enter Tryz.func25,Tryz.ntmps25
  go_upto_region 1 with (fail)
  rw [HW1.out,HRE.out]
  go_wp2_with ((with_reducible refine z0n HX1.out ?_ ?_);rfl)
  refine hgd.mono ?_
  rintro e w2 ⟨rfl,hb2⟩
  have HB2:=hid (HB1.out.trans (hb2.mono HB1.out.size))
  clear hb2 hgd
  go_wp2_with fail
  go_ret
  exact⟨by rw [HG.out];rfl,HB2.out⟩
 | true =>
  have hl:=z8z hg
  have HG:Hid (z1h (r.x L T M)=6+((z0o (r.x L T M)).length:Int)):=hid (if_pos hg)
  have hby:=HBY.out hg
  rw [hg] at hgd
  clear hg
  generalize z0o (r.x L T M)=Y at *
  generalize Y.length=n at *
  go_enter Tryz.func25,Tryz.ntmps25
  go_upto_region 1 with (fail)
  rw [HW1.out,HRE.out]
  go_wp2_with ((with_reducible refine z0n HX1.out ?_ ?_);rfl)
  refine hgd.mono ?_
  rintro e w2 ⟨rfl,hb2⟩
  have HB2:=hid (HB1.out.trans (hb2.mono HB1.out.size))
  have HX2:=hid (HX1.out.later hb2)
  have hby2:=hby w2 hb2
  clear hb2 hgd hby
  go_wp2_with ((with_reducible refine z0n HX2.out ?_ ?_);rfl)
  refine hby2.mono ?_
  rintro e w3 ⟨v,rfl,hrow,hb3,_⟩
  obtain⟨p3,c3,hv,_,_,_⟩:=hrow.sl
  subst hv
  have HB3:=hid (HB2.out.trans (hb3.mono HB2.out.size))
  clear hrow hb3 hby2
  go_wp2_with fail
  go_ret
  exact⟨by rw [HG.out];rfl,HB3.out⟩
def Frs (W:World) (L:List Tv) (t:Tv):Prop:=(∃ u∈L,t.p=u.p∧t.n=u.n)∨∀ a,t.p=some a→W.heap.size≤a.block
def z4k (W:World) (p:Option Addr) (L:List Tv) (M:List Tc) (z:Int) (e:Ending) (w':World):Prop:=∃ r m d L',e=.returned (.tuple #[.slice r m d,.int .i64 z])∧TL w' r m d L'∧L'.map (·.c)=M∧Below W.heap.size W w'∧((r=p∧m=L.length)∨∀ a,r=some a→W.heap.size≤a.block)∧∀ t∈L',Frs W L t
theorem z0y {W w:World} {p:Option Addr} {n c:Nat} {L:List Tv} {M:List Tc} {z:Int} (hL:TL W p n c L) (hb:Below W.heap.size W w) (hM:M=L.map (·.c)):z4k W p L M z (.returned (.tuple #[.slice p n c,.int .i64 z])) w :=
 ⟨p,n,c,L,rfl,hL.later hb,hM.symm,hb,.inl ⟨rfl,hL.row.len.symm⟩,fun t ht=>.inl ⟨t,ht,rfl,rfl⟩⟩
theorem z3n {W w w':World} {p:Option Addr} {n c:Nat} {L:List Tv} {M:List Tc} (hL:TL W p n c L) (t:Tv) (ht:TvM w t) (hf:Frs W L t) (hw:Below W.heap.size W w) {v:Value} (h:GivesG tce 8 tv0 w (z1q Tv.id L t) (.returned v) w') (hM:M=z1q Tc.id (L.map (·.c)) t.c) :
 ∃ r m d,v=.slice r m d∧z4k W p L M 0 (.returned (.tuple #[.slice r m d,.int .i64 0])) w':=by
 obtain⟨r,d,he,hs,hb,hr⟩:=h
 cases he
 refine⟨r,_,d,rfl,r,_,d,z1q Tv.id L t,rfl,⟨hs,fun x hx=>?_⟩,?_,hw.trans (hb.mono hw.size),.inr fun a ha=>Nat.le_trans hw.size (hr a ha),fun x hx=>?_⟩
 · rcases mem_withT.1 hx with rfl | hx
   · exact ht.later hb
   · exact (hL.each x hx.1).later (hw.trans (hb.mono hw.size))
 · rw [hM,← z6q (ix:=Tv.id) (jx:=Tc.id) (f:=(·.c)) (fun _=>rfl)]
 · rcases mem_withT.1 hx with rfl | hx
   · exact hf
   · exact .inl ⟨x,hx.1,rfl,rfl⟩
theorem z3y {W w w':World} {p:Option Addr} {n c:Nat} {L:List Tv} {M:List Tc} {i:Int} (hL:TL W p n c L) (hw:Below W.heap.size W w) {v:Value} (h:GivesG tce 8 tv0 w (z1x Tv.id L i) (.returned v) w') (hM:M=z1x Tc.id (L.map (·.c)) i) :
 ∃ r m d,v=.slice r m d∧z4k W p L M 0 (.returned (.tuple #[.slice r m d,.int .i64 0])) w':=by
 obtain⟨r,d,he,hs,hb,hr⟩:=h
 cases he
 refine⟨r,_,d,rfl,r,_,d,z1x Tv.id L i,rfl,⟨hs,fun x hx=>?_⟩,?_,hw.trans (hb.mono hw.size),.inr fun a ha=>Nat.le_trans hw.size (hr a ha),fun x hx=>?_⟩
 · exact (hL.each x (mem_witho.1 hx).1).later (hw.trans (hb.mono hw.size))
 · rw [hM,← z5k (ix:=Tv.id) (jx:=Tc.id) (f:=(·.c)) (fun _=>rfl)]
 · exact .inl ⟨x,(mem_witho.1 hx).1,rfl,rfl⟩
theorem z3o {X:Rx} (hg:z0v X=true):0≤z1h X∧z1h X≤10000:=by
 have hl:=z8z hg
 unfold z1h
 rw [if_pos hg]
 omega
theorem z3s {L:List Tv} {i:Int} {t:Tv} (h:getT Tv.id L i=some t):getT Tc.id (L.map (·.c)) i=some t.c:=by
 rw [← z3f (ix:=Tv.id) (jx:=Tc.id) (f:=(·.c)) (fun _=>rfl),h]
 rfl
theorem map_get_none {L:List Tv} {i:Int} (h:getT Tv.id L i=none):getT Tc.id (L.map (·.c)) i=none:=by
 rw [← z3f (ix:=Tv.id) (jx:=Tc.id) (f:=(·.c)) (fun _=>rfl),h]
 rfl
theorem map_of_isSome (L:List Tv) (i:Int):(getT Tc.sg (L.map (·.c)) i).isSome=(getT Tv.sg L i).isSome:=by
 rw [← z3f (ix:=Tv.sg) (jx:=Tc.sg) (f:=(·.c)) (fun _=>rfl)]
 cases getT Tv.sg L i <;> rfl
theorem z4j {w:World} {Y X:Nat} {r:Rv} (hy:RB w Y r) (hne:Y≠X) (j:Nat) (v:Value):RB (w.setCell ⟨X,j,none⟩ v) Y r:=hy.chg ((Chg.refl (fun k=>k=X) w).setCell ⟨X,j,none⟩ v fun _=>rfl) hne
theorem z3d {W w w':World} {X:Nat} {t:Tv} (h:TvM w t) (hX:∀ a,t.p=some a→a.block≠X) (hc:Chg (fun k=>k=X) w w'):TvM w' t :=
 h.turn hc.size fun _ a ha hlt=>hc.block a.block hlt fun e=>hX a ha e
theorem z8g {M:List Tc} {at_:Int} {X:Rx} {t:Tc} (hg:z0v X=true) (h3:3≤X.k∧X.k≤7) (ht:getT Tc.id M X.tx=some t):appC M at_ X =
 if X.k=3 then (if t.dd=true∨6≤t.dn.length then (M,12) else (z1q Tc.id M ⟨t.id,t.sg,t.st,t.cp,t.dd,t.dn ++ [(X.key,X.d)],t.fs,t.sz+z1h X⟩,0))
  else if X.k=4 then (if t.dd=true then (M,12) else (z1x Tc.id M X.tx,0))
  else if X.k=5 then (if t.dd=true then (M,12) else (z1q Tc.id M ⟨t.id,t.sg,t.st,t.cp,true,t.dn,t.fs,t.sz+z1h X⟩,0))
  else if X.k=6 then (if z1v t=((X.key,X.d),true) then (z1q Tc.id M ⟨t.id,t.sg,t.st,t.cp,true,t.dn.dropLast,t.fs,t.sz+z1h X⟩,0) else (M,12))
  else (if t.dn=[] then (z1x Tc.id M X.tx,0) else (M,12)):=by
 unfold appC
 rw [if_neg (by rw [hg];simp;omega),if_neg (by omega),ht]
theorem appC_3 {at_:Int} (M:List Tc) (X:Rx) {t:Tc} (hg:z0v X=true) (hk:X.k=3) (ht:getT Tc.id M X.tx=some t):appC M at_ X=(if t.dd=true∨6≤t.dn.length then (M,12) else (z1q Tc.id M ⟨t.id,t.sg,t.st,t.cp,t.dd,t.dn ++ [(X.key,X.d)],t.fs,t.sz+z1h X⟩,0)):=by
 rw [z8g hg (by omega) ht]
 simp [hk]
theorem appC_4 {at_:Int} (M:List Tc) (X:Rx) {t:Tc} (hg:z0v X=true) (hk:X.k=4) (ht:getT Tc.id M X.tx=some t):appC M at_ X=(if t.dd=true then (M,12) else (z1x Tc.id M X.tx,0)):=by
 rw [z8g hg (by omega) ht]
 simp [hk]
theorem appC_5 {at_:Int} (M:List Tc) (X:Rx) {t:Tc} (hg:z0v X=true) (hk:X.k=5) (ht:getT Tc.id M X.tx=some t):appC M at_ X=(if t.dd=true then (M,12) else (z1q Tc.id M ⟨t.id,t.sg,t.st,t.cp,true,t.dn,t.fs,t.sz+z1h X⟩,0)):=by
 rw [z8g hg (by omega) ht]
 simp [hk]
theorem appC_6 {at_:Int} (M:List Tc) (X:Rx) {t:Tc} (hg:z0v X=true) (hk:X.k=6) (ht:getT Tc.id M X.tx=some t):appC M at_ X=(if z1v t=((X.key,X.d),true) then (z1q Tc.id M ⟨t.id,t.sg,t.st,t.cp,true,t.dn.dropLast,t.fs,t.sz+z1h X⟩,0) else (M,12)):=by
 rw [z8g hg (by omega) ht]
 simp [hk]
theorem appC_7 {at_:Int} (M:List Tc) (X:Rx) {t:Tc} (hg:z0v X=true) (hk:X.k=7) (ht:getT Tc.id M X.tx=some t):appC M at_ X=(if t.dn=[] then (z1x Tc.id M X.tx,0) else (M,12)):=by
 rw [z8g hg (by omega) ht]
 simp [hk]
theorem q0q {at_:Int} (M:List Tc) (X:Rx) (hg:z0v X=true) (h3:3≤X.k∧X.k≤7) (ht:getT Tc.id M X.tx=none):appC M at_ X=(M,10):=by
 unfold appC
 rw [if_neg (by rw [hg];simp;omega),if_neg (by omega),ht]
theorem q0r {at_:Int} (M:List Tc) (X:Rx) (hg:z0v X=true) (hk:X.k=2):appC M at_ X=if (getT Tc.id M X.tx).isSome=true∨(getT Tc.sg M X.sg).isSome=true then (M,11) else (z1q Tc.id M ⟨X.tx,X.sg,X.st,X.cp,false,[],at_,z1h X⟩,0):=by
 unfold appC
 rw [if_neg (by rw [hg];simp;omega),if_pos hk]
theorem map_id_isSome (L:List Tv) (i:Int):(getT Tc.id (L.map (·.c)) i).isSome=(getT Tv.id L i).isSome:=by
 rw [← z3f (ix:=Tv.id) (jx:=Tc.id) (f:=(·.c)) (fun _=>rfl)]
 cases getT Tv.id L i <;> rfl
theorem TsOk.mono {M:List Tc} {n m:Nat} {y z:Int} (h:TsOk M n y) (hn:n≤m) (hz:y≤z):TsOk M m z:=⟨h.ok,h.up,Nat.le_trans h.len hn,h.few,fun t ht=>⟨(h.sz t ht).1,Int.le_trans (h.sz t ht).2 hz⟩⟩
theorem TsOk.with {M:List Tc} {n:Nat} {z:Int} (h:TsOk M n z) {t:Tc} (h1:Tcok t) (h2:t.dn.length≤20) (h3:0≤t.sz∧t.sz≤z):TsOk (z1q Tc.id M t) (n+1) z:=by
 refine⟨fun x hx=>?_,z8q h.up,Nat.le_trans (z8c M t) (by have:=h.len;omega),fun x hx=>?_,fun x hx=>?_⟩
 · rcases mem_withT.1 hx with rfl | hx
   · exact h1
   · exact h.ok x hx.1
 · rcases mem_withT.1 hx with rfl | hx
   · exact h2
   · exact h.few x hx.1
 · rcases mem_withT.1 hx with rfl | hx
   · exact h3
   · exact h.sz x hx.1
theorem TsOk.without {M:List Tc} {n:Nat} {z:Int} (h:TsOk M n z) (i:Int):TsOk (z1x Tc.id M i) n z :=
 ⟨fun x hx=>h.ok x (mem_witho.1 hx).1,z8p i h.up,Nat.le_trans (z8b M i) h.len,fun x hx=>h.few x (mem_witho.1 hx).1,fun x hx=>h.sz x (mem_witho.1 hx).1⟩
theorem TsOk.new {L:List Tc} {n:Nat} {z:Int} (h1:∀ t∈L,Tcok t) (hn:L.length≤n) (h2:∀ t∈L,t.dn.length≤20) (h3:∀ t∈L,0≤t.sz∧t.sz≤z):TsOk (newT Tc.id L) n z :=
 ⟨fun x hx=>h1 x (z6p hx),up_newT L,Nat.le_trans (len_newT L) hn,fun x hx=>h2 x (z6p hx),fun x hx=>h3 x (z6p hx)⟩
theorem TsOk.app {M:List Tc} {n:Nat} {z at_:Int} {X:Rx} (h:TsOk M n z) (hz:0≤z∧z≤1099511627776) (hX:Rxok X) (ha:In64 at_):TsOk (appC M at_ X).1 (n+1) (z+10000):=by
 have hm:TsOk M (n+1) (z+10000):=h.mono (by omega) (by omega)
 have hm0:TsOk M n (z+10000):=h.mono (by omega) (by omega)
 by_cases hb:z0v X=false∨X.k<2∨7<X.k
 · rw [show appC M at_ X=(M,1) from if_pos hb]
   exact hm
 have hg:z0v X=true:=by
  cases hq:z0v X with
  | false=>exact absurd (.inl hq) hb
  | true=>rfl
 obtain⟨s1,s2⟩:0≤z1h X∧z1h X≤10000:=z3o hg
 by_cases hk:X.k=2
 · rw [q0r M X hg hk]
   split
   · exact hm
   · exact hm0.with ⟨hX.tx,hX.sg,hX.st,(fun o ho=>by cases ho),ha,by simp only;unfold In64;omega⟩ (by simp) ⟨s1,by simp only;omega⟩
 have h3:3≤X.k∧X.k≤7:=by omega
 cases ht:getT Tc.id M X.tx with
 | none=>rw [q0q M X hg h3 ht];exact hm
 | some t =>
  obtain⟨htm,_⟩:=z2y ht
  have hok:=h.ok t htm
  have hfw:=h.few t htm
  have hsz:=h.sz t htm
  have hs:In64 (t.sz+z1h X):=by unfold In64;omega
  rw [z8g hg h3 ht]
  split
  · split
    · exact hm
    · rename_i hc
      refine hm0.with ⟨hok.id,hok.sg,hok.st,fun o ho=>?_,hok.fs,hs⟩ ?_ ⟨by simp only;omega,by simp only;omega⟩
      · rcases List.mem_append.1 ho with ho | ho
        · exact hok.dn o ho
        · rw [List.mem_singleton.1 ho]
          exact⟨hX.key,hX.d⟩
      · simp only [List.length_append,List.length_cons,List.length_nil]
        have:¬ 6≤t.dn.length:=fun e=>hc (.inr e)
        omega
  · split
    · split
      · exact hm
      · exact hm.without _
    · split
      · split
        · exact hm
        · exact hm0.with ⟨hok.id,hok.sg,hok.st,hok.dn,hok.fs,hs⟩ hfw ⟨by simp only;omega,by simp only;omega⟩
      · split
        · split
          · refine hm0.with ⟨hok.id,hok.sg,hok.st,(fun o ho=>hok.dn o ((List.dropLast_sublist t.dn).subset ho)),hok.fs,hs⟩ ?_ ⟨by simp only;omega,by simp only;omega⟩
            simp only [List.length_dropLast]
            omega
          · exact hm
        · split
          · exact hm.without _
          · exact hm
theorem rapply_2 (p:Option Addr) (n c:Nat) (L:List Tv) (at_:Int) (r:Rv) (La:List Ln) (Ta:List Tk) (Ma:List Ln) (W:World) (hL:TL W p n c L) (hn:n≤1000) (hsm:∀ t∈L,Tcok t.c∧t.n≤1000∧0≤t.c.sz∧t.c.sz≤1099511627776) (hP:RvM W r La Ta Ma) (hok:Rxok (r.x La Ta Ma)) (h1:r.ln≤20∧r.tn≤30∧r.wn≤20) (ha:In64 at_) (hg:z0v (r.x La Ta Ma)=true) (hk:r.k=2) :
 Calls Tryz.prog 10 #[.slice p n c,.int .i64 at_,.agg (rcs r)] W (z4k W p L (appC (L.map (·.c)) at_ (r.x La Ta Ma)).1 (appC (L.map (·.c)) at_ (r.x La Ta Ma)).2):=by
 have hwz:=z3o hg
 have HWZ:=hid hwz
 have HL:=hid hL
 have HNN:=hid hn
 obtain⟨W1,hW1,hb1⟩:∃ W1,W.alloc (.cells (rcs r) 40)=W1∧Below W.heap.size W W1:=⟨_,rfl,(Below.refl _ _).alloc (Nat.le_refl _) _⟩
 obtain⟨Y,hY⟩:∃ Y,W.heap.size=Y:=⟨_,rfl⟩
 have hrb:=RB.new W r
 rw [hW1,hY] at hrb
 have HY1:=hid hrb
 have HW1:=hid hW1
 have HB1:=hid hb1
 have HYE:=hid hY
 have HGD:=hid (z2k r La Ta Ma W1 (hP.later hb1) hok ⟨by omega,by omega,by omega⟩)
 have HSZ:=hid fun w (hb:Below W.heap.size W w)=>z4m r La Ta Ma w (hP.later hb) hok h1
 have HGT:=hid fun w (hb:Below W.heap.size W w)=>z2t p n c L r.tx w (hL.row.later hb) (by omega)
 have HOF:=hid fun w (hb:Below W.heap.size W w)=>z5q p n c L r.sg w (hL.row.later hb) (by omega)
 obtain⟨M',z',hmz⟩:∃ M' z',appC (L.map (·.c)) at_ (r.x La Ta Ma)=(M',z'):=⟨_,_,rfl⟩
 have hap:=q0r (at_:=at_) (L.map (·.c)) (r.x La Ta Ma) hg hk
 have e1:(getT Tc.id (L.map (·.c)) (r.x La Ta Ma).tx).isSome=(getT Tv.id L r.tx).isSome:=map_id_isSome L r.tx
 have e2:(getT Tc.sg (L.map (·.c)) (r.x La Ta Ma).sg).isSome=(getT Tv.sg L r.sg).isSome:=map_of_isSome L r.sg
 rw [e1,e2] at hap
 clear e1 e2
 rw [hg] at HGD
 rw [hmz] at hap ⊢
 have HAP:=hid hap
 dsimp only
 have e2:(r.k==2)=true:=by rw [hk];rfl
 have e3:(r.k==3)=false:=by rw [hk];rfl
 have e4:(r.k==4)=false:=by rw [hk];rfl
 have e5:(r.k==5)=false:=by rw [hk];rfl
 have e6:(r.k==6)=false:=by rw [hk];rfl
 have e7:(r.k==7)=false:=by rw [hk];rfl
 have l2:decide (r.k<2)=false:=by rw [hk];rfl
 have l7:decide (7<r.k)=false:=by rw [hk];rfl
 have m2:¬ r.k<2:=by omega
 have m7:¬ 7<r.k:=by omega
 have HHK:=hid hk
 obtain⟨t,htd⟩:∃ t,(getT Tv.id L r.tx).getD tv0=t:=⟨_,rfl⟩
 obtain⟨u,hud⟩:∃ u,(getT Tv.sg L r.sg).getD tv0=u:=⟨_,rfl⟩
 rw [htd] at HGT
 rw [hud] at HOF
 generalize (getT Tv.id L r.tx).isSome=g1 at *
 generalize (getT Tv.sg L r.sg).isSome=g2 at *
 have HTD:=hid htd
 have HUD:=hid hud
 generalize z1h (r.x La Ta Ma)=sx at *
 generalize z0v (r.x La Ta Ma)=gx at *
 clear hwz hL hn hsm hP hok h1 hg hap hmz hW1 hY hb1 hrb hk htd hud ha
 go_enter Tryz.func10,Tryz.ntmps10
 go_upto_region 1 with (fail)
 rw [HW1.out,HYE.out]
 go_wp2_with ((with_reducible refine z0n HY1.out ?_ ?_);rfl)
 refine HGD.out.mono ?_
 rintro e2 w2 ⟨rfl,hb2⟩
 have HB2:=hid (HB1.out.trans (hb2.mono HB1.out.size))
 have HY2:=hid (HY1.out.later hb2)
 clear hb2 HB1 HY1 HGD HW1
 obtain⟨a0,a1,a2,a3,a4,a5,a6,a7,a8,a9⟩:=HY2.out.at
 go_wp2_with fail
 clear a0 a1 a2 a3 a4 a5 a6 a7 a8 a9
 refine (HGT.out _ HB2.out).mono ?_
 rintro e3 w3 ⟨rfl,hb3⟩
 have hbn:Below w3.heap.size w3 (w3.alloc (.cells #[.int .u32 t.c.id,.int .u32 t.c.sg,.int .u8 t.c.st,.bool t.c.cp,.bool t.c.dd,.slice t.p t.n t.m,.int .i64 t.c.fs,.int .i64 t.c.sz] 58)):=(Below.refl _ _).alloc (Nat.le_refl _) _
 have HB4:=hid (HB2.out.trans ((hb3.trans (hbn.mono hb3.size)).mono HB2.out.size))
 have HY4:=hid ((HY2.out.later hb3).later hbn)
 clear hb3 hbn HB2 HY2 HGT
 go_upto_region 4 with (fail)
 generalize w3.alloc (.cells #[.int .u32 t.c.id,.int .u32 t.c.sg,.int .u8 t.c.st,.bool t.c.cp,.bool t.c.dd,.slice t.p t.n t.m,.int .i64 t.c.fs,.int .i64 t.c.sz] 58)=w4 at *
 generalize w3.heap.size=X at *
 obtain⟨a0,a1,a2,a3,a4,a5,a6,a7,a8,a9⟩:=HY4.out.at
 go_wp2_with fail
 clear a0 a1 a2 a3 a4 a5 a6 a7 a8 a9
 refine (HOF.out _ HB4.out).mono ?_
 rintro e5 w5 ⟨rfl,hb5⟩
 have hbn:Below w5.heap.size w5 (w5.alloc (.cells #[.int .u32 u.c.id,.int .u32 u.c.sg,.int .u8 u.c.st,.bool u.c.cp,.bool u.c.dd,.slice u.p u.n u.m,.int .i64 u.c.fs,.int .i64 u.c.sz] 58)):=(Below.refl _ _).alloc (Nat.le_refl _) _
 have HB6:=hid (HB4.out.trans ((hb5.trans (hbn.mono hb5.size)).mono HB4.out.size))
 have HY6:=hid ((HY4.out.later hb5).later hbn)
 clear hb5 hbn HB4 HY4 HOF
 go_upto_region 6 with (fail)
 generalize w5.alloc (.cells #[.int .u32 u.c.id,.int .u32 u.c.sg,.int .u8 u.c.st,.bool u.c.cp,.bool u.c.dd,.slice u.p u.n u.m,.int .i64 u.c.fs,.int .i64 u.c.sz] 58)=w6 at *
 generalize w5.heap.size=Z at *
 cases g1 with
 | true =>
  have HAE:=hid (HAP.out.trans (if_pos (.inl rfl)))
  clear HAP
  go_wp2_with fail
  go_ret2
  have he:=HAE.out
  cases he
  exact z0y HL.out HB6.out rfl
 | false =>
  cases g2 with
  | true =>
   have HAE:=hid (HAP.out.trans (if_pos (.inr rfl)))
   clear HAP
   go_wp2_with fail
   go_ret2
   have he:=HAE.out
   cases he
   exact z0y HL.out HB6.out rfl
  | false =>
   have HAE:=hid (HAP.out.trans (if_neg (by simp)))
   clear HAP
   go_wp2_with fail
   have HYD:Hid (RB w6.drew Y r):=hid HY6.out
   have HBD0:=hid (z0h HB6.out 1)
   have HBD:Hid (Below W.heap.size W w6.drew):=hid HBD0.out
   clear HBD0 HY6 HB6
   refine wp_region_held_drew (S:=fun w'=>Hid (RB w' Y r)) (by kernel_rfl) HYD (fun hHeld=>?_)
   generalize w6.drew=w7 at *
   refine wpAnyH_take (i:=0) (oi:=⟨some 51,_,_,_,_,_⟩) (v:=.slice p n c) rfl (by kernel_rfl) (by kernel_rfl) (by kernel_rfl) (fun _ _ _ h=>h) (Or.inl ⟨by rfl,fun w' hw'=>?_⟩) (by assumption) ?_
   · clear hHeld
     go_simp
   simp only [Act.put,sIB,sCZ,sCS]
   refine wpAnyH_take (i:=1) (oi:=⟨some 52,_,_,_,_,_⟩) (v:=.pointer (some ⟨Y,2,none⟩)) rfl (by kernel_rfl) (by kernel_rfl) (by kernel_rfl) (fun _ _ _ h=>h) (Or.inl ⟨by rfl,fun w' hw'=>?_⟩) (by assumption) ?_
   · clear hHeld
     go_simp
   simp only [Act.put,sIB,sCZ,sCS]
   refine wpAnyH_take (i:=2) (oi:=⟨some 53,_,_,_,_,_⟩) (v:=.int .u32 r.tx) rfl (by kernel_rfl) (by kernel_rfl) (by kernel_rfl) (fun _ _ _ h=>h) (Or.inl ⟨by rfl,fun w' hw'=>?_⟩) (by assumption) ?_
   · obtain⟨a0,a1,a2,a3,a4,a5,a6,a7,a8,a9⟩:=hw'.out.at
     clear hHeld
     go_simp
   simp only [Act.put,sIB,sCZ,sCS]
   refine wpAnyH_take (i:=3) (oi:=⟨some 54,_,_,_,_,_⟩) (v:=.pointer (some ⟨Y,1,none⟩)) rfl (by kernel_rfl) (by kernel_rfl) (by kernel_rfl) (fun _ _ _ h=>h) (Or.inl ⟨by rfl,fun w' hw'=>?_⟩) (by assumption) ?_
   · clear hHeld
     go_simp
   simp only [Act.put,sIB,sCZ,sCS]
   refine wpAnyH_take (i:=4) (oi:=⟨some 55,_,_,_,_,_⟩) (v:=.int .u32 r.sg) rfl (by kernel_rfl) (by kernel_rfl) (by kernel_rfl) (fun _ _ _ h=>h) (Or.inl ⟨by rfl,fun w' hw'=>?_⟩) (by assumption) ?_
   · obtain⟨a0,a1,a2,a3,a4,a5,a6,a7,a8,a9⟩:=hw'.out.at
     clear hHeld
     go_simp
   simp only [Act.put,sIB,sCZ,sCS]
   refine wpAnyH_take (i:=5) (oi:=⟨some 56,_,_,_,_,_⟩) (v:=.pointer (some ⟨Y,3,none⟩)) rfl (by kernel_rfl) (by kernel_rfl) (by kernel_rfl) (fun _ _ _ h=>h) (Or.inl ⟨by rfl,fun w' hw'=>?_⟩) (by assumption) ?_
   · clear hHeld
     go_simp
   simp only [Act.put,sIB,sCZ,sCS]
   refine wpAnyH_take (i:=6) (oi:=⟨some 57,_,_,_,_,_⟩) (v:=.int .u8 r.st) rfl (by kernel_rfl) (by kernel_rfl) (by kernel_rfl) (fun _ _ _ h=>h) (Or.inl ⟨by rfl,fun w' hw'=>?_⟩) (by assumption) ?_
   · obtain⟨a0,a1,a2,a3,a4,a5,a6,a7,a8,a9⟩:=hw'.out.at
     clear hHeld
     go_simp
   simp only [Act.put,sIB,sCZ,sCS]
   refine wpAnyH_take (i:=7) (oi:=⟨some 58,_,_,_,_,_⟩) (v:=.pointer (some ⟨Y,4,none⟩)) rfl (by kernel_rfl) (by kernel_rfl) (by kernel_rfl) (fun _ _ _ h=>h) (Or.inl ⟨by rfl,fun w' hw'=>?_⟩) (by assumption) ?_
   · clear hHeld
     go_simp
   simp only [Act.put,sIB,sCZ,sCS]
   refine wpAnyH_take (i:=8) (oi:=⟨some 59,_,_,_,_,_⟩) (v:=.bool r.cp) rfl (by kernel_rfl) (by kernel_rfl) (by kernel_rfl) (fun _ _ _ h=>h) (Or.inl ⟨by rfl,fun w' hw'=>?_⟩) (by assumption) ?_
   · obtain⟨a0,a1,a2,a3,a4,a5,a6,a7,a8,a9⟩:=hw'.out.at
     clear hHeld
     go_simp
   simp only [Act.put,sIB,sCZ,sCS]
   refine wpAnyH_take (i:=9) (oi:=⟨some 60,_,_,_,_,_⟩) (v:=.int .i64 at_) rfl (by kernel_rfl) (by kernel_rfl) (by kernel_rfl) (fun _ _ _ h=>h) (Or.inl ⟨by rfl,fun w' hw'=>?_⟩) (by assumption) ?_
   · clear hHeld
     go_simp
   simp only [Act.put,sIB,sCZ,sCS]
   refine wpAnyH_take (i:=10) (oi:=⟨some 61,_,_,_,_,_⟩) (v:=.agg (rcs r)) rfl (by kernel_rfl) (by kernel_rfl) (by kernel_rfl) (fun _ _ _ h=>h) (Or.inl ⟨by rfl,fun w' hw'=>z1t rfl (Hid.out hw')⟩) (by assumption) ?_
   simp only [Act.put,sIB,sCZ,sCS]
   refine wpAnyH_ready (rs:=[11]) (by kernel_rfl) (by simp) (AllReadyH.cons rfl (fun K hK=>?_) (AllReadyH.nil))
   go_simp
   go_wp2_with fail
   refine (HSZ.out _ HBD.out).mono ?_
   rintro e8 w8 ⟨rfl,hb8⟩
   have hSN:Hid (RB w8 Y r):=hid (hHeld.out.later hb8)
   have HB8:=hid (HBD.out.trans (hb8.mono HBD.out.size))
   clear hb8 HBD HYD HSZ
   go_wp2_with fail
   refine hK.out _ _ hSN (fun hHeld2=>?_)
   try simp only [Act.put,sIB,sCZ,sCS]
   clear hSN hK K hHeld
   have hHeld:=hHeld2
   clear hHeld2
   refine wpAnyH_take (i:=12) (oi:=⟨some 63,_,_,_,_,_⟩) (v:=.agg #[.int .u32 r.tx,.int .u32 r.sg,.int .u8 r.st,.bool r.cp,.bool false,.slice none 0 0,.int .i64 at_,.int .i64 sx]) rfl (by kernel_rfl) (by kernel_rfl) (by kernel_rfl) (fun _ _ _ h=>h) (Or.inl ⟨by rfl,fun w' hw'=>?_⟩) (by assumption) ?_
   · clear hHeld
     go_simp
   simp only [Act.put,sIB,sCZ,sCS]
   refine wpAnyH_ready (rs:=[13]) (by kernel_rfl) (by simp) (AllReadyH.cons rfl (fun K hK=>?_) (AllReadyH.nil))
   have HWT:=hid (z3r p n c L ⟨⟨r.tx,r.sg,r.st,r.cp,false,[],at_,sx⟩,none,0,0⟩ w8 (HL.out.row.later HB8.out) (by have:=HNN.out;omega))
   go_simp
   go_wp2_with fail
   refine HWT.out.mono ?_
   rintro e9 w9 hg9
   have he:=HAE.out
   cases he
   have hb9:Below w8.heap.size w8 w9:=by obtain⟨r1,d1,h1,_,h3,_⟩:=hg9;exact h3
   have hSN:Hid (RB w9 Y r):=hid (hHeld.out.later hb9)
   obtain⟨v,hv⟩:∃ v,e9=.returned v:=by obtain⟨r1,d1,h1,_⟩:=hg9;exact⟨_,h1⟩
   subst hv
   obtain⟨r1,m1,d1,rfl,hga⟩:=z3n HL.out ⟨⟨r.tx,r.sg,r.st,r.cp,false,[],at_,sx⟩,none,0,0⟩ (SlG.empty _) (.inr fun a ha=>by cases ha) HB8.out hg9 rfl
   have HGA:=hid hga
   clear hga hg9 hb9 HWT
   go_wp2_with fail
   refine hK.out _ _ hSN (fun hHeld2=>?_)
   try simp only [Act.put,sIB,sCZ,sCS]
   clear hSN hK K hHeld
   have hHeld:=hHeld2
   clear hHeld2
   refine wpAnyH_take (i:=14) (oi:=⟨some 6,_,_,_,_,_⟩) (v:=.slice r1 m1 d1) rfl (by kernel_rfl) (by kernel_rfl) (by kernel_rfl) (fun _ _ _ h=>h) (Or.inl ⟨by rfl,fun w' hw'=>?_⟩) (by assumption) ?_
   · clear hHeld
     go_simp
   simp only [Act.put,sIB,sCZ,sCS]
   refine wpAnyH_take (i:=15) (oi:=⟨some 7,_,_,_,_,_⟩) (v:=.int .i64 0) rfl (by kernel_rfl) (by kernel_rfl) (by kernel_rfl) (fun _ _ _ h=>h) (Or.inl ⟨by rfl,fun w' hw'=>?_⟩) (by assumption) ?_
   · clear hHeld
     go_simp
   simp only [Act.put,sIB,sCZ,sCS]
   refine wpAnyH_done (by kernel_rfl) ?_ _
   clear hHeld
   go_wp2_with fail
   go_ret2
   exact HGA.out
theorem rapply_3 (p:Option Addr) (n c:Nat) (L:List Tv) (at_:Int) (r:Rv) (La:List Ln) (Ta:List Tk) (Ma:List Ln) (W:World) (hL:TL W p n c L) (hn:n≤1000) (hsm:∀ t∈L,Tcok t.c∧t.n≤1000∧0≤t.c.sz∧t.c.sz≤1099511627776) (hP:RvM W r La Ta Ma) (hok:Rxok (r.x La Ta Ma)) (h1:r.ln≤20∧r.tn≤30∧r.wn≤20) (hg:z0v (r.x La Ta Ma)=true) (hk:r.k=3) (t:Tv) (ht:getT Tv.id L r.tx=some t) :
 Calls Tryz.prog 10 #[.slice p n c,.int .i64 at_,.agg (rcs r)] W (z4k W p L (appC (L.map (·.c)) at_ (r.x La Ta Ma)).1 (appC (L.map (·.c)) at_ (r.x La Ta Ma)).2):=by
 have hwz:=z3o hg
 have HL:=hid hL
 have HNN:=hid hn
 obtain⟨W1,hW1,hb1⟩:∃ W1,W.alloc (.cells (rcs r) 40)=W1∧Below W.heap.size W W1:=⟨_,rfl,(Below.refl _ _).alloc (Nat.le_refl _) _⟩
 obtain⟨Y,hY⟩:∃ Y,W.heap.size=Y:=⟨_,rfl⟩
 have hrb:=RB.new W r
 rw [hW1,hY] at hrb
 have HY1:=hid hrb
 have HW1:=hid hW1
 have HB1:=hid hb1
 have HYE:=hid hY
 have HGD:=hid (z2k r La Ta Ma W1 (hP.later hb1) hok ⟨by omega,by omega,by omega⟩)
 have HSZ:=hid fun w (hb:Below W.heap.size W w)=>z4m r La Ta Ma w (hP.later hb) hok h1
 have HGT:=hid fun w (hb:Below W.heap.size W w)=>z2t p n c L r.tx w (hL.row.later hb) (by omega)
 rw [ht] at HGT
 rw [hg] at HGD
 obtain⟨htm,_⟩:=z2y ht
 obtain⟨htc,htn,hts⟩:=hsm t htm
 have htw:=hL.each t htm
 obtain⟨S,hS⟩:∃ S,t.c.sz+z1h (r.x La Ta Ma)=S:=⟨_,rfl⟩
 have HSW:Hid (IntKind.i64.wrap (t.c.sz+z1h (r.x La Ta Ma))=S):=hid (by
  rw [← hS]
  unfold IntKind.wrap;simp [IntKind.signed,IntKind.bits];omega)
 have HLC:=hid fun w (hb:Below W.heap.size W w)=>z4o ⟨⟨t.c.id,t.c.sg,t.c.st,t.c.cp,t.c.dd,t.c.dn,t.c.fs,S⟩,t.p,t.n,t.m⟩ w (htw.later hb) htc.dn (by simp only;omega)
 have e0:z1v ⟨t.c.id,t.c.sg,t.c.st,t.c.cp,t.c.dd,t.c.dn,t.c.fs,S⟩=z1v t.c:=rfl
 simp only [e0] at HLC
 have HTW:=hid htw
 have HTM:=hid htm
 have HTN:=hid htn
 have hap:=appC_3 (at_:=at_) (L.map (·.c)) (r.x La Ta Ma) hg hk (z3s ht)
 obtain⟨M',z',hmz⟩:∃ M' z',appC (L.map (·.c)) at_ (r.x La Ta Ma)=(M',z'):=⟨_,_,rfl⟩
 rw [hmz] at hap ⊢
 try rw [hS] at hap
 have HAP:=hid hap
 have e2:(r.k==2)=false:=by rw [hk];rfl
 have e3:(r.k==3)=true:=by rw [hk];rfl
 have e4:(r.k==4)=false:=by rw [hk];rfl
 have e5:(r.k==5)=false:=by rw [hk];rfl
 have e6:(r.k==6)=false:=by rw [hk];rfl
 have e7:(r.k==7)=false:=by rw [hk];rfl
 have l2:decide (r.k<2)=false:=by rw [hk];rfl
 have l7:decide (7<r.k)=false:=by rw [hk];rfl
 have m2:¬ r.k<2:=by omega
 have m7:¬ 7<r.k:=by omega
 have HHK:=hid hk
 have HWZ:=hid hwz
 generalize z1v t.c=lz at *
 obtain⟨⟨lk,ld⟩,lb⟩:=lz
 dsimp only at HLC HAP ⊢
 generalize z1h (r.x La Ta Ma)=sx at *
 generalize z0v (r.x La Ta Ma)=gx at *
 clear hwz hL hn hsm hP hok h1 hg hk ht htm htc htn hts htw hS e0 hap hmz hW1 hY hb1 hrb
 go_enter Tryz.func10,Tryz.ntmps10
 go_upto_region 1 with (fail)
 rw [HW1.out,HYE.out]
 go_wp2_with ((with_reducible refine z0n HY1.out ?_ ?_);rfl)
 refine HGD.out.mono ?_
 rintro e2 w2 ⟨rfl,hb2⟩
 have HB2:=hid (HB1.out.trans (hb2.mono HB1.out.size))
 have HY2:=hid (HY1.out.later hb2)
 clear hb2 HB1 HY1 HGD HW1
 obtain⟨a0,a1,a2,a3,a4,a5,a6,a7,a8,a9⟩:=HY2.out.at
 go_wp2_with fail
 clear a0 a1 a2 a3 a4 a5 a6 a7 a8 a9
 refine (HGT.out _ HB2.out).mono ?_
 rintro e3 w3 ⟨rfl,hb3⟩
 simp only [Option.getD_some,Option.isSome_some]
 have hbn:Below w3.heap.size w3 (w3.alloc (.cells #[.int .u32 t.c.id,.int .u32 t.c.sg,.int .u8 t.c.st,.bool t.c.cp,.bool t.c.dd,.slice t.p t.n t.m,.int .i64 t.c.fs,.int .i64 t.c.sz] 58)):=(Below.refl _ _).alloc (Nat.le_refl _) _
 have HX4:=hid (z0c w3 (.cells #[.int .u32 t.c.id,.int .u32 t.c.sg,.int .u8 t.c.st,.bool t.c.cp,.bool t.c.dd,.slice t.p t.n t.m,.int .i64 t.c.fs,.int .i64 t.c.sz] 58))
 have HB4:=hid (HB2.out.trans ((hb3.trans (hbn.mono hb3.size)).mono HB2.out.size))
 have HY4:=hid ((HY2.out.later hb3).later hbn)
 have HNE:Hid (Y≠w3.heap.size∧W.heap.size≤w3.heap.size):=hid ⟨by have:=(HY2.out.later hb3).lt;omega,Nat.le_trans HB2.out.size hb3.size⟩
 clear hb3 hbn HB2 HY2 HGT
 go_upto_region 4 with (fail)
 generalize w3.alloc (.cells #[.int .u32 t.c.id,.int .u32 t.c.sg,.int .u8 t.c.st,.bool t.c.cp,.bool t.c.dd,.slice t.p t.n t.m,.int .i64 t.c.fs,.int .i64 t.c.sz] 58)=w4 at *
 generalize w3.heap.size=X at *
 obtain⟨a0,a1,a2,a3,a4,a5,a6,a7,a8,a9⟩:=HY4.out.at
 go_wp2_with fail
 clear a0 a1 a2 a3 a4 a5 a6 a7 a8 a9
 have HYD:Hid (RB w4.drew Y r):=hid HY4.out
 have HXD:Hid (w4.drew.heap[X]?=some (.cells #[.int .u32 t.c.id,.int .u32 t.c.sg,.int .u8 t.c.st,.bool t.c.cp,.bool t.c.dd,.slice t.p t.n t.m,.int .i64 t.c.fs,.int .i64 t.c.sz] 58 (0,0))):=hid HX4.out
 have HBD0:=hid (z0h HB4.out 1)
 have HBD:Hid (Below W.heap.size W w4.drew):=hid HBD0.out
 clear HBD0 HY4 HX4 HB4
 refine wp_region_held_drew (S:=fun w'=>Hid (RB w' Y r)) (by kernel_rfl) HYD (fun hHeld=>?_)
 generalize w4.drew=w5 at *
 refine wpAnyH_take (i:=0) (oi:=⟨some 68,_,_,_,_,_⟩) (v:=.pointer (some ⟨X,7,none⟩)) rfl (by kernel_rfl) (by kernel_rfl) (by kernel_rfl) (fun _ _ _ h=>h) (Or.inl ⟨by rfl,fun w' hw'=>?_⟩) (by assumption) ?_
 · clear hHeld
   go_simp
 simp only [Act.put,sIB,sCZ,sCS]
 refine wpAnyH_take (i:=2) (oi:=⟨some 70,_,_,_,_,_⟩) (v:=.agg (rcs r)) rfl (by kernel_rfl) (by kernel_rfl) (by kernel_rfl) (fun _ _ _ h=>h) (Or.inl ⟨by rfl,fun w' hw'=>z1t rfl (Hid.out hw')⟩) (by assumption) ?_
 simp only [Act.put,sIB,sCZ,sCS]
 refine wpAnyH_ready (rs:=[1,3]) (by kernel_rfl) (by simp) (AllReadyH.cons rfl (fun K hK=>?_) (AllReadyH.cons rfl (fun K hK=>?_) (AllReadyH.nil)))
 · have c7:=z0a (j:=7) HXD.out rfl
   go_simp
   go_wp2_with fail
   have hSN:=hHeld
   refine hK.out _ _ hSN (fun hHeld2=>?_)
   try simp only [Act.put,sIB,sCZ,sCS]
   clear hSN hK K hHeld
   have hHeld:=hHeld2
   clear hHeld2
   clear c7
   refine wpAnyH_ready (rs:=[3]) (by kernel_rfl) (by simp) (AllReadyH.cons rfl (fun K hK=>?_) (AllReadyH.nil))
   go_simp
   go_wp2_with fail
   refine (HSZ.out _ HBD.out).mono ?_
   rintro e6 w6 ⟨rfl,hb6⟩
   have hSN:Hid (RB w6 Y r):=hid (hHeld.out.later hb6)
   have HX6:=hid (z0b HXD.out hb6)
   have HB6:=hid (HBD.out.trans (hb6.mono HBD.out.size))
   clear hb6 HXD HBD HSZ
   go_wp2_with fail
   refine hK.out _ _ hSN (fun hHeld2=>?_)
   try simp only [Act.put,sIB,sCZ,sCS]
   clear hSN hK K hHeld
   have hHeld:=hHeld2
   clear hHeld2
   have hw5:=HSW.out
   refine wpAnyH_take (i:=4) (oi:=⟨some 72,_,_,_,_,_⟩) (v:=.int .i64 S) rfl (by kernel_rfl) (by kernel_rfl) (by kernel_rfl) (fun _ _ _ h=>h) (Or.inl ⟨by rfl,fun w' hw'=>?_⟩) (by assumption) ?_
   · clear hHeld
     go_simp
   simp only [Act.put,sIB,sCZ,sCS]
   refine wpAnyH_take (i:=5) (oi:=⟨some 73,_,_,_,_,_⟩) (v:=.pointer (some ⟨X,7,none⟩)) rfl (by kernel_rfl) (by kernel_rfl) (by kernel_rfl) (fun _ _ _ h=>h) (Or.inl ⟨by rfl,fun w' hw'=>?_⟩) (by assumption) ?_
   · clear hHeld
     go_simp
   simp only [Act.put,sIB,sCZ,sCS]
   refine wpAnyH_ready (rs:=[6]) (by kernel_rfl) (by simp) (AllReadyH.cons rfl (fun K hK=>?_) (AllReadyH.nil))
   have q7:=z0a (j:=7) HX6.out rfl
   have f7:=z0m 7 HX6.out
   have HX7:Hid ((w6.setCell ⟨X,7,none⟩ (.int .i64 S)).heap[X]?=some (.cells #[.int .u32 t.c.id,.int .u32 t.c.sg,.int .u8 t.c.st,.bool t.c.cp,.bool t.c.dd,.slice t.p t.n t.m,.int .i64 t.c.fs,.int .i64 S] 58 (0,0))):=hid (z0p 7 _ HX6.out)
   have hSN:Hid (RB (w6.setCell ⟨X,7,none⟩ (.int .i64 S)) Y r):=hid (z4j hHeld.out HNE.out.1 7 _)
   have HY7:=hSN
   have HB7:Hid (Below W.heap.size W (w6.setCell ⟨X,7,none⟩ (.int .i64 S))):=hid (HB6.out.setCell HNE.out.2 _)
   clear HX6 HB6
   go_simp
   go_wp2_with fail
   refine hK.out _ _ hSN (fun hHeld2=>?_)
   try simp only [Act.put,sIB,sCZ,sCS]
   clear hSN hK K hHeld hHeld2 q7 f7 hw5
   refine wpAnyH_done (by kernel_rfl) ?_ _
   generalize w6.setCell ⟨X,7,none⟩ (.int .i64 S)=w7 at *
   obtain⟨b0,b1,b2,b3,b4,b5,b6,b7⟩:=z0g HX7.out
   go_wp2_with fail
   clear b0 b1 b2 b3 b4 b5 b6 b7
   refine (HLC.out _ HB7.out).mono ?_
   rintro e8 w8 ⟨rfl,hb8⟩
   have hbn:Below w8.heap.size w8 (w8.alloc (.cells #[.int .u8 lk.1,.int .u8 lk.2.1,.int .u8 lk.2.2,.int .i64 ld] 71)):=(Below.refl _ _).alloc (Nat.le_refl _) _
   have HZ9:=hid (z0c w8 (.cells #[.int .u8 lk.1,.int .u8 lk.2.1,.int .u8 lk.2.2,.int .i64 ld] 71))
   have HX9:=hid (z0b (z0b HX7.out hb8) hbn)
   have HY9:=hid ((HY7.out.later hb8).later hbn)
   have HB9:=hid (HB7.out.trans ((hb8.trans (hbn.mono hb8.size)).mono HB7.out.size))
   clear hb8 hbn HX7 HY7 HB7 HLC
   go_upto_region 13 with (fail)
   generalize w8.alloc (.cells #[.int .u8 lk.1,.int .u8 lk.2.1,.int .u8 lk.2.2,.int .i64 ld] 71)=w9 at *
   generalize w8.heap.size=Z at *
   cases hdd:t.c.dd with
   | true =>
    have HAE:=hid (HAP.out.trans (if_pos (.inl hdd)))
    rw [hdd] at HX9
    have HDD:=hid hdd
    clear hdd HAP
    have HCL:=hid (z4a ⟨⟨t.c.id,t.c.sg,t.c.st,t.c.cp,true,t.c.dn,t.c.fs,S⟩,t.p,t.n,t.m⟩ ((r.ka,r.kb,r.kc),r.d) w9 (HTW.out.later HB9.out) (Nat.le_trans HTN.out (by omega)))
    obtain⟨a0,a1,a2,a3,a4,a5,a6,a7,a8,a9⟩:=HY9.out.at
    obtain⟨b0,b1,b2,b3,b4,b5,b6,b7⟩:=z0g HX9.out
    go_wp2_with fail
    clear a0 a1 a2 a3 a4 a5 a6 a7 a8 a9
    clear b0 b1 b2 b3 b4 b5 b6 b7
    refine HCL.out.mono ?_
    rintro e10 w10 ⟨r2,n2,d2,rfl,ho10,hb10,hr10⟩
    have HO10:=hid ho10
    have HR10:Hid (∀ a,r2=some a→W.heap.size≤a.block∧a.block≠X):=hid fun a ha=>⟨Nat.le_trans HB9.out.size (hr10 a ha),by have h2:=hr10 a ha;have h3:=z0k HX9.out;omega⟩
    have HX10:=hid (z0b HX9.out hb10)
    have HY10:=hid (HY9.out.later hb10)
    have HB10:=hid (HB9.out.trans (hb10.mono HB9.out.size))
    clear ho10 hb10 hr10 HX9 HY9 HB9 HCL
    obtain⟨b0,b1,b2,b3,b4,b5,b6,b7⟩:=z0g HX10.out
    obtain⟨f0,f1,f2,f3,f4,f5,f6,f7⟩:=z1y HX10.out
    have HX11:=hid (z1d (a':=.int .u32 t.c.id) (b':=.int .u32 t.c.sg) (c':=.int .u8 t.c.st) (d':=.bool t.c.cp) (e':=.bool true) (f':=.slice r2 n2 d2) (g':=.int .i64 t.c.fs) (h':=.int .i64 S) HX10.out)
    have hc:Chg (fun k=>k=X) w10 ((((((((w10.setCell ⟨X,0,none⟩ (.int .u32 t.c.id)).setCell ⟨X,1,none⟩ (.int .u32 t.c.sg)).setCell ⟨X,2,none⟩ (.int .u8 t.c.st)).setCell ⟨X,3,none⟩ (.bool t.c.cp)).setCell ⟨X,4,none⟩ (.bool true)).setCell ⟨X,5,none⟩ (.slice r2 n2 d2)).setCell ⟨X,6,none⟩ (.int .i64 t.c.fs)).setCell ⟨X,7,none⟩ (.int .i64 S)):=(((((((((Chg.refl (fun k=>k=X) w10).setCell ⟨X,0,none⟩ _ fun _=>rfl).setCell ⟨X,1,none⟩ _ fun _=>rfl).setCell ⟨X,2,none⟩ _ fun _=>rfl).setCell ⟨X,3,none⟩ _ fun _=>rfl).setCell ⟨X,4,none⟩ _ fun _=>rfl).setCell ⟨X,5,none⟩ _ fun _=>rfl).setCell ⟨X,6,none⟩ _ fun _=>rfl).setCell ⟨X,7,none⟩ _ fun _=>rfl)
    have HY11:Hid (RB ((((((((w10.setCell ⟨X,0,none⟩ (.int .u32 t.c.id)).setCell ⟨X,1,none⟩ (.int .u32 t.c.sg)).setCell ⟨X,2,none⟩ (.int .u8 t.c.st)).setCell ⟨X,3,none⟩ (.bool t.c.cp)).setCell ⟨X,4,none⟩ (.bool true)).setCell ⟨X,5,none⟩ (.slice r2 n2 d2)).setCell ⟨X,6,none⟩ (.int .i64 t.c.fs)).setCell ⟨X,7,none⟩ (.int .i64 S)) Y r):=hid (HY10.out.chg hc HNE.out.1)
    have HB11:Hid (Below W.heap.size W ((((((((w10.setCell ⟨X,0,none⟩ (.int .u32 t.c.id)).setCell ⟨X,1,none⟩ (.int .u32 t.c.sg)).setCell ⟨X,2,none⟩ (.int .u8 t.c.st)).setCell ⟨X,3,none⟩ (.bool t.c.cp)).setCell ⟨X,4,none⟩ (.bool true)).setCell ⟨X,5,none⟩ (.slice r2 n2 d2)).setCell ⟨X,6,none⟩ (.int .i64 t.c.fs)).setCell ⟨X,7,none⟩ (.int .i64 S))):=hid (hc.below HB10.out HB10.out.size fun k hk=>by rw [hk];exact HNE.out.2)
    have HTV:Hid (TvM ((((((((w10.setCell ⟨X,0,none⟩ (.int .u32 t.c.id)).setCell ⟨X,1,none⟩ (.int .u32 t.c.sg)).setCell ⟨X,2,none⟩ (.int .u8 t.c.st)).setCell ⟨X,3,none⟩ (.bool t.c.cp)).setCell ⟨X,4,none⟩ (.bool true)).setCell ⟨X,5,none⟩ (.slice r2 n2 d2)).setCell ⟨X,6,none⟩ (.int .i64 t.c.fs)).setCell ⟨X,7,none⟩ (.int .i64 S)) ⟨⟨t.c.id,t.c.sg,t.c.st,t.c.cp,true,t.c.dn ++ [((r.ka,r.kb,r.kc),r.d)],t.c.fs,S⟩,r2,n2,d2⟩):=hid (z3d (t:=⟨⟨t.c.id,t.c.sg,t.c.st,t.c.cp,true,t.c.dn ++ [((r.ka,r.kb,r.kc),r.d)],t.c.fs,S⟩,r2,n2,d2⟩) (W:=W) HO10.out (fun a ha=>(HR10.out a ha).2) hc)
    clear hc
    go_upto_region 28 with (fail)
    clear b0 b1 b2 b3 b4 b5 b6 b7
    clear f0 f1 f2 f3 f4 f5 f6 f7 HX10 HY10 HB10
    generalize ((((((((w10.setCell ⟨X,0,none⟩ (.int .u32 t.c.id)).setCell ⟨X,1,none⟩ (.int .u32 t.c.sg)).setCell ⟨X,2,none⟩ (.int .u8 t.c.st)).setCell ⟨X,3,none⟩ (.bool t.c.cp)).setCell ⟨X,4,none⟩ (.bool true)).setCell ⟨X,5,none⟩ (.slice r2 n2 d2)).setCell ⟨X,6,none⟩ (.int .i64 t.c.fs)).setCell ⟨X,7,none⟩ (.int .i64 S))=w11 at *
    obtain⟨a0,a1,a2,a3,a4,a5,a6,a7,a8,a9⟩:=HY11.out.at
    go_wp2_with fail
    clear a0 a1 a2 a3 a4 a5 a6 a7 a8 a9
    go_ret2
    have he:=HAE.out
    cases he
    exact z0y HL.out HB11.out rfl
   | false =>
    by_cases h6:6≤t.n
    · have HAE:=hid (HAP.out.trans (if_pos (.inr (by rw [HTW.out.len];exact h6))))
      rw [hdd] at HX9
      have HDD:=hid hdd
      have g6:decide ((6:Int)≤(t.n:Int))=true:=decide_eq_true (by omega)
      have g7:(6:Int)≤(t.n:Int):=by omega
      have HH6:=hid h6
      clear hdd HAP h6
      have HCL:=hid (z4a ⟨⟨t.c.id,t.c.sg,t.c.st,t.c.cp,false,t.c.dn,t.c.fs,S⟩,t.p,t.n,t.m⟩ ((r.ka,r.kb,r.kc),r.d) w9 (HTW.out.later HB9.out) (Nat.le_trans HTN.out (by omega)))
      obtain⟨a0,a1,a2,a3,a4,a5,a6,a7,a8,a9⟩:=HY9.out.at
      obtain⟨b0,b1,b2,b3,b4,b5,b6,b7⟩:=z0g HX9.out
      go_wp2_with fail
      clear a0 a1 a2 a3 a4 a5 a6 a7 a8 a9
      clear b0 b1 b2 b3 b4 b5 b6 b7
      refine HCL.out.mono ?_
      rintro e10 w10 ⟨r2,n2,d2,rfl,ho10,hb10,hr10⟩
      have HO10:=hid ho10
      have HR10:Hid (∀ a,r2=some a→W.heap.size≤a.block∧a.block≠X):=hid fun a ha=>⟨Nat.le_trans HB9.out.size (hr10 a ha),by have h2:=hr10 a ha;have h3:=z0k HX9.out;omega⟩
      have HX10:=hid (z0b HX9.out hb10)
      have HY10:=hid (HY9.out.later hb10)
      have HB10:=hid (HB9.out.trans (hb10.mono HB9.out.size))
      clear ho10 hb10 hr10 HX9 HY9 HB9 HCL
      obtain⟨b0,b1,b2,b3,b4,b5,b6,b7⟩:=z0g HX10.out
      obtain⟨f0,f1,f2,f3,f4,f5,f6,f7⟩:=z1y HX10.out
      have HX11:=hid (z1d (a':=.int .u32 t.c.id) (b':=.int .u32 t.c.sg) (c':=.int .u8 t.c.st) (d':=.bool t.c.cp) (e':=.bool false) (f':=.slice r2 n2 d2) (g':=.int .i64 t.c.fs) (h':=.int .i64 S) HX10.out)
      have hc:Chg (fun k=>k=X) w10 ((((((((w10.setCell ⟨X,0,none⟩ (.int .u32 t.c.id)).setCell ⟨X,1,none⟩ (.int .u32 t.c.sg)).setCell ⟨X,2,none⟩ (.int .u8 t.c.st)).setCell ⟨X,3,none⟩ (.bool t.c.cp)).setCell ⟨X,4,none⟩ (.bool false)).setCell ⟨X,5,none⟩ (.slice r2 n2 d2)).setCell ⟨X,6,none⟩ (.int .i64 t.c.fs)).setCell ⟨X,7,none⟩ (.int .i64 S)):=(((((((((Chg.refl (fun k=>k=X) w10).setCell ⟨X,0,none⟩ _ fun _=>rfl).setCell ⟨X,1,none⟩ _ fun _=>rfl).setCell ⟨X,2,none⟩ _ fun _=>rfl).setCell ⟨X,3,none⟩ _ fun _=>rfl).setCell ⟨X,4,none⟩ _ fun _=>rfl).setCell ⟨X,5,none⟩ _ fun _=>rfl).setCell ⟨X,6,none⟩ _ fun _=>rfl).setCell ⟨X,7,none⟩ _ fun _=>rfl)
      have HY11:Hid (RB ((((((((w10.setCell ⟨X,0,none⟩ (.int .u32 t.c.id)).setCell ⟨X,1,none⟩ (.int .u32 t.c.sg)).setCell ⟨X,2,none⟩ (.int .u8 t.c.st)).setCell ⟨X,3,none⟩ (.bool t.c.cp)).setCell ⟨X,4,none⟩ (.bool false)).setCell ⟨X,5,none⟩ (.slice r2 n2 d2)).setCell ⟨X,6,none⟩ (.int .i64 t.c.fs)).setCell ⟨X,7,none⟩ (.int .i64 S)) Y r):=hid (HY10.out.chg hc HNE.out.1)
      have HB11:Hid (Below W.heap.size W ((((((((w10.setCell ⟨X,0,none⟩ (.int .u32 t.c.id)).setCell ⟨X,1,none⟩ (.int .u32 t.c.sg)).setCell ⟨X,2,none⟩ (.int .u8 t.c.st)).setCell ⟨X,3,none⟩ (.bool t.c.cp)).setCell ⟨X,4,none⟩ (.bool false)).setCell ⟨X,5,none⟩ (.slice r2 n2 d2)).setCell ⟨X,6,none⟩ (.int .i64 t.c.fs)).setCell ⟨X,7,none⟩ (.int .i64 S))):=hid (hc.below HB10.out HB10.out.size fun k hk=>by rw [hk];exact HNE.out.2)
      have HTV:Hid (TvM ((((((((w10.setCell ⟨X,0,none⟩ (.int .u32 t.c.id)).setCell ⟨X,1,none⟩ (.int .u32 t.c.sg)).setCell ⟨X,2,none⟩ (.int .u8 t.c.st)).setCell ⟨X,3,none⟩ (.bool t.c.cp)).setCell ⟨X,4,none⟩ (.bool false)).setCell ⟨X,5,none⟩ (.slice r2 n2 d2)).setCell ⟨X,6,none⟩ (.int .i64 t.c.fs)).setCell ⟨X,7,none⟩ (.int .i64 S)) ⟨⟨t.c.id,t.c.sg,t.c.st,t.c.cp,false,t.c.dn ++ [((r.ka,r.kb,r.kc),r.d)],t.c.fs,S⟩,r2,n2,d2⟩):=hid (z3d (t:=⟨⟨t.c.id,t.c.sg,t.c.st,t.c.cp,false,t.c.dn ++ [((r.ka,r.kb,r.kc),r.d)],t.c.fs,S⟩,r2,n2,d2⟩) (W:=W) HO10.out (fun a ha=>(HR10.out a ha).2) hc)
      clear hc
      go_upto_region 28 with (fail)
      clear b0 b1 b2 b3 b4 b5 b6 b7
      clear f0 f1 f2 f3 f4 f5 f6 f7 HX10 HY10 HB10
      generalize ((((((((w10.setCell ⟨X,0,none⟩ (.int .u32 t.c.id)).setCell ⟨X,1,none⟩ (.int .u32 t.c.sg)).setCell ⟨X,2,none⟩ (.int .u8 t.c.st)).setCell ⟨X,3,none⟩ (.bool t.c.cp)).setCell ⟨X,4,none⟩ (.bool false)).setCell ⟨X,5,none⟩ (.slice r2 n2 d2)).setCell ⟨X,6,none⟩ (.int .i64 t.c.fs)).setCell ⟨X,7,none⟩ (.int .i64 S))=w11 at *
      obtain⟨a0,a1,a2,a3,a4,a5,a6,a7,a8,a9⟩:=HY11.out.at
      go_wp2_with fail
      clear a0 a1 a2 a3 a4 a5 a6 a7 a8 a9
      go_ret2
      have he:=HAE.out
      cases he
      exact z0y HL.out HB11.out rfl
    · have HAE:=hid (HAP.out.trans (if_neg (by rw [HTW.out.len,hdd];rintro (h | h);cases h;exact h6 h)))
      rw [hdd] at HX9 HAE
      have HDD:=hid hdd
      have g6:decide ((6:Int)≤(t.n:Int))=false:=decide_eq_false (by omega)
      have g7:¬ (6:Int)≤(t.n:Int):=by omega
      have HH6:=hid h6
      clear hdd HAP h6
      have HCL:=hid (z4a ⟨⟨t.c.id,t.c.sg,t.c.st,t.c.cp,false,t.c.dn,t.c.fs,S⟩,t.p,t.n,t.m⟩ ((r.ka,r.kb,r.kc),r.d) w9 (HTW.out.later HB9.out) (Nat.le_trans HTN.out (by omega)))
      obtain⟨a0,a1,a2,a3,a4,a5,a6,a7,a8,a9⟩:=HY9.out.at
      obtain⟨b0,b1,b2,b3,b4,b5,b6,b7⟩:=z0g HX9.out
      go_wp2_with fail
      clear a0 a1 a2 a3 a4 a5 a6 a7 a8 a9
      clear b0 b1 b2 b3 b4 b5 b6 b7
      refine HCL.out.mono ?_
      rintro e10 w10 ⟨r2,n2,d2,rfl,ho10,hb10,hr10⟩
      have HO10:=hid ho10
      have HR10:Hid (∀ a,r2=some a→W.heap.size≤a.block∧a.block≠X):=hid fun a ha=>⟨Nat.le_trans HB9.out.size (hr10 a ha),by have h2:=hr10 a ha;have h3:=z0k HX9.out;omega⟩
      have HX10:=hid (z0b HX9.out hb10)
      have HY10:=hid (HY9.out.later hb10)
      have HB10:=hid (HB9.out.trans (hb10.mono HB9.out.size))
      clear ho10 hb10 hr10 HX9 HY9 HB9 HCL
      obtain⟨b0,b1,b2,b3,b4,b5,b6,b7⟩:=z0g HX10.out
      obtain⟨f0,f1,f2,f3,f4,f5,f6,f7⟩:=z1y HX10.out
      have HX11:=hid (z1d (a':=.int .u32 t.c.id) (b':=.int .u32 t.c.sg) (c':=.int .u8 t.c.st) (d':=.bool t.c.cp) (e':=.bool false) (f':=.slice r2 n2 d2) (g':=.int .i64 t.c.fs) (h':=.int .i64 S) HX10.out)
      have hc:Chg (fun k=>k=X) w10 ((((((((w10.setCell ⟨X,0,none⟩ (.int .u32 t.c.id)).setCell ⟨X,1,none⟩ (.int .u32 t.c.sg)).setCell ⟨X,2,none⟩ (.int .u8 t.c.st)).setCell ⟨X,3,none⟩ (.bool t.c.cp)).setCell ⟨X,4,none⟩ (.bool false)).setCell ⟨X,5,none⟩ (.slice r2 n2 d2)).setCell ⟨X,6,none⟩ (.int .i64 t.c.fs)).setCell ⟨X,7,none⟩ (.int .i64 S)):=(((((((((Chg.refl (fun k=>k=X) w10).setCell ⟨X,0,none⟩ _ fun _=>rfl).setCell ⟨X,1,none⟩ _ fun _=>rfl).setCell ⟨X,2,none⟩ _ fun _=>rfl).setCell ⟨X,3,none⟩ _ fun _=>rfl).setCell ⟨X,4,none⟩ _ fun _=>rfl).setCell ⟨X,5,none⟩ _ fun _=>rfl).setCell ⟨X,6,none⟩ _ fun _=>rfl).setCell ⟨X,7,none⟩ _ fun _=>rfl)
      have HY11:Hid (RB ((((((((w10.setCell ⟨X,0,none⟩ (.int .u32 t.c.id)).setCell ⟨X,1,none⟩ (.int .u32 t.c.sg)).setCell ⟨X,2,none⟩ (.int .u8 t.c.st)).setCell ⟨X,3,none⟩ (.bool t.c.cp)).setCell ⟨X,4,none⟩ (.bool false)).setCell ⟨X,5,none⟩ (.slice r2 n2 d2)).setCell ⟨X,6,none⟩ (.int .i64 t.c.fs)).setCell ⟨X,7,none⟩ (.int .i64 S)) Y r):=hid (HY10.out.chg hc HNE.out.1)
      have HB11:Hid (Below W.heap.size W ((((((((w10.setCell ⟨X,0,none⟩ (.int .u32 t.c.id)).setCell ⟨X,1,none⟩ (.int .u32 t.c.sg)).setCell ⟨X,2,none⟩ (.int .u8 t.c.st)).setCell ⟨X,3,none⟩ (.bool t.c.cp)).setCell ⟨X,4,none⟩ (.bool false)).setCell ⟨X,5,none⟩ (.slice r2 n2 d2)).setCell ⟨X,6,none⟩ (.int .i64 t.c.fs)).setCell ⟨X,7,none⟩ (.int .i64 S))):=hid (hc.below HB10.out HB10.out.size fun k hk=>by rw [hk];exact HNE.out.2)
      have HTV:Hid (TvM ((((((((w10.setCell ⟨X,0,none⟩ (.int .u32 t.c.id)).setCell ⟨X,1,none⟩ (.int .u32 t.c.sg)).setCell ⟨X,2,none⟩ (.int .u8 t.c.st)).setCell ⟨X,3,none⟩ (.bool t.c.cp)).setCell ⟨X,4,none⟩ (.bool false)).setCell ⟨X,5,none⟩ (.slice r2 n2 d2)).setCell ⟨X,6,none⟩ (.int .i64 t.c.fs)).setCell ⟨X,7,none⟩ (.int .i64 S)) ⟨⟨t.c.id,t.c.sg,t.c.st,t.c.cp,false,t.c.dn ++ [((r.ka,r.kb,r.kc),r.d)],t.c.fs,S⟩,r2,n2,d2⟩):=hid (z3d (t:=⟨⟨t.c.id,t.c.sg,t.c.st,t.c.cp,false,t.c.dn ++ [((r.ka,r.kb,r.kc),r.d)],t.c.fs,S⟩,r2,n2,d2⟩) (W:=W) HO10.out (fun a ha=>(HR10.out a ha).2) hc)
      clear hc
      go_upto_region 28 with (fail)
      clear b0 b1 b2 b3 b4 b5 b6 b7
      clear f0 f1 f2 f3 f4 f5 f6 f7 HX10 HY10 HB10
      generalize ((((((((w10.setCell ⟨X,0,none⟩ (.int .u32 t.c.id)).setCell ⟨X,1,none⟩ (.int .u32 t.c.sg)).setCell ⟨X,2,none⟩ (.int .u8 t.c.st)).setCell ⟨X,3,none⟩ (.bool t.c.cp)).setCell ⟨X,4,none⟩ (.bool false)).setCell ⟨X,5,none⟩ (.slice r2 n2 d2)).setCell ⟨X,6,none⟩ (.int .i64 t.c.fs)).setCell ⟨X,7,none⟩ (.int .i64 S))=w11 at *
      obtain⟨a0,a1,a2,a3,a4,a5,a6,a7,a8,a9⟩:=HY11.out.at
      obtain⟨b0,b1,b2,b3,b4,b5,b6,b7⟩:=z0g HX11.out
      have HWT:=hid (z3r p n c L ⟨⟨t.c.id,t.c.sg,t.c.st,t.c.cp,false,t.c.dn ++ [((r.ka,r.kb,r.kc),r.d)],t.c.fs,S⟩,r2,n2,d2⟩ w11 (HL.out.row.later HB11.out) (by have:=HNN.out;omega))
      go_wp2_with fail
      clear a0 a1 a2 a3 a4 a5 a6 a7 a8 a9 b0 b1 b2 b3 b4 b5 b6 b7
      refine HWT.out.mono ?_
      rintro e12 w12 hg12
      have he:=HAE.out
      cases he
      obtain⟨v,hv⟩:∃ v,e12=.returned v:=by obtain⟨r1,d1,h1,_⟩:=hg12;exact⟨_,h1⟩
      subst hv
      obtain⟨r1,m1,d1,rfl,hga⟩:=z3n HL.out ⟨⟨t.c.id,t.c.sg,t.c.st,t.c.cp,false,t.c.dn ++ [((r.ka,r.kb,r.kc),r.d)],t.c.fs,S⟩,r2,n2,d2⟩ HTV.out (.inr fun a ha=>(HR10.out a ha).1) HB11.out hg12 rfl
      have HGA:=hid hga
      clear hga hg12 HWT
      go_wp2_with fail
      go_ret2
      exact HGA.out
 · go_simp
   go_wp2_with fail
   refine (HSZ.out _ HBD.out).mono ?_
   rintro e6 w6 ⟨rfl,hb6⟩
   have hSN:Hid (RB w6 Y r):=hid (hHeld.out.later hb6)
   have HX6:=hid (z0b HXD.out hb6)
   have HB6:=hid (HBD.out.trans (hb6.mono HBD.out.size))
   clear hb6 HXD HBD HSZ
   go_wp2_with fail
   refine hK.out _ _ hSN (fun hHeld2=>?_)
   try simp only [Act.put,sIB,sCZ,sCS]
   clear hSN hK K hHeld
   have hHeld:=hHeld2
   clear hHeld2
   refine wpAnyH_ready (rs:=[1]) (by kernel_rfl) (by simp) (AllReadyH.cons rfl (fun K hK=>?_) (AllReadyH.nil))
   have c7:=z0a (j:=7) HX6.out rfl
   go_simp
   go_wp2_with fail
   have hSN:=hHeld
   refine hK.out _ _ hSN (fun hHeld2=>?_)
   try simp only [Act.put,sIB,sCZ,sCS]
   clear hSN hK K hHeld
   have hHeld:=hHeld2
   clear hHeld2
   clear c7
   have hw5:=HSW.out
   refine wpAnyH_take (i:=4) (oi:=⟨some 72,_,_,_,_,_⟩) (v:=.int .i64 S) rfl (by kernel_rfl) (by kernel_rfl) (by kernel_rfl) (fun _ _ _ h=>h) (Or.inl ⟨by rfl,fun w' hw'=>?_⟩) (by assumption) ?_
   · clear hHeld
     go_simp
   simp only [Act.put,sIB,sCZ,sCS]
   refine wpAnyH_take (i:=5) (oi:=⟨some 73,_,_,_,_,_⟩) (v:=.pointer (some ⟨X,7,none⟩)) rfl (by kernel_rfl) (by kernel_rfl) (by kernel_rfl) (fun _ _ _ h=>h) (Or.inl ⟨by rfl,fun w' hw'=>?_⟩) (by assumption) ?_
   · clear hHeld
     go_simp
   simp only [Act.put,sIB,sCZ,sCS]
   refine wpAnyH_ready (rs:=[6]) (by kernel_rfl) (by simp) (AllReadyH.cons rfl (fun K hK=>?_) (AllReadyH.nil))
   have q7:=z0a (j:=7) HX6.out rfl
   have f7:=z0m 7 HX6.out
   have HX7:Hid ((w6.setCell ⟨X,7,none⟩ (.int .i64 S)).heap[X]?=some (.cells #[.int .u32 t.c.id,.int .u32 t.c.sg,.int .u8 t.c.st,.bool t.c.cp,.bool t.c.dd,.slice t.p t.n t.m,.int .i64 t.c.fs,.int .i64 S] 58 (0,0))):=hid (z0p 7 _ HX6.out)
   have hSN:Hid (RB (w6.setCell ⟨X,7,none⟩ (.int .i64 S)) Y r):=hid (z4j hHeld.out HNE.out.1 7 _)
   have HY7:=hSN
   have HB7:Hid (Below W.heap.size W (w6.setCell ⟨X,7,none⟩ (.int .i64 S))):=hid (HB6.out.setCell HNE.out.2 _)
   clear HX6 HB6
   go_simp
   go_wp2_with fail
   refine hK.out _ _ hSN (fun hHeld2=>?_)
   try simp only [Act.put,sIB,sCZ,sCS]
   clear hSN hK K hHeld hHeld2 q7 f7 hw5
   refine wpAnyH_done (by kernel_rfl) ?_ _
   generalize w6.setCell ⟨X,7,none⟩ (.int .i64 S)=w7 at *
   obtain⟨b0,b1,b2,b3,b4,b5,b6,b7⟩:=z0g HX7.out
   go_wp2_with fail
   clear b0 b1 b2 b3 b4 b5 b6 b7
   refine (HLC.out _ HB7.out).mono ?_
   rintro e8 w8 ⟨rfl,hb8⟩
   have hbn:Below w8.heap.size w8 (w8.alloc (.cells #[.int .u8 lk.1,.int .u8 lk.2.1,.int .u8 lk.2.2,.int .i64 ld] 71)):=(Below.refl _ _).alloc (Nat.le_refl _) _
   have HZ9:=hid (z0c w8 (.cells #[.int .u8 lk.1,.int .u8 lk.2.1,.int .u8 lk.2.2,.int .i64 ld] 71))
   have HX9:=hid (z0b (z0b HX7.out hb8) hbn)
   have HY9:=hid ((HY7.out.later hb8).later hbn)
   have HB9:=hid (HB7.out.trans ((hb8.trans (hbn.mono hb8.size)).mono HB7.out.size))
   clear hb8 hbn HX7 HY7 HB7 HLC
   go_upto_region 13 with (fail)
   generalize w8.alloc (.cells #[.int .u8 lk.1,.int .u8 lk.2.1,.int .u8 lk.2.2,.int .i64 ld] 71)=w9 at *
   generalize w8.heap.size=Z at *
   cases hdd:t.c.dd with
   | true =>
    have HAE:=hid (HAP.out.trans (if_pos (.inl hdd)))
    rw [hdd] at HX9
    have HDD:=hid hdd
    clear hdd HAP
    have HCL:=hid (z4a ⟨⟨t.c.id,t.c.sg,t.c.st,t.c.cp,true,t.c.dn,t.c.fs,S⟩,t.p,t.n,t.m⟩ ((r.ka,r.kb,r.kc),r.d) w9 (HTW.out.later HB9.out) (Nat.le_trans HTN.out (by omega)))
    obtain⟨a0,a1,a2,a3,a4,a5,a6,a7,a8,a9⟩:=HY9.out.at
    obtain⟨b0,b1,b2,b3,b4,b5,b6,b7⟩:=z0g HX9.out
    go_wp2_with fail
    clear a0 a1 a2 a3 a4 a5 a6 a7 a8 a9
    clear b0 b1 b2 b3 b4 b5 b6 b7
    refine HCL.out.mono ?_
    rintro e10 w10 ⟨r2,n2,d2,rfl,ho10,hb10,hr10⟩
    have HO10:=hid ho10
    have HR10:Hid (∀ a,r2=some a→W.heap.size≤a.block∧a.block≠X):=hid fun a ha=>⟨Nat.le_trans HB9.out.size (hr10 a ha),by have h2:=hr10 a ha;have h3:=z0k HX9.out;omega⟩
    have HX10:=hid (z0b HX9.out hb10)
    have HY10:=hid (HY9.out.later hb10)
    have HB10:=hid (HB9.out.trans (hb10.mono HB9.out.size))
    clear ho10 hb10 hr10 HX9 HY9 HB9 HCL
    obtain⟨b0,b1,b2,b3,b4,b5,b6,b7⟩:=z0g HX10.out
    obtain⟨f0,f1,f2,f3,f4,f5,f6,f7⟩:=z1y HX10.out
    have HX11:=hid (z1d (a':=.int .u32 t.c.id) (b':=.int .u32 t.c.sg) (c':=.int .u8 t.c.st) (d':=.bool t.c.cp) (e':=.bool true) (f':=.slice r2 n2 d2) (g':=.int .i64 t.c.fs) (h':=.int .i64 S) HX10.out)
    have hc:Chg (fun k=>k=X) w10 ((((((((w10.setCell ⟨X,0,none⟩ (.int .u32 t.c.id)).setCell ⟨X,1,none⟩ (.int .u32 t.c.sg)).setCell ⟨X,2,none⟩ (.int .u8 t.c.st)).setCell ⟨X,3,none⟩ (.bool t.c.cp)).setCell ⟨X,4,none⟩ (.bool true)).setCell ⟨X,5,none⟩ (.slice r2 n2 d2)).setCell ⟨X,6,none⟩ (.int .i64 t.c.fs)).setCell ⟨X,7,none⟩ (.int .i64 S)):=(((((((((Chg.refl (fun k=>k=X) w10).setCell ⟨X,0,none⟩ _ fun _=>rfl).setCell ⟨X,1,none⟩ _ fun _=>rfl).setCell ⟨X,2,none⟩ _ fun _=>rfl).setCell ⟨X,3,none⟩ _ fun _=>rfl).setCell ⟨X,4,none⟩ _ fun _=>rfl).setCell ⟨X,5,none⟩ _ fun _=>rfl).setCell ⟨X,6,none⟩ _ fun _=>rfl).setCell ⟨X,7,none⟩ _ fun _=>rfl)
    have HY11:Hid (RB ((((((((w10.setCell ⟨X,0,none⟩ (.int .u32 t.c.id)).setCell ⟨X,1,none⟩ (.int .u32 t.c.sg)).setCell ⟨X,2,none⟩ (.int .u8 t.c.st)).setCell ⟨X,3,none⟩ (.bool t.c.cp)).setCell ⟨X,4,none⟩ (.bool true)).setCell ⟨X,5,none⟩ (.slice r2 n2 d2)).setCell ⟨X,6,none⟩ (.int .i64 t.c.fs)).setCell ⟨X,7,none⟩ (.int .i64 S)) Y r):=hid (HY10.out.chg hc HNE.out.1)
    have HB11:Hid (Below W.heap.size W ((((((((w10.setCell ⟨X,0,none⟩ (.int .u32 t.c.id)).setCell ⟨X,1,none⟩ (.int .u32 t.c.sg)).setCell ⟨X,2,none⟩ (.int .u8 t.c.st)).setCell ⟨X,3,none⟩ (.bool t.c.cp)).setCell ⟨X,4,none⟩ (.bool true)).setCell ⟨X,5,none⟩ (.slice r2 n2 d2)).setCell ⟨X,6,none⟩ (.int .i64 t.c.fs)).setCell ⟨X,7,none⟩ (.int .i64 S))):=hid (hc.below HB10.out HB10.out.size fun k hk=>by rw [hk];exact HNE.out.2)
    have HTV:Hid (TvM ((((((((w10.setCell ⟨X,0,none⟩ (.int .u32 t.c.id)).setCell ⟨X,1,none⟩ (.int .u32 t.c.sg)).setCell ⟨X,2,none⟩ (.int .u8 t.c.st)).setCell ⟨X,3,none⟩ (.bool t.c.cp)).setCell ⟨X,4,none⟩ (.bool true)).setCell ⟨X,5,none⟩ (.slice r2 n2 d2)).setCell ⟨X,6,none⟩ (.int .i64 t.c.fs)).setCell ⟨X,7,none⟩ (.int .i64 S)) ⟨⟨t.c.id,t.c.sg,t.c.st,t.c.cp,true,t.c.dn ++ [((r.ka,r.kb,r.kc),r.d)],t.c.fs,S⟩,r2,n2,d2⟩):=hid (z3d (t:=⟨⟨t.c.id,t.c.sg,t.c.st,t.c.cp,true,t.c.dn ++ [((r.ka,r.kb,r.kc),r.d)],t.c.fs,S⟩,r2,n2,d2⟩) (W:=W) HO10.out (fun a ha=>(HR10.out a ha).2) hc)
    clear hc
    go_upto_region 28 with (fail)
    clear b0 b1 b2 b3 b4 b5 b6 b7
    clear f0 f1 f2 f3 f4 f5 f6 f7 HX10 HY10 HB10
    generalize ((((((((w10.setCell ⟨X,0,none⟩ (.int .u32 t.c.id)).setCell ⟨X,1,none⟩ (.int .u32 t.c.sg)).setCell ⟨X,2,none⟩ (.int .u8 t.c.st)).setCell ⟨X,3,none⟩ (.bool t.c.cp)).setCell ⟨X,4,none⟩ (.bool true)).setCell ⟨X,5,none⟩ (.slice r2 n2 d2)).setCell ⟨X,6,none⟩ (.int .i64 t.c.fs)).setCell ⟨X,7,none⟩ (.int .i64 S))=w11 at *
    obtain⟨a0,a1,a2,a3,a4,a5,a6,a7,a8,a9⟩:=HY11.out.at
    go_wp2_with fail
    clear a0 a1 a2 a3 a4 a5 a6 a7 a8 a9
    go_ret2
    have he:=HAE.out
    cases he
    exact z0y HL.out HB11.out rfl
   | false =>
    by_cases h6:6≤t.n
    · have HAE:=hid (HAP.out.trans (if_pos (.inr (by rw [HTW.out.len];exact h6))))
      rw [hdd] at HX9
      have HDD:=hid hdd
      have g6:decide ((6:Int)≤(t.n:Int))=true:=decide_eq_true (by omega)
      have g7:(6:Int)≤(t.n:Int):=by omega
      have HH6:=hid h6
      clear hdd HAP h6
      have HCL:=hid (z4a ⟨⟨t.c.id,t.c.sg,t.c.st,t.c.cp,false,t.c.dn,t.c.fs,S⟩,t.p,t.n,t.m⟩ ((r.ka,r.kb,r.kc),r.d) w9 (HTW.out.later HB9.out) (Nat.le_trans HTN.out (by omega)))
      obtain⟨a0,a1,a2,a3,a4,a5,a6,a7,a8,a9⟩:=HY9.out.at
      obtain⟨b0,b1,b2,b3,b4,b5,b6,b7⟩:=z0g HX9.out
      go_wp2_with fail
      clear a0 a1 a2 a3 a4 a5 a6 a7 a8 a9
      clear b0 b1 b2 b3 b4 b5 b6 b7
      refine HCL.out.mono ?_
      rintro e10 w10 ⟨r2,n2,d2,rfl,ho10,hb10,hr10⟩
      have HO10:=hid ho10
      have HR10:Hid (∀ a,r2=some a→W.heap.size≤a.block∧a.block≠X):=hid fun a ha=>⟨Nat.le_trans HB9.out.size (hr10 a ha),by have h2:=hr10 a ha;have h3:=z0k HX9.out;omega⟩
      have HX10:=hid (z0b HX9.out hb10)
      have HY10:=hid (HY9.out.later hb10)
      have HB10:=hid (HB9.out.trans (hb10.mono HB9.out.size))
      clear ho10 hb10 hr10 HX9 HY9 HB9 HCL
      obtain⟨b0,b1,b2,b3,b4,b5,b6,b7⟩:=z0g HX10.out
      obtain⟨f0,f1,f2,f3,f4,f5,f6,f7⟩:=z1y HX10.out
      have HX11:=hid (z1d (a':=.int .u32 t.c.id) (b':=.int .u32 t.c.sg) (c':=.int .u8 t.c.st) (d':=.bool t.c.cp) (e':=.bool false) (f':=.slice r2 n2 d2) (g':=.int .i64 t.c.fs) (h':=.int .i64 S) HX10.out)
      have hc:Chg (fun k=>k=X) w10 ((((((((w10.setCell ⟨X,0,none⟩ (.int .u32 t.c.id)).setCell ⟨X,1,none⟩ (.int .u32 t.c.sg)).setCell ⟨X,2,none⟩ (.int .u8 t.c.st)).setCell ⟨X,3,none⟩ (.bool t.c.cp)).setCell ⟨X,4,none⟩ (.bool false)).setCell ⟨X,5,none⟩ (.slice r2 n2 d2)).setCell ⟨X,6,none⟩ (.int .i64 t.c.fs)).setCell ⟨X,7,none⟩ (.int .i64 S)):=(((((((((Chg.refl (fun k=>k=X) w10).setCell ⟨X,0,none⟩ _ fun _=>rfl).setCell ⟨X,1,none⟩ _ fun _=>rfl).setCell ⟨X,2,none⟩ _ fun _=>rfl).setCell ⟨X,3,none⟩ _ fun _=>rfl).setCell ⟨X,4,none⟩ _ fun _=>rfl).setCell ⟨X,5,none⟩ _ fun _=>rfl).setCell ⟨X,6,none⟩ _ fun _=>rfl).setCell ⟨X,7,none⟩ _ fun _=>rfl)
      have HY11:Hid (RB ((((((((w10.setCell ⟨X,0,none⟩ (.int .u32 t.c.id)).setCell ⟨X,1,none⟩ (.int .u32 t.c.sg)).setCell ⟨X,2,none⟩ (.int .u8 t.c.st)).setCell ⟨X,3,none⟩ (.bool t.c.cp)).setCell ⟨X,4,none⟩ (.bool false)).setCell ⟨X,5,none⟩ (.slice r2 n2 d2)).setCell ⟨X,6,none⟩ (.int .i64 t.c.fs)).setCell ⟨X,7,none⟩ (.int .i64 S)) Y r):=hid (HY10.out.chg hc HNE.out.1)
      have HB11:Hid (Below W.heap.size W ((((((((w10.setCell ⟨X,0,none⟩ (.int .u32 t.c.id)).setCell ⟨X,1,none⟩ (.int .u32 t.c.sg)).setCell ⟨X,2,none⟩ (.int .u8 t.c.st)).setCell ⟨X,3,none⟩ (.bool t.c.cp)).setCell ⟨X,4,none⟩ (.bool false)).setCell ⟨X,5,none⟩ (.slice r2 n2 d2)).setCell ⟨X,6,none⟩ (.int .i64 t.c.fs)).setCell ⟨X,7,none⟩ (.int .i64 S))):=hid (hc.below HB10.out HB10.out.size fun k hk=>by rw [hk];exact HNE.out.2)
      have HTV:Hid (TvM ((((((((w10.setCell ⟨X,0,none⟩ (.int .u32 t.c.id)).setCell ⟨X,1,none⟩ (.int .u32 t.c.sg)).setCell ⟨X,2,none⟩ (.int .u8 t.c.st)).setCell ⟨X,3,none⟩ (.bool t.c.cp)).setCell ⟨X,4,none⟩ (.bool false)).setCell ⟨X,5,none⟩ (.slice r2 n2 d2)).setCell ⟨X,6,none⟩ (.int .i64 t.c.fs)).setCell ⟨X,7,none⟩ (.int .i64 S)) ⟨⟨t.c.id,t.c.sg,t.c.st,t.c.cp,false,t.c.dn ++ [((r.ka,r.kb,r.kc),r.d)],t.c.fs,S⟩,r2,n2,d2⟩):=hid (z3d (t:=⟨⟨t.c.id,t.c.sg,t.c.st,t.c.cp,false,t.c.dn ++ [((r.ka,r.kb,r.kc),r.d)],t.c.fs,S⟩,r2,n2,d2⟩) (W:=W) HO10.out (fun a ha=>(HR10.out a ha).2) hc)
      clear hc
      go_upto_region 28 with (fail)
      clear b0 b1 b2 b3 b4 b5 b6 b7
      clear f0 f1 f2 f3 f4 f5 f6 f7 HX10 HY10 HB10
      generalize ((((((((w10.setCell ⟨X,0,none⟩ (.int .u32 t.c.id)).setCell ⟨X,1,none⟩ (.int .u32 t.c.sg)).setCell ⟨X,2,none⟩ (.int .u8 t.c.st)).setCell ⟨X,3,none⟩ (.bool t.c.cp)).setCell ⟨X,4,none⟩ (.bool false)).setCell ⟨X,5,none⟩ (.slice r2 n2 d2)).setCell ⟨X,6,none⟩ (.int .i64 t.c.fs)).setCell ⟨X,7,none⟩ (.int .i64 S))=w11 at *
      obtain⟨a0,a1,a2,a3,a4,a5,a6,a7,a8,a9⟩:=HY11.out.at
      go_wp2_with fail
      clear a0 a1 a2 a3 a4 a5 a6 a7 a8 a9
      go_ret2
      have he:=HAE.out
      cases he
      exact z0y HL.out HB11.out rfl
    · have HAE:=hid (HAP.out.trans (if_neg (by rw [HTW.out.len,hdd];rintro (h | h);cases h;exact h6 h)))
      rw [hdd] at HX9 HAE
      have HDD:=hid hdd
      have g6:decide ((6:Int)≤(t.n:Int))=false:=decide_eq_false (by omega)
      have g7:¬ (6:Int)≤(t.n:Int):=by omega
      have HH6:=hid h6
      clear hdd HAP h6
      have HCL:=hid (z4a ⟨⟨t.c.id,t.c.sg,t.c.st,t.c.cp,false,t.c.dn,t.c.fs,S⟩,t.p,t.n,t.m⟩ ((r.ka,r.kb,r.kc),r.d) w9 (HTW.out.later HB9.out) (Nat.le_trans HTN.out (by omega)))
      obtain⟨a0,a1,a2,a3,a4,a5,a6,a7,a8,a9⟩:=HY9.out.at
      obtain⟨b0,b1,b2,b3,b4,b5,b6,b7⟩:=z0g HX9.out
      go_wp2_with fail
      clear a0 a1 a2 a3 a4 a5 a6 a7 a8 a9
      clear b0 b1 b2 b3 b4 b5 b6 b7
      refine HCL.out.mono ?_
      rintro e10 w10 ⟨r2,n2,d2,rfl,ho10,hb10,hr10⟩
      have HO10:=hid ho10
      have HR10:Hid (∀ a,r2=some a→W.heap.size≤a.block∧a.block≠X):=hid fun a ha=>⟨Nat.le_trans HB9.out.size (hr10 a ha),by have h2:=hr10 a ha;have h3:=z0k HX9.out;omega⟩
      have HX10:=hid (z0b HX9.out hb10)
      have HY10:=hid (HY9.out.later hb10)
      have HB10:=hid (HB9.out.trans (hb10.mono HB9.out.size))
      clear ho10 hb10 hr10 HX9 HY9 HB9 HCL
      obtain⟨b0,b1,b2,b3,b4,b5,b6,b7⟩:=z0g HX10.out
      obtain⟨f0,f1,f2,f3,f4,f5,f6,f7⟩:=z1y HX10.out
      have HX11:=hid (z1d (a':=.int .u32 t.c.id) (b':=.int .u32 t.c.sg) (c':=.int .u8 t.c.st) (d':=.bool t.c.cp) (e':=.bool false) (f':=.slice r2 n2 d2) (g':=.int .i64 t.c.fs) (h':=.int .i64 S) HX10.out)
      have hc:Chg (fun k=>k=X) w10 ((((((((w10.setCell ⟨X,0,none⟩ (.int .u32 t.c.id)).setCell ⟨X,1,none⟩ (.int .u32 t.c.sg)).setCell ⟨X,2,none⟩ (.int .u8 t.c.st)).setCell ⟨X,3,none⟩ (.bool t.c.cp)).setCell ⟨X,4,none⟩ (.bool false)).setCell ⟨X,5,none⟩ (.slice r2 n2 d2)).setCell ⟨X,6,none⟩ (.int .i64 t.c.fs)).setCell ⟨X,7,none⟩ (.int .i64 S)):=(((((((((Chg.refl (fun k=>k=X) w10).setCell ⟨X,0,none⟩ _ fun _=>rfl).setCell ⟨X,1,none⟩ _ fun _=>rfl).setCell ⟨X,2,none⟩ _ fun _=>rfl).setCell ⟨X,3,none⟩ _ fun _=>rfl).setCell ⟨X,4,none⟩ _ fun _=>rfl).setCell ⟨X,5,none⟩ _ fun _=>rfl).setCell ⟨X,6,none⟩ _ fun _=>rfl).setCell ⟨X,7,none⟩ _ fun _=>rfl)
      have HY11:Hid (RB ((((((((w10.setCell ⟨X,0,none⟩ (.int .u32 t.c.id)).setCell ⟨X,1,none⟩ (.int .u32 t.c.sg)).setCell ⟨X,2,none⟩ (.int .u8 t.c.st)).setCell ⟨X,3,none⟩ (.bool t.c.cp)).setCell ⟨X,4,none⟩ (.bool false)).setCell ⟨X,5,none⟩ (.slice r2 n2 d2)).setCell ⟨X,6,none⟩ (.int .i64 t.c.fs)).setCell ⟨X,7,none⟩ (.int .i64 S)) Y r):=hid (HY10.out.chg hc HNE.out.1)
      have HB11:Hid (Below W.heap.size W ((((((((w10.setCell ⟨X,0,none⟩ (.int .u32 t.c.id)).setCell ⟨X,1,none⟩ (.int .u32 t.c.sg)).setCell ⟨X,2,none⟩ (.int .u8 t.c.st)).setCell ⟨X,3,none⟩ (.bool t.c.cp)).setCell ⟨X,4,none⟩ (.bool false)).setCell ⟨X,5,none⟩ (.slice r2 n2 d2)).setCell ⟨X,6,none⟩ (.int .i64 t.c.fs)).setCell ⟨X,7,none⟩ (.int .i64 S))):=hid (hc.below HB10.out HB10.out.size fun k hk=>by rw [hk];exact HNE.out.2)
      have HTV:Hid (TvM ((((((((w10.setCell ⟨X,0,none⟩ (.int .u32 t.c.id)).setCell ⟨X,1,none⟩ (.int .u32 t.c.sg)).setCell ⟨X,2,none⟩ (.int .u8 t.c.st)).setCell ⟨X,3,none⟩ (.bool t.c.cp)).setCell ⟨X,4,none⟩ (.bool false)).setCell ⟨X,5,none⟩ (.slice r2 n2 d2)).setCell ⟨X,6,none⟩ (.int .i64 t.c.fs)).setCell ⟨X,7,none⟩ (.int .i64 S)) ⟨⟨t.c.id,t.c.sg,t.c.st,t.c.cp,false,t.c.dn ++ [((r.ka,r.kb,r.kc),r.d)],t.c.fs,S⟩,r2,n2,d2⟩):=hid (z3d (t:=⟨⟨t.c.id,t.c.sg,t.c.st,t.c.cp,false,t.c.dn ++ [((r.ka,r.kb,r.kc),r.d)],t.c.fs,S⟩,r2,n2,d2⟩) (W:=W) HO10.out (fun a ha=>(HR10.out a ha).2) hc)
      clear hc
      go_upto_region 28 with (fail)
      clear b0 b1 b2 b3 b4 b5 b6 b7
      clear f0 f1 f2 f3 f4 f5 f6 f7 HX10 HY10 HB10
      generalize ((((((((w10.setCell ⟨X,0,none⟩ (.int .u32 t.c.id)).setCell ⟨X,1,none⟩ (.int .u32 t.c.sg)).setCell ⟨X,2,none⟩ (.int .u8 t.c.st)).setCell ⟨X,3,none⟩ (.bool t.c.cp)).setCell ⟨X,4,none⟩ (.bool false)).setCell ⟨X,5,none⟩ (.slice r2 n2 d2)).setCell ⟨X,6,none⟩ (.int .i64 t.c.fs)).setCell ⟨X,7,none⟩ (.int .i64 S))=w11 at *
      obtain⟨a0,a1,a2,a3,a4,a5,a6,a7,a8,a9⟩:=HY11.out.at
      obtain⟨b0,b1,b2,b3,b4,b5,b6,b7⟩:=z0g HX11.out
      have HWT:=hid (z3r p n c L ⟨⟨t.c.id,t.c.sg,t.c.st,t.c.cp,false,t.c.dn ++ [((r.ka,r.kb,r.kc),r.d)],t.c.fs,S⟩,r2,n2,d2⟩ w11 (HL.out.row.later HB11.out) (by have:=HNN.out;omega))
      go_wp2_with fail
      clear a0 a1 a2 a3 a4 a5 a6 a7 a8 a9 b0 b1 b2 b3 b4 b5 b6 b7
      refine HWT.out.mono ?_
      rintro e12 w12 hg12
      have he:=HAE.out
      cases he
      obtain⟨v,hv⟩:∃ v,e12=.returned v:=by obtain⟨r1,d1,h1,_⟩:=hg12;exact⟨_,h1⟩
      subst hv
      obtain⟨r1,m1,d1,rfl,hga⟩:=z3n HL.out ⟨⟨t.c.id,t.c.sg,t.c.st,t.c.cp,false,t.c.dn ++ [((r.ka,r.kb,r.kc),r.d)],t.c.fs,S⟩,r2,n2,d2⟩ HTV.out (.inr fun a ha=>(HR10.out a ha).1) HB11.out hg12 rfl
      have HGA:=hid hga
      clear hga hg12 HWT
      go_wp2_with fail
      go_ret2
      exact HGA.out
theorem rapply_4 (p:Option Addr) (n c:Nat) (L:List Tv) (at_:Int) (r:Rv) (La:List Ln) (Ta:List Tk) (Ma:List Ln) (W:World) (hL:TL W p n c L) (hn:n≤1000) (hsm:∀ t∈L,Tcok t.c∧t.n≤1000∧0≤t.c.sz∧t.c.sz≤1099511627776) (hP:RvM W r La Ta Ma) (hok:Rxok (r.x La Ta Ma)) (h1:r.ln≤20∧r.tn≤30∧r.wn≤20) (hg:z0v (r.x La Ta Ma)=true) (hk:r.k=4) (t:Tv) (ht:getT Tv.id L r.tx=some t) :
 Calls Tryz.prog 10 #[.slice p n c,.int .i64 at_,.agg (rcs r)] W (z4k W p L (appC (L.map (·.c)) at_ (r.x La Ta Ma)).1 (appC (L.map (·.c)) at_ (r.x La Ta Ma)).2):=by
 have hwz:=z3o hg
 have HL:=hid hL
 have HNN:=hid hn
 obtain⟨W1,hW1,hb1⟩:∃ W1,W.alloc (.cells (rcs r) 40)=W1∧Below W.heap.size W W1:=⟨_,rfl,(Below.refl _ _).alloc (Nat.le_refl _) _⟩
 obtain⟨Y,hY⟩:∃ Y,W.heap.size=Y:=⟨_,rfl⟩
 have hrb:=RB.new W r
 rw [hW1,hY] at hrb
 have HY1:=hid hrb
 have HW1:=hid hW1
 have HB1:=hid hb1
 have HYE:=hid hY
 have HGD:=hid (z2k r La Ta Ma W1 (hP.later hb1) hok ⟨by omega,by omega,by omega⟩)
 have HSZ:=hid fun w (hb:Below W.heap.size W w)=>z4m r La Ta Ma w (hP.later hb) hok h1
 have HGT:=hid fun w (hb:Below W.heap.size W w)=>z2t p n c L r.tx w (hL.row.later hb) (by omega)
 rw [ht] at HGT
 rw [hg] at HGD
 obtain⟨htm,_⟩:=z2y ht
 obtain⟨htc,htn,hts⟩:=hsm t htm
 have htw:=hL.each t htm
 obtain⟨S,hS⟩:∃ S,t.c.sz+z1h (r.x La Ta Ma)=S:=⟨_,rfl⟩
 have HSW:Hid (IntKind.i64.wrap (t.c.sz+z1h (r.x La Ta Ma))=S):=hid (by
  rw [← hS]
  unfold IntKind.wrap;simp [IntKind.signed,IntKind.bits];omega)
 have HLC:=hid fun w (hb:Below W.heap.size W w)=>z4o ⟨⟨t.c.id,t.c.sg,t.c.st,t.c.cp,t.c.dd,t.c.dn,t.c.fs,S⟩,t.p,t.n,t.m⟩ w (htw.later hb) htc.dn (by simp only;omega)
 have e0:z1v ⟨t.c.id,t.c.sg,t.c.st,t.c.cp,t.c.dd,t.c.dn,t.c.fs,S⟩=z1v t.c:=rfl
 simp only [e0] at HLC
 have HTW:=hid htw
 have HTM:=hid htm
 have HTN:=hid htn
 have hap:=appC_4 (at_:=at_) (L.map (·.c)) (r.x La Ta Ma) hg hk (z3s ht)
 obtain⟨M',z',hmz⟩:∃ M' z',appC (L.map (·.c)) at_ (r.x La Ta Ma)=(M',z'):=⟨_,_,rfl⟩
 rw [hmz] at hap ⊢
 try rw [hS] at hap
 have HAP:=hid hap
 have e2:(r.k==2)=false:=by rw [hk];rfl
 have e3:(r.k==3)=false:=by rw [hk];rfl
 have e4:(r.k==4)=true:=by rw [hk];rfl
 have e5:(r.k==5)=false:=by rw [hk];rfl
 have e6:(r.k==6)=false:=by rw [hk];rfl
 have e7:(r.k==7)=false:=by rw [hk];rfl
 have l2:decide (r.k<2)=false:=by rw [hk];rfl
 have l7:decide (7<r.k)=false:=by rw [hk];rfl
 have m2:¬ r.k<2:=by omega
 have m7:¬ 7<r.k:=by omega
 have HHK:=hid hk
 have HWZ:=hid hwz
 generalize z1v t.c=lz at *
 obtain⟨⟨lk,ld⟩,lb⟩:=lz
 dsimp only at HLC HAP ⊢
 generalize z1h (r.x La Ta Ma)=sx at *
 generalize z0v (r.x La Ta Ma)=gx at *
 clear hwz hL hn hsm hP hok h1 hg hk ht htm htc htn hts htw hS e0 hap hmz hW1 hY hb1 hrb
 go_enter Tryz.func10,Tryz.ntmps10
 go_upto_region 1 with (fail)
 rw [HW1.out,HYE.out]
 go_wp2_with ((with_reducible refine z0n HY1.out ?_ ?_);rfl)
 refine HGD.out.mono ?_
 rintro e2 w2 ⟨rfl,hb2⟩
 have HB2:=hid (HB1.out.trans (hb2.mono HB1.out.size))
 have HY2:=hid (HY1.out.later hb2)
 clear hb2 HB1 HY1 HGD HW1
 obtain⟨a0,a1,a2,a3,a4,a5,a6,a7,a8,a9⟩:=HY2.out.at
 go_wp2_with fail
 clear a0 a1 a2 a3 a4 a5 a6 a7 a8 a9
 refine (HGT.out _ HB2.out).mono ?_
 rintro e3 w3 ⟨rfl,hb3⟩
 simp only [Option.getD_some,Option.isSome_some]
 have hbn:Below w3.heap.size w3 (w3.alloc (.cells #[.int .u32 t.c.id,.int .u32 t.c.sg,.int .u8 t.c.st,.bool t.c.cp,.bool t.c.dd,.slice t.p t.n t.m,.int .i64 t.c.fs,.int .i64 t.c.sz] 58)):=(Below.refl _ _).alloc (Nat.le_refl _) _
 have HX4:=hid (z0c w3 (.cells #[.int .u32 t.c.id,.int .u32 t.c.sg,.int .u8 t.c.st,.bool t.c.cp,.bool t.c.dd,.slice t.p t.n t.m,.int .i64 t.c.fs,.int .i64 t.c.sz] 58))
 have HB4:=hid (HB2.out.trans ((hb3.trans (hbn.mono hb3.size)).mono HB2.out.size))
 have HY4:=hid ((HY2.out.later hb3).later hbn)
 have HNE:Hid (Y≠w3.heap.size∧W.heap.size≤w3.heap.size):=hid ⟨by have:=(HY2.out.later hb3).lt;omega,Nat.le_trans HB2.out.size hb3.size⟩
 clear hb3 hbn HB2 HY2 HGT
 go_upto_region 4 with (fail)
 generalize w3.alloc (.cells #[.int .u32 t.c.id,.int .u32 t.c.sg,.int .u8 t.c.st,.bool t.c.cp,.bool t.c.dd,.slice t.p t.n t.m,.int .i64 t.c.fs,.int .i64 t.c.sz] 58)=w4 at *
 generalize w3.heap.size=X at *
 obtain⟨a0,a1,a2,a3,a4,a5,a6,a7,a8,a9⟩:=HY4.out.at
 go_wp2_with fail
 clear a0 a1 a2 a3 a4 a5 a6 a7 a8 a9
 have HYD:Hid (RB w4.drew Y r):=hid HY4.out
 have HXD:Hid (w4.drew.heap[X]?=some (.cells #[.int .u32 t.c.id,.int .u32 t.c.sg,.int .u8 t.c.st,.bool t.c.cp,.bool t.c.dd,.slice t.p t.n t.m,.int .i64 t.c.fs,.int .i64 t.c.sz] 58 (0,0))):=hid HX4.out
 have HBD0:=hid (z0h HB4.out 1)
 have HBD:Hid (Below W.heap.size W w4.drew):=hid HBD0.out
 clear HBD0 HY4 HX4 HB4
 refine wp_region_held_drew (S:=fun w'=>Hid (RB w' Y r)) (by kernel_rfl) HYD (fun hHeld=>?_)
 generalize w4.drew=w5 at *
 refine wpAnyH_take (i:=0) (oi:=⟨some 68,_,_,_,_,_⟩) (v:=.pointer (some ⟨X,7,none⟩)) rfl (by kernel_rfl) (by kernel_rfl) (by kernel_rfl) (fun _ _ _ h=>h) (Or.inl ⟨by rfl,fun w' hw'=>?_⟩) (by assumption) ?_
 · clear hHeld
   go_simp
 simp only [Act.put,sIB,sCZ,sCS]
 refine wpAnyH_take (i:=2) (oi:=⟨some 70,_,_,_,_,_⟩) (v:=.agg (rcs r)) rfl (by kernel_rfl) (by kernel_rfl) (by kernel_rfl) (fun _ _ _ h=>h) (Or.inl ⟨by rfl,fun w' hw'=>z1t rfl (Hid.out hw')⟩) (by assumption) ?_
 simp only [Act.put,sIB,sCZ,sCS]
 refine wpAnyH_ready (rs:=[1,3]) (by kernel_rfl) (by simp) (AllReadyH.cons rfl (fun K hK=>?_) (AllReadyH.cons rfl (fun K hK=>?_) (AllReadyH.nil)))
 · have c7:=z0a (j:=7) HXD.out rfl
   go_simp
   go_wp2_with fail
   have hSN:=hHeld
   refine hK.out _ _ hSN (fun hHeld2=>?_)
   try simp only [Act.put,sIB,sCZ,sCS]
   clear hSN hK K hHeld
   have hHeld:=hHeld2
   clear hHeld2
   clear c7
   refine wpAnyH_ready (rs:=[3]) (by kernel_rfl) (by simp) (AllReadyH.cons rfl (fun K hK=>?_) (AllReadyH.nil))
   go_simp
   go_wp2_with fail
   refine (HSZ.out _ HBD.out).mono ?_
   rintro e6 w6 ⟨rfl,hb6⟩
   have hSN:Hid (RB w6 Y r):=hid (hHeld.out.later hb6)
   have HX6:=hid (z0b HXD.out hb6)
   have HB6:=hid (HBD.out.trans (hb6.mono HBD.out.size))
   clear hb6 HXD HBD HSZ
   go_wp2_with fail
   refine hK.out _ _ hSN (fun hHeld2=>?_)
   try simp only [Act.put,sIB,sCZ,sCS]
   clear hSN hK K hHeld
   have hHeld:=hHeld2
   clear hHeld2
   have hw5:=HSW.out
   refine wpAnyH_take (i:=4) (oi:=⟨some 72,_,_,_,_,_⟩) (v:=.int .i64 S) rfl (by kernel_rfl) (by kernel_rfl) (by kernel_rfl) (fun _ _ _ h=>h) (Or.inl ⟨by rfl,fun w' hw'=>?_⟩) (by assumption) ?_
   · clear hHeld
     go_simp
   simp only [Act.put,sIB,sCZ,sCS]
   refine wpAnyH_take (i:=5) (oi:=⟨some 73,_,_,_,_,_⟩) (v:=.pointer (some ⟨X,7,none⟩)) rfl (by kernel_rfl) (by kernel_rfl) (by kernel_rfl) (fun _ _ _ h=>h) (Or.inl ⟨by rfl,fun w' hw'=>?_⟩) (by assumption) ?_
   · clear hHeld
     go_simp
   simp only [Act.put,sIB,sCZ,sCS]
   refine wpAnyH_ready (rs:=[6]) (by kernel_rfl) (by simp) (AllReadyH.cons rfl (fun K hK=>?_) (AllReadyH.nil))
   have q7:=z0a (j:=7) HX6.out rfl
   have f7:=z0m 7 HX6.out
   have HX7:Hid ((w6.setCell ⟨X,7,none⟩ (.int .i64 S)).heap[X]?=some (.cells #[.int .u32 t.c.id,.int .u32 t.c.sg,.int .u8 t.c.st,.bool t.c.cp,.bool t.c.dd,.slice t.p t.n t.m,.int .i64 t.c.fs,.int .i64 S] 58 (0,0))):=hid (z0p 7 _ HX6.out)
   have hSN:Hid (RB (w6.setCell ⟨X,7,none⟩ (.int .i64 S)) Y r):=hid (z4j hHeld.out HNE.out.1 7 _)
   have HY7:=hSN
   have HB7:Hid (Below W.heap.size W (w6.setCell ⟨X,7,none⟩ (.int .i64 S))):=hid (HB6.out.setCell HNE.out.2 _)
   clear HX6 HB6
   go_simp
   go_wp2_with fail
   refine hK.out _ _ hSN (fun hHeld2=>?_)
   try simp only [Act.put,sIB,sCZ,sCS]
   clear hSN hK K hHeld hHeld2 q7 f7 hw5
   refine wpAnyH_done (by kernel_rfl) ?_ _
   generalize w6.setCell ⟨X,7,none⟩ (.int .i64 S)=w7 at *
   obtain⟨b0,b1,b2,b3,b4,b5,b6,b7⟩:=z0g HX7.out
   go_wp2_with fail
   clear b0 b1 b2 b3 b4 b5 b6 b7
   refine (HLC.out _ HB7.out).mono ?_
   rintro e8 w8 ⟨rfl,hb8⟩
   have hbn:Below w8.heap.size w8 (w8.alloc (.cells #[.int .u8 lk.1,.int .u8 lk.2.1,.int .u8 lk.2.2,.int .i64 ld] 71)):=(Below.refl _ _).alloc (Nat.le_refl _) _
   have HZ9:=hid (z0c w8 (.cells #[.int .u8 lk.1,.int .u8 lk.2.1,.int .u8 lk.2.2,.int .i64 ld] 71))
   have HX9:=hid (z0b (z0b HX7.out hb8) hbn)
   have HY9:=hid ((HY7.out.later hb8).later hbn)
   have HB9:=hid (HB7.out.trans ((hb8.trans (hbn.mono hb8.size)).mono HB7.out.size))
   clear hb8 hbn HX7 HY7 HB7 HLC
   go_upto_region 13 with (fail)
   generalize w8.alloc (.cells #[.int .u8 lk.1,.int .u8 lk.2.1,.int .u8 lk.2.2,.int .i64 ld] 71)=w9 at *
   generalize w8.heap.size=Z at *
   cases hdd:t.c.dd with
   | false =>
    have HAE:=hid (HAP.out.trans (if_neg (by simp [hdd])))
    rw [hdd] at HX9
    clear hdd HAP
    obtain⟨a0,a1,a2,a3,a4,a5,a6,a7,a8,a9⟩:=HY9.out.at
    obtain⟨b0,b1,b2,b3,b4,b5,b6,b7⟩:=z0g HX9.out
    go_wp2_with fail
    clear a0 a1 a2 a3 a4 a5 a6 a7 a8 a9 b0 b1 b2 b3 b4 b5 b6 b7
    refine (z3q p n c L r.tx w9 (HL.out.row.later HB9.out) (by have:=HNN.out;omega)).mono ?_
    rintro e10 w10 hg10
    have he:=HAE.out
    cases he
    obtain⟨v,hv⟩:∃ v,e10=.returned v:=by obtain⟨r1,d1,h1,_⟩:=hg10;exact⟨_,h1⟩
    subst hv
    obtain⟨r1,m1,d1,rfl,hga⟩:=z3y HL.out HB9.out hg10 rfl
    have HGA:=hid hga
    clear hga hg10
    go_wp2_with fail
    go_ret2
    exact HGA.out
   | true =>
    have HAE:=hid (HAP.out.trans (if_pos hdd))
    rw [hdd] at HX9
    clear hdd HAP
    obtain⟨a0,a1,a2,a3,a4,a5,a6,a7,a8,a9⟩:=HY9.out.at
    obtain⟨b0,b1,b2,b3,b4,b5,b6,b7⟩:=z0g HX9.out
    go_wp2_with fail
    go_ret2
    have he:=HAE.out
    cases he
    exact z0y HL.out HB9.out rfl
 · go_simp
   go_wp2_with fail
   refine (HSZ.out _ HBD.out).mono ?_
   rintro e6 w6 ⟨rfl,hb6⟩
   have hSN:Hid (RB w6 Y r):=hid (hHeld.out.later hb6)
   have HX6:=hid (z0b HXD.out hb6)
   have HB6:=hid (HBD.out.trans (hb6.mono HBD.out.size))
   clear hb6 HXD HBD HSZ
   go_wp2_with fail
   refine hK.out _ _ hSN (fun hHeld2=>?_)
   try simp only [Act.put,sIB,sCZ,sCS]
   clear hSN hK K hHeld
   have hHeld:=hHeld2
   clear hHeld2
   refine wpAnyH_ready (rs:=[1]) (by kernel_rfl) (by simp) (AllReadyH.cons rfl (fun K hK=>?_) (AllReadyH.nil))
   have c7:=z0a (j:=7) HX6.out rfl
   go_simp
   go_wp2_with fail
   have hSN:=hHeld
   refine hK.out _ _ hSN (fun hHeld2=>?_)
   try simp only [Act.put,sIB,sCZ,sCS]
   clear hSN hK K hHeld
   have hHeld:=hHeld2
   clear hHeld2
   clear c7
   have hw5:=HSW.out
   refine wpAnyH_take (i:=4) (oi:=⟨some 72,_,_,_,_,_⟩) (v:=.int .i64 S) rfl (by kernel_rfl) (by kernel_rfl) (by kernel_rfl) (fun _ _ _ h=>h) (Or.inl ⟨by rfl,fun w' hw'=>?_⟩) (by assumption) ?_
   · clear hHeld
     go_simp
   simp only [Act.put,sIB,sCZ,sCS]
   refine wpAnyH_take (i:=5) (oi:=⟨some 73,_,_,_,_,_⟩) (v:=.pointer (some ⟨X,7,none⟩)) rfl (by kernel_rfl) (by kernel_rfl) (by kernel_rfl) (fun _ _ _ h=>h) (Or.inl ⟨by rfl,fun w' hw'=>?_⟩) (by assumption) ?_
   · clear hHeld
     go_simp
   simp only [Act.put,sIB,sCZ,sCS]
   refine wpAnyH_ready (rs:=[6]) (by kernel_rfl) (by simp) (AllReadyH.cons rfl (fun K hK=>?_) (AllReadyH.nil))
   have q7:=z0a (j:=7) HX6.out rfl
   have f7:=z0m 7 HX6.out
   have HX7:Hid ((w6.setCell ⟨X,7,none⟩ (.int .i64 S)).heap[X]?=some (.cells #[.int .u32 t.c.id,.int .u32 t.c.sg,.int .u8 t.c.st,.bool t.c.cp,.bool t.c.dd,.slice t.p t.n t.m,.int .i64 t.c.fs,.int .i64 S] 58 (0,0))):=hid (z0p 7 _ HX6.out)
   have hSN:Hid (RB (w6.setCell ⟨X,7,none⟩ (.int .i64 S)) Y r):=hid (z4j hHeld.out HNE.out.1 7 _)
   have HY7:=hSN
   have HB7:Hid (Below W.heap.size W (w6.setCell ⟨X,7,none⟩ (.int .i64 S))):=hid (HB6.out.setCell HNE.out.2 _)
   clear HX6 HB6
   go_simp
   go_wp2_with fail
   refine hK.out _ _ hSN (fun hHeld2=>?_)
   try simp only [Act.put,sIB,sCZ,sCS]
   clear hSN hK K hHeld hHeld2 q7 f7 hw5
   refine wpAnyH_done (by kernel_rfl) ?_ _
   generalize w6.setCell ⟨X,7,none⟩ (.int .i64 S)=w7 at *
   obtain⟨b0,b1,b2,b3,b4,b5,b6,b7⟩:=z0g HX7.out
   go_wp2_with fail
   clear b0 b1 b2 b3 b4 b5 b6 b7
   refine (HLC.out _ HB7.out).mono ?_
   rintro e8 w8 ⟨rfl,hb8⟩
   have hbn:Below w8.heap.size w8 (w8.alloc (.cells #[.int .u8 lk.1,.int .u8 lk.2.1,.int .u8 lk.2.2,.int .i64 ld] 71)):=(Below.refl _ _).alloc (Nat.le_refl _) _
   have HZ9:=hid (z0c w8 (.cells #[.int .u8 lk.1,.int .u8 lk.2.1,.int .u8 lk.2.2,.int .i64 ld] 71))
   have HX9:=hid (z0b (z0b HX7.out hb8) hbn)
   have HY9:=hid ((HY7.out.later hb8).later hbn)
   have HB9:=hid (HB7.out.trans ((hb8.trans (hbn.mono hb8.size)).mono HB7.out.size))
   clear hb8 hbn HX7 HY7 HB7 HLC
   go_upto_region 13 with (fail)
   generalize w8.alloc (.cells #[.int .u8 lk.1,.int .u8 lk.2.1,.int .u8 lk.2.2,.int .i64 ld] 71)=w9 at *
   generalize w8.heap.size=Z at *
   cases hdd:t.c.dd with
   | false =>
    have HAE:=hid (HAP.out.trans (if_neg (by simp [hdd])))
    rw [hdd] at HX9
    clear hdd HAP
    obtain⟨a0,a1,a2,a3,a4,a5,a6,a7,a8,a9⟩:=HY9.out.at
    obtain⟨b0,b1,b2,b3,b4,b5,b6,b7⟩:=z0g HX9.out
    go_wp2_with fail
    clear a0 a1 a2 a3 a4 a5 a6 a7 a8 a9 b0 b1 b2 b3 b4 b5 b6 b7
    refine (z3q p n c L r.tx w9 (HL.out.row.later HB9.out) (by have:=HNN.out;omega)).mono ?_
    rintro e10 w10 hg10
    have he:=HAE.out
    cases he
    obtain⟨v,hv⟩:∃ v,e10=.returned v:=by obtain⟨r1,d1,h1,_⟩:=hg10;exact⟨_,h1⟩
    subst hv
    obtain⟨r1,m1,d1,rfl,hga⟩:=z3y HL.out HB9.out hg10 rfl
    have HGA:=hid hga
    clear hga hg10
    go_wp2_with fail
    go_ret2
    exact HGA.out
   | true =>
    have HAE:=hid (HAP.out.trans (if_pos hdd))
    rw [hdd] at HX9
    clear hdd HAP
    obtain⟨a0,a1,a2,a3,a4,a5,a6,a7,a8,a9⟩:=HY9.out.at
    obtain⟨b0,b1,b2,b3,b4,b5,b6,b7⟩:=z0g HX9.out
    go_wp2_with fail
    go_ret2
    have he:=HAE.out
    cases he
    exact z0y HL.out HB9.out rfl
theorem rapply_5 (p:Option Addr) (n c:Nat) (L:List Tv) (at_:Int) (r:Rv) (La:List Ln) (Ta:List Tk) (Ma:List Ln) (W:World) (hL:TL W p n c L) (hn:n≤1000) (hsm:∀ t∈L,Tcok t.c∧t.n≤1000∧0≤t.c.sz∧t.c.sz≤1099511627776) (hP:RvM W r La Ta Ma) (hok:Rxok (r.x La Ta Ma)) (h1:r.ln≤20∧r.tn≤30∧r.wn≤20) (hg:z0v (r.x La Ta Ma)=true) (hk:r.k=5) (t:Tv) (ht:getT Tv.id L r.tx=some t) :
 Calls Tryz.prog 10 #[.slice p n c,.int .i64 at_,.agg (rcs r)] W (z4k W p L (appC (L.map (·.c)) at_ (r.x La Ta Ma)).1 (appC (L.map (·.c)) at_ (r.x La Ta Ma)).2):=by
 have hwz:=z3o hg
 have HL:=hid hL
 have HNN:=hid hn
 obtain⟨W1,hW1,hb1⟩:∃ W1,W.alloc (.cells (rcs r) 40)=W1∧Below W.heap.size W W1:=⟨_,rfl,(Below.refl _ _).alloc (Nat.le_refl _) _⟩
 obtain⟨Y,hY⟩:∃ Y,W.heap.size=Y:=⟨_,rfl⟩
 have hrb:=RB.new W r
 rw [hW1,hY] at hrb
 have HY1:=hid hrb
 have HW1:=hid hW1
 have HB1:=hid hb1
 have HYE:=hid hY
 have HGD:=hid (z2k r La Ta Ma W1 (hP.later hb1) hok ⟨by omega,by omega,by omega⟩)
 have HSZ:=hid fun w (hb:Below W.heap.size W w)=>z4m r La Ta Ma w (hP.later hb) hok h1
 have HGT:=hid fun w (hb:Below W.heap.size W w)=>z2t p n c L r.tx w (hL.row.later hb) (by omega)
 rw [ht] at HGT
 rw [hg] at HGD
 obtain⟨htm,_⟩:=z2y ht
 obtain⟨htc,htn,hts⟩:=hsm t htm
 have htw:=hL.each t htm
 obtain⟨S,hS⟩:∃ S,t.c.sz+z1h (r.x La Ta Ma)=S:=⟨_,rfl⟩
 have HSW:Hid (IntKind.i64.wrap (t.c.sz+z1h (r.x La Ta Ma))=S):=hid (by
  rw [← hS]
  unfold IntKind.wrap;simp [IntKind.signed,IntKind.bits];omega)
 have HLC:=hid fun w (hb:Below W.heap.size W w)=>z4o ⟨⟨t.c.id,t.c.sg,t.c.st,t.c.cp,t.c.dd,t.c.dn,t.c.fs,S⟩,t.p,t.n,t.m⟩ w (htw.later hb) htc.dn (by simp only;omega)
 have e0:z1v ⟨t.c.id,t.c.sg,t.c.st,t.c.cp,t.c.dd,t.c.dn,t.c.fs,S⟩=z1v t.c:=rfl
 simp only [e0] at HLC
 have HTW:=hid htw
 have HTM:=hid htm
 have HTN:=hid htn
 have hap:=appC_5 (at_:=at_) (L.map (·.c)) (r.x La Ta Ma) hg hk (z3s ht)
 obtain⟨M',z',hmz⟩:∃ M' z',appC (L.map (·.c)) at_ (r.x La Ta Ma)=(M',z'):=⟨_,_,rfl⟩
 rw [hmz] at hap ⊢
 try rw [hS] at hap
 have HAP:=hid hap
 have e2:(r.k==2)=false:=by rw [hk];rfl
 have e3:(r.k==3)=false:=by rw [hk];rfl
 have e4:(r.k==4)=false:=by rw [hk];rfl
 have e5:(r.k==5)=true:=by rw [hk];rfl
 have e6:(r.k==6)=false:=by rw [hk];rfl
 have e7:(r.k==7)=false:=by rw [hk];rfl
 have l2:decide (r.k<2)=false:=by rw [hk];rfl
 have l7:decide (7<r.k)=false:=by rw [hk];rfl
 have m2:¬ r.k<2:=by omega
 have m7:¬ 7<r.k:=by omega
 have HHK:=hid hk
 have HWZ:=hid hwz
 generalize z1v t.c=lz at *
 obtain⟨⟨lk,ld⟩,lb⟩:=lz
 dsimp only at HLC HAP ⊢
 generalize z1h (r.x La Ta Ma)=sx at *
 generalize z0v (r.x La Ta Ma)=gx at *
 clear hwz hL hn hsm hP hok h1 hg hk ht htm htc htn hts htw hS e0 hap hmz hW1 hY hb1 hrb
 go_enter Tryz.func10,Tryz.ntmps10
 go_upto_region 1 with (fail)
 rw [HW1.out,HYE.out]
 go_wp2_with ((with_reducible refine z0n HY1.out ?_ ?_);rfl)
 refine HGD.out.mono ?_
 rintro e2 w2 ⟨rfl,hb2⟩
 have HB2:=hid (HB1.out.trans (hb2.mono HB1.out.size))
 have HY2:=hid (HY1.out.later hb2)
 clear hb2 HB1 HY1 HGD HW1
 obtain⟨a0,a1,a2,a3,a4,a5,a6,a7,a8,a9⟩:=HY2.out.at
 go_wp2_with fail
 clear a0 a1 a2 a3 a4 a5 a6 a7 a8 a9
 refine (HGT.out _ HB2.out).mono ?_
 rintro e3 w3 ⟨rfl,hb3⟩
 simp only [Option.getD_some,Option.isSome_some]
 have hbn:Below w3.heap.size w3 (w3.alloc (.cells #[.int .u32 t.c.id,.int .u32 t.c.sg,.int .u8 t.c.st,.bool t.c.cp,.bool t.c.dd,.slice t.p t.n t.m,.int .i64 t.c.fs,.int .i64 t.c.sz] 58)):=(Below.refl _ _).alloc (Nat.le_refl _) _
 have HX4:=hid (z0c w3 (.cells #[.int .u32 t.c.id,.int .u32 t.c.sg,.int .u8 t.c.st,.bool t.c.cp,.bool t.c.dd,.slice t.p t.n t.m,.int .i64 t.c.fs,.int .i64 t.c.sz] 58))
 have HB4:=hid (HB2.out.trans ((hb3.trans (hbn.mono hb3.size)).mono HB2.out.size))
 have HY4:=hid ((HY2.out.later hb3).later hbn)
 have HNE:Hid (Y≠w3.heap.size∧W.heap.size≤w3.heap.size):=hid ⟨by have:=(HY2.out.later hb3).lt;omega,Nat.le_trans HB2.out.size hb3.size⟩
 clear hb3 hbn HB2 HY2 HGT
 go_upto_region 4 with (fail)
 generalize w3.alloc (.cells #[.int .u32 t.c.id,.int .u32 t.c.sg,.int .u8 t.c.st,.bool t.c.cp,.bool t.c.dd,.slice t.p t.n t.m,.int .i64 t.c.fs,.int .i64 t.c.sz] 58)=w4 at *
 generalize w3.heap.size=X at *
 obtain⟨a0,a1,a2,a3,a4,a5,a6,a7,a8,a9⟩:=HY4.out.at
 go_wp2_with fail
 clear a0 a1 a2 a3 a4 a5 a6 a7 a8 a9
 have HYD:Hid (RB w4.drew Y r):=hid HY4.out
 have HXD:Hid (w4.drew.heap[X]?=some (.cells #[.int .u32 t.c.id,.int .u32 t.c.sg,.int .u8 t.c.st,.bool t.c.cp,.bool t.c.dd,.slice t.p t.n t.m,.int .i64 t.c.fs,.int .i64 t.c.sz] 58 (0,0))):=hid HX4.out
 have HBD0:=hid (z0h HB4.out 1)
 have HBD:Hid (Below W.heap.size W w4.drew):=hid HBD0.out
 clear HBD0 HY4 HX4 HB4
 refine wp_region_held_drew (S:=fun w'=>Hid (RB w' Y r)) (by kernel_rfl) HYD (fun hHeld=>?_)
 generalize w4.drew=w5 at *
 refine wpAnyH_take (i:=0) (oi:=⟨some 68,_,_,_,_,_⟩) (v:=.pointer (some ⟨X,7,none⟩)) rfl (by kernel_rfl) (by kernel_rfl) (by kernel_rfl) (fun _ _ _ h=>h) (Or.inl ⟨by rfl,fun w' hw'=>?_⟩) (by assumption) ?_
 · clear hHeld
   go_simp
 simp only [Act.put,sIB,sCZ,sCS]
 refine wpAnyH_take (i:=2) (oi:=⟨some 70,_,_,_,_,_⟩) (v:=.agg (rcs r)) rfl (by kernel_rfl) (by kernel_rfl) (by kernel_rfl) (fun _ _ _ h=>h) (Or.inl ⟨by rfl,fun w' hw'=>z1t rfl (Hid.out hw')⟩) (by assumption) ?_
 simp only [Act.put,sIB,sCZ,sCS]
 refine wpAnyH_ready (rs:=[1,3]) (by kernel_rfl) (by simp) (AllReadyH.cons rfl (fun K hK=>?_) (AllReadyH.cons rfl (fun K hK=>?_) (AllReadyH.nil)))
 · have c7:=z0a (j:=7) HXD.out rfl
   go_simp
   go_wp2_with fail
   have hSN:=hHeld
   refine hK.out _ _ hSN (fun hHeld2=>?_)
   try simp only [Act.put,sIB,sCZ,sCS]
   clear hSN hK K hHeld
   have hHeld:=hHeld2
   clear hHeld2
   clear c7
   refine wpAnyH_ready (rs:=[3]) (by kernel_rfl) (by simp) (AllReadyH.cons rfl (fun K hK=>?_) (AllReadyH.nil))
   go_simp
   go_wp2_with fail
   refine (HSZ.out _ HBD.out).mono ?_
   rintro e6 w6 ⟨rfl,hb6⟩
   have hSN:Hid (RB w6 Y r):=hid (hHeld.out.later hb6)
   have HX6:=hid (z0b HXD.out hb6)
   have HB6:=hid (HBD.out.trans (hb6.mono HBD.out.size))
   clear hb6 HXD HBD HSZ
   go_wp2_with fail
   refine hK.out _ _ hSN (fun hHeld2=>?_)
   try simp only [Act.put,sIB,sCZ,sCS]
   clear hSN hK K hHeld
   have hHeld:=hHeld2
   clear hHeld2
   have hw5:=HSW.out
   refine wpAnyH_take (i:=4) (oi:=⟨some 72,_,_,_,_,_⟩) (v:=.int .i64 S) rfl (by kernel_rfl) (by kernel_rfl) (by kernel_rfl) (fun _ _ _ h=>h) (Or.inl ⟨by rfl,fun w' hw'=>?_⟩) (by assumption) ?_
   · clear hHeld
     go_simp
   simp only [Act.put,sIB,sCZ,sCS]
   refine wpAnyH_take (i:=5) (oi:=⟨some 73,_,_,_,_,_⟩) (v:=.pointer (some ⟨X,7,none⟩)) rfl (by kernel_rfl) (by kernel_rfl) (by kernel_rfl) (fun _ _ _ h=>h) (Or.inl ⟨by rfl,fun w' hw'=>?_⟩) (by assumption) ?_
   · clear hHeld
     go_simp
   simp only [Act.put,sIB,sCZ,sCS]
   refine wpAnyH_ready (rs:=[6]) (by kernel_rfl) (by simp) (AllReadyH.cons rfl (fun K hK=>?_) (AllReadyH.nil))
   have q7:=z0a (j:=7) HX6.out rfl
   have f7:=z0m 7 HX6.out
   have HX7:Hid ((w6.setCell ⟨X,7,none⟩ (.int .i64 S)).heap[X]?=some (.cells #[.int .u32 t.c.id,.int .u32 t.c.sg,.int .u8 t.c.st,.bool t.c.cp,.bool t.c.dd,.slice t.p t.n t.m,.int .i64 t.c.fs,.int .i64 S] 58 (0,0))):=hid (z0p 7 _ HX6.out)
   have hSN:Hid (RB (w6.setCell ⟨X,7,none⟩ (.int .i64 S)) Y r):=hid (z4j hHeld.out HNE.out.1 7 _)
   have HY7:=hSN
   have HB7:Hid (Below W.heap.size W (w6.setCell ⟨X,7,none⟩ (.int .i64 S))):=hid (HB6.out.setCell HNE.out.2 _)
   clear HX6 HB6
   go_simp
   go_wp2_with fail
   refine hK.out _ _ hSN (fun hHeld2=>?_)
   try simp only [Act.put,sIB,sCZ,sCS]
   clear hSN hK K hHeld hHeld2 q7 f7 hw5
   refine wpAnyH_done (by kernel_rfl) ?_ _
   generalize w6.setCell ⟨X,7,none⟩ (.int .i64 S)=w7 at *
   obtain⟨b0,b1,b2,b3,b4,b5,b6,b7⟩:=z0g HX7.out
   go_wp2_with fail
   clear b0 b1 b2 b3 b4 b5 b6 b7
   refine (HLC.out _ HB7.out).mono ?_
   rintro e8 w8 ⟨rfl,hb8⟩
   have hbn:Below w8.heap.size w8 (w8.alloc (.cells #[.int .u8 lk.1,.int .u8 lk.2.1,.int .u8 lk.2.2,.int .i64 ld] 71)):=(Below.refl _ _).alloc (Nat.le_refl _) _
   have HZ9:=hid (z0c w8 (.cells #[.int .u8 lk.1,.int .u8 lk.2.1,.int .u8 lk.2.2,.int .i64 ld] 71))
   have HX9:=hid (z0b (z0b HX7.out hb8) hbn)
   have HY9:=hid ((HY7.out.later hb8).later hbn)
   have HB9:=hid (HB7.out.trans ((hb8.trans (hbn.mono hb8.size)).mono HB7.out.size))
   clear hb8 hbn HX7 HY7 HB7 HLC
   go_upto_region 13 with (fail)
   generalize w8.alloc (.cells #[.int .u8 lk.1,.int .u8 lk.2.1,.int .u8 lk.2.2,.int .i64 ld] 71)=w9 at *
   generalize w8.heap.size=Z at *
   cases hdd:t.c.dd with
   | false =>
    have HAE:=hid (HAP.out.trans (if_neg (by simp [hdd])))
    rw [hdd] at HX9
    clear hdd HAP
    have f4:=z0m 4 HX9.out
    obtain⟨a0,a1,a2,a3,a4,a5,a6,a7,a8,a9⟩:=HY9.out.at
    obtain⟨b0,b1,b2,b3,b4,b5,b6,b7⟩:=z0g HX9.out
    have HX10:Hid ((w9.setCell ⟨X,4,none⟩ (.bool true)).heap[X]?=some (.cells #[.int .u32 t.c.id,.int .u32 t.c.sg,.int .u8 t.c.st,.bool t.c.cp,.bool true,.slice t.p t.n t.m,.int .i64 t.c.fs,.int .i64 S] 58 (0,0))):=hid (z0p 4 _ HX9.out)
    have HY10:Hid (RB (w9.setCell ⟨X,4,none⟩ (.bool true)) Y r):=hid (z4j HY9.out HNE.out.1 4 _)
    have HB10:Hid (Below W.heap.size W (w9.setCell ⟨X,4,none⟩ (.bool true))):=hid (HB9.out.setCell HNE.out.2 _)
    go_upto_region 28 with (fail)
    clear a0 a1 a2 a3 a4 a5 a6 a7 a8 a9
    clear b0 b1 b2 b3 b4 b5 b6 b7
    clear f4 HX9 HY9 HB9
    generalize w9.setCell ⟨X,4,none⟩ (.bool true)=w10 at *
    obtain⟨a0,a1,a2,a3,a4,a5,a6,a7,a8,a9⟩:=HY10.out.at
    obtain⟨b0,b1,b2,b3,b4,b5,b6,b7⟩:=z0g HX10.out
    have HWT:=hid (z3r p n c L ⟨⟨t.c.id,t.c.sg,t.c.st,t.c.cp,true,t.c.dn,t.c.fs,S⟩,t.p,t.n,t.m⟩ w10 (HL.out.row.later HB10.out) (by have:=HNN.out;omega))
    go_wp2_with fail
    clear a0 a1 a2 a3 a4 a5 a6 a7 a8 a9 b0 b1 b2 b3 b4 b5 b6 b7
    refine HWT.out.mono ?_
    rintro e12 w12 hg12
    have he:=HAE.out
    cases he
    obtain⟨v,hv⟩:∃ v,e12=.returned v:=by obtain⟨r1,d1,h1,_⟩:=hg12;exact⟨_,h1⟩
    subst hv
    obtain⟨r1,m1,d1,rfl,hga⟩:=z3n HL.out ⟨⟨t.c.id,t.c.sg,t.c.st,t.c.cp,true,t.c.dn,t.c.fs,S⟩,t.p,t.n,t.m⟩ (HTW.out.later HB10.out) (.inl ⟨t,HTM.out,rfl,rfl⟩) HB10.out hg12 rfl
    have HGA:=hid hga
    clear hga hg12 HWT
    go_wp2_with fail
    go_ret2
    exact HGA.out
   | true =>
    have HAE:=hid (HAP.out.trans (if_pos hdd))
    rw [hdd] at HX9
    clear hdd HAP
    have f4:=z0m 4 HX9.out
    obtain⟨a0,a1,a2,a3,a4,a5,a6,a7,a8,a9⟩:=HY9.out.at
    obtain⟨b0,b1,b2,b3,b4,b5,b6,b7⟩:=z0g HX9.out
    have HX10:Hid ((w9.setCell ⟨X,4,none⟩ (.bool true)).heap[X]?=some (.cells #[.int .u32 t.c.id,.int .u32 t.c.sg,.int .u8 t.c.st,.bool t.c.cp,.bool true,.slice t.p t.n t.m,.int .i64 t.c.fs,.int .i64 S] 58 (0,0))):=hid (z0p 4 _ HX9.out)
    have HY10:Hid (RB (w9.setCell ⟨X,4,none⟩ (.bool true)) Y r):=hid (z4j HY9.out HNE.out.1 4 _)
    have HB10:Hid (Below W.heap.size W (w9.setCell ⟨X,4,none⟩ (.bool true))):=hid (HB9.out.setCell HNE.out.2 _)
    go_upto_region 28 with (fail)
    clear a0 a1 a2 a3 a4 a5 a6 a7 a8 a9
    clear b0 b1 b2 b3 b4 b5 b6 b7
    clear f4 HX9 HY9 HB9
    generalize w9.setCell ⟨X,4,none⟩ (.bool true)=w10 at *
    obtain⟨a0,a1,a2,a3,a4,a5,a6,a7,a8,a9⟩:=HY10.out.at
    go_wp2_with fail
    clear a0 a1 a2 a3 a4 a5 a6 a7 a8 a9
    go_ret2
    have he:=HAE.out
    cases he
    exact z0y HL.out HB10.out rfl
 · go_simp
   go_wp2_with fail
   refine (HSZ.out _ HBD.out).mono ?_
   rintro e6 w6 ⟨rfl,hb6⟩
   have hSN:Hid (RB w6 Y r):=hid (hHeld.out.later hb6)
   have HX6:=hid (z0b HXD.out hb6)
   have HB6:=hid (HBD.out.trans (hb6.mono HBD.out.size))
   clear hb6 HXD HBD HSZ
   go_wp2_with fail
   refine hK.out _ _ hSN (fun hHeld2=>?_)
   try simp only [Act.put,sIB,sCZ,sCS]
   clear hSN hK K hHeld
   have hHeld:=hHeld2
   clear hHeld2
   refine wpAnyH_ready (rs:=[1]) (by kernel_rfl) (by simp) (AllReadyH.cons rfl (fun K hK=>?_) (AllReadyH.nil))
   have c7:=z0a (j:=7) HX6.out rfl
   go_simp
   go_wp2_with fail
   have hSN:=hHeld
   refine hK.out _ _ hSN (fun hHeld2=>?_)
   try simp only [Act.put,sIB,sCZ,sCS]
   clear hSN hK K hHeld
   have hHeld:=hHeld2
   clear hHeld2
   clear c7
   have hw5:=HSW.out
   refine wpAnyH_take (i:=4) (oi:=⟨some 72,_,_,_,_,_⟩) (v:=.int .i64 S) rfl (by kernel_rfl) (by kernel_rfl) (by kernel_rfl) (fun _ _ _ h=>h) (Or.inl ⟨by rfl,fun w' hw'=>?_⟩) (by assumption) ?_
   · clear hHeld
     go_simp
   simp only [Act.put,sIB,sCZ,sCS]
   refine wpAnyH_take (i:=5) (oi:=⟨some 73,_,_,_,_,_⟩) (v:=.pointer (some ⟨X,7,none⟩)) rfl (by kernel_rfl) (by kernel_rfl) (by kernel_rfl) (fun _ _ _ h=>h) (Or.inl ⟨by rfl,fun w' hw'=>?_⟩) (by assumption) ?_
   · clear hHeld
     go_simp
   simp only [Act.put,sIB,sCZ,sCS]
   refine wpAnyH_ready (rs:=[6]) (by kernel_rfl) (by simp) (AllReadyH.cons rfl (fun K hK=>?_) (AllReadyH.nil))
   have q7:=z0a (j:=7) HX6.out rfl
   have f7:=z0m 7 HX6.out
   have HX7:Hid ((w6.setCell ⟨X,7,none⟩ (.int .i64 S)).heap[X]?=some (.cells #[.int .u32 t.c.id,.int .u32 t.c.sg,.int .u8 t.c.st,.bool t.c.cp,.bool t.c.dd,.slice t.p t.n t.m,.int .i64 t.c.fs,.int .i64 S] 58 (0,0))):=hid (z0p 7 _ HX6.out)
   have hSN:Hid (RB (w6.setCell ⟨X,7,none⟩ (.int .i64 S)) Y r):=hid (z4j hHeld.out HNE.out.1 7 _)
   have HY7:=hSN
   have HB7:Hid (Below W.heap.size W (w6.setCell ⟨X,7,none⟩ (.int .i64 S))):=hid (HB6.out.setCell HNE.out.2 _)
   clear HX6 HB6
   go_simp
   go_wp2_with fail
   refine hK.out _ _ hSN (fun hHeld2=>?_)
   try simp only [Act.put,sIB,sCZ,sCS]
   clear hSN hK K hHeld hHeld2 q7 f7 hw5
   refine wpAnyH_done (by kernel_rfl) ?_ _
   generalize w6.setCell ⟨X,7,none⟩ (.int .i64 S)=w7 at *
   obtain⟨b0,b1,b2,b3,b4,b5,b6,b7⟩:=z0g HX7.out
   go_wp2_with fail
   clear b0 b1 b2 b3 b4 b5 b6 b7
   refine (HLC.out _ HB7.out).mono ?_
   rintro e8 w8 ⟨rfl,hb8⟩
   have hbn:Below w8.heap.size w8 (w8.alloc (.cells #[.int .u8 lk.1,.int .u8 lk.2.1,.int .u8 lk.2.2,.int .i64 ld] 71)):=(Below.refl _ _).alloc (Nat.le_refl _) _
   have HZ9:=hid (z0c w8 (.cells #[.int .u8 lk.1,.int .u8 lk.2.1,.int .u8 lk.2.2,.int .i64 ld] 71))
   have HX9:=hid (z0b (z0b HX7.out hb8) hbn)
   have HY9:=hid ((HY7.out.later hb8).later hbn)
   have HB9:=hid (HB7.out.trans ((hb8.trans (hbn.mono hb8.size)).mono HB7.out.size))
   clear hb8 hbn HX7 HY7 HB7 HLC
   go_upto_region 13 with (fail)
   generalize w8.alloc (.cells #[.int .u8 lk.1,.int .u8 lk.2.1,.int .u8 lk.2.2,.int .i64 ld] 71)=w9 at *
   generalize w8.heap.size=Z at *
   cases hdd:t.c.dd with
   | false =>
    have HAE:=hid (HAP.out.trans (if_neg (by simp [hdd])))
    rw [hdd] at HX9
    clear hdd HAP
    have f4:=z0m 4 HX9.out
    obtain⟨a0,a1,a2,a3,a4,a5,a6,a7,a8,a9⟩:=HY9.out.at
    obtain⟨b0,b1,b2,b3,b4,b5,b6,b7⟩:=z0g HX9.out
    have HX10:Hid ((w9.setCell ⟨X,4,none⟩ (.bool true)).heap[X]?=some (.cells #[.int .u32 t.c.id,.int .u32 t.c.sg,.int .u8 t.c.st,.bool t.c.cp,.bool true,.slice t.p t.n t.m,.int .i64 t.c.fs,.int .i64 S] 58 (0,0))):=hid (z0p 4 _ HX9.out)
    have HY10:Hid (RB (w9.setCell ⟨X,4,none⟩ (.bool true)) Y r):=hid (z4j HY9.out HNE.out.1 4 _)
    have HB10:Hid (Below W.heap.size W (w9.setCell ⟨X,4,none⟩ (.bool true))):=hid (HB9.out.setCell HNE.out.2 _)
    go_upto_region 28 with (fail)
    clear a0 a1 a2 a3 a4 a5 a6 a7 a8 a9
    clear b0 b1 b2 b3 b4 b5 b6 b7
    clear f4 HX9 HY9 HB9
    generalize w9.setCell ⟨X,4,none⟩ (.bool true)=w10 at *
    obtain⟨a0,a1,a2,a3,a4,a5,a6,a7,a8,a9⟩:=HY10.out.at
    obtain⟨b0,b1,b2,b3,b4,b5,b6,b7⟩:=z0g HX10.out
    have HWT:=hid (z3r p n c L ⟨⟨t.c.id,t.c.sg,t.c.st,t.c.cp,true,t.c.dn,t.c.fs,S⟩,t.p,t.n,t.m⟩ w10 (HL.out.row.later HB10.out) (by have:=HNN.out;omega))
    go_wp2_with fail
    clear a0 a1 a2 a3 a4 a5 a6 a7 a8 a9 b0 b1 b2 b3 b4 b5 b6 b7
    refine HWT.out.mono ?_
    rintro e12 w12 hg12
    have he:=HAE.out
    cases he
    obtain⟨v,hv⟩:∃ v,e12=.returned v:=by obtain⟨r1,d1,h1,_⟩:=hg12;exact⟨_,h1⟩
    subst hv
    obtain⟨r1,m1,d1,rfl,hga⟩:=z3n HL.out ⟨⟨t.c.id,t.c.sg,t.c.st,t.c.cp,true,t.c.dn,t.c.fs,S⟩,t.p,t.n,t.m⟩ (HTW.out.later HB10.out) (.inl ⟨t,HTM.out,rfl,rfl⟩) HB10.out hg12 rfl
    have HGA:=hid hga
    clear hga hg12 HWT
    go_wp2_with fail
    go_ret2
    exact HGA.out
   | true =>
    have HAE:=hid (HAP.out.trans (if_pos hdd))
    rw [hdd] at HX9
    clear hdd HAP
    have f4:=z0m 4 HX9.out
    obtain⟨a0,a1,a2,a3,a4,a5,a6,a7,a8,a9⟩:=HY9.out.at
    obtain⟨b0,b1,b2,b3,b4,b5,b6,b7⟩:=z0g HX9.out
    have HX10:Hid ((w9.setCell ⟨X,4,none⟩ (.bool true)).heap[X]?=some (.cells #[.int .u32 t.c.id,.int .u32 t.c.sg,.int .u8 t.c.st,.bool t.c.cp,.bool true,.slice t.p t.n t.m,.int .i64 t.c.fs,.int .i64 S] 58 (0,0))):=hid (z0p 4 _ HX9.out)
    have HY10:Hid (RB (w9.setCell ⟨X,4,none⟩ (.bool true)) Y r):=hid (z4j HY9.out HNE.out.1 4 _)
    have HB10:Hid (Below W.heap.size W (w9.setCell ⟨X,4,none⟩ (.bool true))):=hid (HB9.out.setCell HNE.out.2 _)
    go_upto_region 28 with (fail)
    clear a0 a1 a2 a3 a4 a5 a6 a7 a8 a9
    clear b0 b1 b2 b3 b4 b5 b6 b7
    clear f4 HX9 HY9 HB9
    generalize w9.setCell ⟨X,4,none⟩ (.bool true)=w10 at *
    obtain⟨a0,a1,a2,a3,a4,a5,a6,a7,a8,a9⟩:=HY10.out.at
    go_wp2_with fail
    clear a0 a1 a2 a3 a4 a5 a6 a7 a8 a9
    go_ret2
    have he:=HAE.out
    cases he
    exact z0y HL.out HB10.out rfl
theorem rapply_6 (p:Option Addr) (n c:Nat) (L:List Tv) (at_:Int) (r:Rv) (La:List Ln) (Ta:List Tk) (Ma:List Ln) (W:World) (hL:TL W p n c L) (hn:n≤1000) (hsm:∀ t∈L,Tcok t.c∧t.n≤1000∧0≤t.c.sz∧t.c.sz≤1099511627776) (hP:RvM W r La Ta Ma) (hok:Rxok (r.x La Ta Ma)) (h1:r.ln≤20∧r.tn≤30∧r.wn≤20) (hg:z0v (r.x La Ta Ma)=true) (hk:r.k=6) (t:Tv) (ht:getT Tv.id L r.tx=some t) :
 Calls Tryz.prog 10 #[.slice p n c,.int .i64 at_,.agg (rcs r)] W (z4k W p L (appC (L.map (·.c)) at_ (r.x La Ta Ma)).1 (appC (L.map (·.c)) at_ (r.x La Ta Ma)).2):=by
 have hwz:=z3o hg
 have HL:=hid hL
 have HNN:=hid hn
 obtain⟨W1,hW1,hb1⟩:∃ W1,W.alloc (.cells (rcs r) 40)=W1∧Below W.heap.size W W1:=⟨_,rfl,(Below.refl _ _).alloc (Nat.le_refl _) _⟩
 obtain⟨Y,hY⟩:∃ Y,W.heap.size=Y:=⟨_,rfl⟩
 have hrb:=RB.new W r
 rw [hW1,hY] at hrb
 have HY1:=hid hrb
 have HW1:=hid hW1
 have HB1:=hid hb1
 have HYE:=hid hY
 have HGD:=hid (z2k r La Ta Ma W1 (hP.later hb1) hok ⟨by omega,by omega,by omega⟩)
 have HSZ:=hid fun w (hb:Below W.heap.size W w)=>z4m r La Ta Ma w (hP.later hb) hok h1
 have HGT:=hid fun w (hb:Below W.heap.size W w)=>z2t p n c L r.tx w (hL.row.later hb) (by omega)
 rw [ht] at HGT
 rw [hg] at HGD
 obtain⟨htm,_⟩:=z2y ht
 obtain⟨htc,htn,hts⟩:=hsm t htm
 have htw:=hL.each t htm
 obtain⟨S,hS⟩:∃ S,t.c.sz+z1h (r.x La Ta Ma)=S:=⟨_,rfl⟩
 have HSW:Hid (IntKind.i64.wrap (t.c.sz+z1h (r.x La Ta Ma))=S):=hid (by
  rw [← hS]
  unfold IntKind.wrap;simp [IntKind.signed,IntKind.bits];omega)
 have HLC:=hid fun w (hb:Below W.heap.size W w)=>z4o ⟨⟨t.c.id,t.c.sg,t.c.st,t.c.cp,t.c.dd,t.c.dn,t.c.fs,S⟩,t.p,t.n,t.m⟩ w (htw.later hb) htc.dn (by simp only;omega)
 have e0:z1v ⟨t.c.id,t.c.sg,t.c.st,t.c.cp,t.c.dd,t.c.dn,t.c.fs,S⟩=z1v t.c:=rfl
 simp only [e0] at HLC
 have HTW:=hid htw
 have HTM:=hid htm
 have HTN:=hid htn
 have hap:=appC_6 (at_:=at_) (L.map (·.c)) (r.x La Ta Ma) hg hk (z3s ht)
 obtain⟨M',z',hmz⟩:∃ M' z',appC (L.map (·.c)) at_ (r.x La Ta Ma)=(M',z'):=⟨_,_,rfl⟩
 rw [hmz] at hap ⊢
 try rw [hS] at hap
 have HAP:=hid hap
 have e2:(r.k==2)=false:=by rw [hk];rfl
 have e3:(r.k==3)=false:=by rw [hk];rfl
 have e4:(r.k==4)=false:=by rw [hk];rfl
 have e5:(r.k==5)=false:=by rw [hk];rfl
 have e6:(r.k==6)=true:=by rw [hk];rfl
 have e7:(r.k==7)=false:=by rw [hk];rfl
 have l2:decide (r.k<2)=false:=by rw [hk];rfl
 have l7:decide (7<r.k)=false:=by rw [hk];rfl
 have m2:¬ r.k<2:=by omega
 have m7:¬ 7<r.k:=by omega
 have HHK:=hid hk
 have HWZ:=hid hwz
 generalize z1v t.c=lz at *
 obtain⟨⟨lk,ld⟩,lb⟩:=lz
 dsimp only at HLC HAP ⊢
 generalize z1h (r.x La Ta Ma)=sx at *
 generalize z0v (r.x La Ta Ma)=gx at *
 clear hwz hL hn hsm hP hok h1 hg hk ht htm htc htn hts htw hS e0 hap hmz hW1 hY hb1 hrb
 go_enter Tryz.func10,Tryz.ntmps10
 go_upto_region 1 with (fail)
 rw [HW1.out,HYE.out]
 go_wp2_with ((with_reducible refine z0n HY1.out ?_ ?_);rfl)
 refine HGD.out.mono ?_
 rintro e2 w2 ⟨rfl,hb2⟩
 have HB2:=hid (HB1.out.trans (hb2.mono HB1.out.size))
 have HY2:=hid (HY1.out.later hb2)
 clear hb2 HB1 HY1 HGD HW1
 obtain⟨a0,a1,a2,a3,a4,a5,a6,a7,a8,a9⟩:=HY2.out.at
 go_wp2_with fail
 clear a0 a1 a2 a3 a4 a5 a6 a7 a8 a9
 refine (HGT.out _ HB2.out).mono ?_
 rintro e3 w3 ⟨rfl,hb3⟩
 simp only [Option.getD_some,Option.isSome_some]
 have hbn:Below w3.heap.size w3 (w3.alloc (.cells #[.int .u32 t.c.id,.int .u32 t.c.sg,.int .u8 t.c.st,.bool t.c.cp,.bool t.c.dd,.slice t.p t.n t.m,.int .i64 t.c.fs,.int .i64 t.c.sz] 58)):=(Below.refl _ _).alloc (Nat.le_refl _) _
 have HX4:=hid (z0c w3 (.cells #[.int .u32 t.c.id,.int .u32 t.c.sg,.int .u8 t.c.st,.bool t.c.cp,.bool t.c.dd,.slice t.p t.n t.m,.int .i64 t.c.fs,.int .i64 t.c.sz] 58))
 have HB4:=hid (HB2.out.trans ((hb3.trans (hbn.mono hb3.size)).mono HB2.out.size))
 have HY4:=hid ((HY2.out.later hb3).later hbn)
 have HNE:Hid (Y≠w3.heap.size∧W.heap.size≤w3.heap.size):=hid ⟨by have:=(HY2.out.later hb3).lt;omega,Nat.le_trans HB2.out.size hb3.size⟩
 clear hb3 hbn HB2 HY2 HGT
 go_upto_region 4 with (fail)
 generalize w3.alloc (.cells #[.int .u32 t.c.id,.int .u32 t.c.sg,.int .u8 t.c.st,.bool t.c.cp,.bool t.c.dd,.slice t.p t.n t.m,.int .i64 t.c.fs,.int .i64 t.c.sz] 58)=w4 at *
 generalize w3.heap.size=X at *
 obtain⟨a0,a1,a2,a3,a4,a5,a6,a7,a8,a9⟩:=HY4.out.at
 go_wp2_with fail
 clear a0 a1 a2 a3 a4 a5 a6 a7 a8 a9
 have HYD:Hid (RB w4.drew Y r):=hid HY4.out
 have HXD:Hid (w4.drew.heap[X]?=some (.cells #[.int .u32 t.c.id,.int .u32 t.c.sg,.int .u8 t.c.st,.bool t.c.cp,.bool t.c.dd,.slice t.p t.n t.m,.int .i64 t.c.fs,.int .i64 t.c.sz] 58 (0,0))):=hid HX4.out
 have HBD0:=hid (z0h HB4.out 1)
 have HBD:Hid (Below W.heap.size W w4.drew):=hid HBD0.out
 clear HBD0 HY4 HX4 HB4
 refine wp_region_held_drew (S:=fun w'=>Hid (RB w' Y r)) (by kernel_rfl) HYD (fun hHeld=>?_)
 generalize w4.drew=w5 at *
 refine wpAnyH_take (i:=0) (oi:=⟨some 68,_,_,_,_,_⟩) (v:=.pointer (some ⟨X,7,none⟩)) rfl (by kernel_rfl) (by kernel_rfl) (by kernel_rfl) (fun _ _ _ h=>h) (Or.inl ⟨by rfl,fun w' hw'=>?_⟩) (by assumption) ?_
 · clear hHeld
   go_simp
 simp only [Act.put,sIB,sCZ,sCS]
 refine wpAnyH_take (i:=2) (oi:=⟨some 70,_,_,_,_,_⟩) (v:=.agg (rcs r)) rfl (by kernel_rfl) (by kernel_rfl) (by kernel_rfl) (fun _ _ _ h=>h) (Or.inl ⟨by rfl,fun w' hw'=>z1t rfl (Hid.out hw')⟩) (by assumption) ?_
 simp only [Act.put,sIB,sCZ,sCS]
 refine wpAnyH_ready (rs:=[1,3]) (by kernel_rfl) (by simp) (AllReadyH.cons rfl (fun K hK=>?_) (AllReadyH.cons rfl (fun K hK=>?_) (AllReadyH.nil)))
 · have c7:=z0a (j:=7) HXD.out rfl
   go_simp
   go_wp2_with fail
   have hSN:=hHeld
   refine hK.out _ _ hSN (fun hHeld2=>?_)
   try simp only [Act.put,sIB,sCZ,sCS]
   clear hSN hK K hHeld
   have hHeld:=hHeld2
   clear hHeld2
   clear c7
   refine wpAnyH_ready (rs:=[3]) (by kernel_rfl) (by simp) (AllReadyH.cons rfl (fun K hK=>?_) (AllReadyH.nil))
   go_simp
   go_wp2_with fail
   refine (HSZ.out _ HBD.out).mono ?_
   rintro e6 w6 ⟨rfl,hb6⟩
   have hSN:Hid (RB w6 Y r):=hid (hHeld.out.later hb6)
   have HX6:=hid (z0b HXD.out hb6)
   have HB6:=hid (HBD.out.trans (hb6.mono HBD.out.size))
   clear hb6 HXD HBD HSZ
   go_wp2_with fail
   refine hK.out _ _ hSN (fun hHeld2=>?_)
   try simp only [Act.put,sIB,sCZ,sCS]
   clear hSN hK K hHeld
   have hHeld:=hHeld2
   clear hHeld2
   have hw5:=HSW.out
   refine wpAnyH_take (i:=4) (oi:=⟨some 72,_,_,_,_,_⟩) (v:=.int .i64 S) rfl (by kernel_rfl) (by kernel_rfl) (by kernel_rfl) (fun _ _ _ h=>h) (Or.inl ⟨by rfl,fun w' hw'=>?_⟩) (by assumption) ?_
   · clear hHeld
     go_simp
   simp only [Act.put,sIB,sCZ,sCS]
   refine wpAnyH_take (i:=5) (oi:=⟨some 73,_,_,_,_,_⟩) (v:=.pointer (some ⟨X,7,none⟩)) rfl (by kernel_rfl) (by kernel_rfl) (by kernel_rfl) (fun _ _ _ h=>h) (Or.inl ⟨by rfl,fun w' hw'=>?_⟩) (by assumption) ?_
   · clear hHeld
     go_simp
   simp only [Act.put,sIB,sCZ,sCS]
   refine wpAnyH_ready (rs:=[6]) (by kernel_rfl) (by simp) (AllReadyH.cons rfl (fun K hK=>?_) (AllReadyH.nil))
   have q7:=z0a (j:=7) HX6.out rfl
   have f7:=z0m 7 HX6.out
   have HX7:Hid ((w6.setCell ⟨X,7,none⟩ (.int .i64 S)).heap[X]?=some (.cells #[.int .u32 t.c.id,.int .u32 t.c.sg,.int .u8 t.c.st,.bool t.c.cp,.bool t.c.dd,.slice t.p t.n t.m,.int .i64 t.c.fs,.int .i64 S] 58 (0,0))):=hid (z0p 7 _ HX6.out)
   have hSN:Hid (RB (w6.setCell ⟨X,7,none⟩ (.int .i64 S)) Y r):=hid (z4j hHeld.out HNE.out.1 7 _)
   have HY7:=hSN
   have HB7:Hid (Below W.heap.size W (w6.setCell ⟨X,7,none⟩ (.int .i64 S))):=hid (HB6.out.setCell HNE.out.2 _)
   clear HX6 HB6
   go_simp
   go_wp2_with fail
   refine hK.out _ _ hSN (fun hHeld2=>?_)
   try simp only [Act.put,sIB,sCZ,sCS]
   clear hSN hK K hHeld hHeld2 q7 f7 hw5
   refine wpAnyH_done (by kernel_rfl) ?_ _
   generalize w6.setCell ⟨X,7,none⟩ (.int .i64 S)=w7 at *
   obtain⟨b0,b1,b2,b3,b4,b5,b6,b7⟩:=z0g HX7.out
   go_wp2_with fail
   clear b0 b1 b2 b3 b4 b5 b6 b7
   refine (HLC.out _ HB7.out).mono ?_
   rintro e8 w8 ⟨rfl,hb8⟩
   have hbn:Below w8.heap.size w8 (w8.alloc (.cells #[.int .u8 lk.1,.int .u8 lk.2.1,.int .u8 lk.2.2,.int .i64 ld] 71)):=(Below.refl _ _).alloc (Nat.le_refl _) _
   have HZ9:=hid (z0c w8 (.cells #[.int .u8 lk.1,.int .u8 lk.2.1,.int .u8 lk.2.2,.int .i64 ld] 71))
   have HX9:=hid (z0b (z0b HX7.out hb8) hbn)
   have HY9:=hid ((HY7.out.later hb8).later hbn)
   have HB9:=hid (HB7.out.trans ((hb8.trans (hbn.mono hb8.size)).mono HB7.out.size))
   clear hb8 hbn HX7 HY7 HB7 HLC
   go_upto_region 13 with (fail)
   generalize w8.alloc (.cells #[.int .u8 lk.1,.int .u8 lk.2.1,.int .u8 lk.2.2,.int .i64 ld] 71)=w9 at *
   generalize w8.heap.size=Z at *
   cases lb with
   | false =>
    have HAE:=hid (HAP.out.trans (if_neg (fun e=>by cases e)))
    clear HAP
    have HCL:=hid (z2j ⟨⟨t.c.id,t.c.sg,t.c.st,t.c.cp,t.c.dd,t.c.dn,t.c.fs,S⟩,t.p,t.n,t.m⟩ w9 (HTW.out.later HB9.out) (Nat.le_trans HTN.out (by omega)))
    obtain⟨a0,a1,a2,a3,a4,a5,a6,a7,a8,a9⟩:=HY9.out.at
    obtain⟨b0,b1,b2,b3,b4,b5,b6,b7⟩:=z0g HX9.out
    have z0:=z0a (j:=0) HZ9.out rfl
    have z1:=z0a (j:=1) HZ9.out rfl
    have z2:=z0a (j:=2) HZ9.out rfl
    have z3:=z0a (j:=3) HZ9.out rfl
    go_wp2_with fail
    clear a0 a1 a2 a3 a4 a5 a6 a7 a8 a9
    clear b0 b1 b2 b3 b4 b5 b6 b7
    clear z0 z1 z2 z3
    refine HCL.out.mono ?_
    rintro e10 w10 ⟨r2,n2,d2,rfl,ho10,hb10,hr10⟩
    have HO10:=hid ho10
    have HR10:Hid (∀ a,r2=some a→W.heap.size≤a.block∧a.block≠X):=hid fun a ha=>⟨Nat.le_trans HB9.out.size (hr10 a ha),by have h2:=hr10 a ha;have h3:=z0k HX9.out;omega⟩
    have HX10:=hid (z0b HX9.out hb10)
    have HY10:=hid (HY9.out.later hb10)
    have HB10:=hid (HB9.out.trans (hb10.mono HB9.out.size))
    clear ho10 hb10 hr10 HX9 HY9 HB9 HCL
    obtain⟨b0,b1,b2,b3,b4,b5,b6,b7⟩:=z0g HX10.out
    obtain⟨f0,f1,f2,f3,f4,f5,f6,f7⟩:=z1y HX10.out
    have HX11:=hid (z1d (a':=.int .u32 t.c.id) (b':=.int .u32 t.c.sg) (c':=.int .u8 t.c.st) (d':=.bool t.c.cp) (e':=.bool true) (f':=.slice r2 n2 d2) (g':=.int .i64 t.c.fs) (h':=.int .i64 S) HX10.out)
    have hc:Chg (fun k=>k=X) w10 ((((((((w10.setCell ⟨X,0,none⟩ (.int .u32 t.c.id)).setCell ⟨X,1,none⟩ (.int .u32 t.c.sg)).setCell ⟨X,2,none⟩ (.int .u8 t.c.st)).setCell ⟨X,3,none⟩ (.bool t.c.cp)).setCell ⟨X,4,none⟩ (.bool true)).setCell ⟨X,5,none⟩ (.slice r2 n2 d2)).setCell ⟨X,6,none⟩ (.int .i64 t.c.fs)).setCell ⟨X,7,none⟩ (.int .i64 S)):=(((((((((Chg.refl (fun k=>k=X) w10).setCell ⟨X,0,none⟩ _ fun _=>rfl).setCell ⟨X,1,none⟩ _ fun _=>rfl).setCell ⟨X,2,none⟩ _ fun _=>rfl).setCell ⟨X,3,none⟩ _ fun _=>rfl).setCell ⟨X,4,none⟩ _ fun _=>rfl).setCell ⟨X,5,none⟩ _ fun _=>rfl).setCell ⟨X,6,none⟩ _ fun _=>rfl).setCell ⟨X,7,none⟩ _ fun _=>rfl)
    have HY11:Hid (RB ((((((((w10.setCell ⟨X,0,none⟩ (.int .u32 t.c.id)).setCell ⟨X,1,none⟩ (.int .u32 t.c.sg)).setCell ⟨X,2,none⟩ (.int .u8 t.c.st)).setCell ⟨X,3,none⟩ (.bool t.c.cp)).setCell ⟨X,4,none⟩ (.bool true)).setCell ⟨X,5,none⟩ (.slice r2 n2 d2)).setCell ⟨X,6,none⟩ (.int .i64 t.c.fs)).setCell ⟨X,7,none⟩ (.int .i64 S)) Y r):=hid (HY10.out.chg hc HNE.out.1)
    have HB11:Hid (Below W.heap.size W ((((((((w10.setCell ⟨X,0,none⟩ (.int .u32 t.c.id)).setCell ⟨X,1,none⟩ (.int .u32 t.c.sg)).setCell ⟨X,2,none⟩ (.int .u8 t.c.st)).setCell ⟨X,3,none⟩ (.bool t.c.cp)).setCell ⟨X,4,none⟩ (.bool true)).setCell ⟨X,5,none⟩ (.slice r2 n2 d2)).setCell ⟨X,6,none⟩ (.int .i64 t.c.fs)).setCell ⟨X,7,none⟩ (.int .i64 S))):=hid (hc.below HB10.out HB10.out.size fun k hk=>by rw [hk];exact HNE.out.2)
    have HTV:Hid (TvM ((((((((w10.setCell ⟨X,0,none⟩ (.int .u32 t.c.id)).setCell ⟨X,1,none⟩ (.int .u32 t.c.sg)).setCell ⟨X,2,none⟩ (.int .u8 t.c.st)).setCell ⟨X,3,none⟩ (.bool t.c.cp)).setCell ⟨X,4,none⟩ (.bool true)).setCell ⟨X,5,none⟩ (.slice r2 n2 d2)).setCell ⟨X,6,none⟩ (.int .i64 t.c.fs)).setCell ⟨X,7,none⟩ (.int .i64 S)) ⟨⟨t.c.id,t.c.sg,t.c.st,t.c.cp,true,t.c.dn.dropLast,t.c.fs,S⟩,r2,n2,d2⟩):=hid (z3d (t:=⟨⟨t.c.id,t.c.sg,t.c.st,t.c.cp,true,t.c.dn.dropLast,t.c.fs,S⟩,r2,n2,d2⟩) (W:=W) HO10.out (fun a ha=>(HR10.out a ha).2) hc)
    clear hc
    go_upto_region 28 with (fail)
    clear b0 b1 b2 b3 b4 b5 b6 b7
    clear f0 f1 f2 f3 f4 f5 f6 f7 HX10 HY10 HB10
    generalize ((((((((w10.setCell ⟨X,0,none⟩ (.int .u32 t.c.id)).setCell ⟨X,1,none⟩ (.int .u32 t.c.sg)).setCell ⟨X,2,none⟩ (.int .u8 t.c.st)).setCell ⟨X,3,none⟩ (.bool t.c.cp)).setCell ⟨X,4,none⟩ (.bool true)).setCell ⟨X,5,none⟩ (.slice r2 n2 d2)).setCell ⟨X,6,none⟩ (.int .i64 t.c.fs)).setCell ⟨X,7,none⟩ (.int .i64 S))=w11 at *
    obtain⟨a0,a1,a2,a3,a4,a5,a6,a7,a8,a9⟩:=HY11.out.at
    go_wp2_with fail
    clear a0 a1 a2 a3 a4 a5 a6 a7 a8 a9
    go_ret2
    have he:=HAE.out
    cases he
    exact z0y HL.out HB11.out rfl
   | true =>
    have qn:=fun W=>key_neq lk.1 lk.2.1 lk.2.2 r.ka r.kb r.kc W
    have hdq:decide (((lk.1,lk.2.1,lk.2.2):K)=(r.ka,r.kb,r.kc))=decide (lk=(r.ka,r.kb,r.kc)):=rfl
    rw [hdq] at qn
    clear hdq
    by_cases hK:lk=(r.ka,r.kb,r.kc)
    · by_cases hD:ld=r.d
      · have HAE:=hid (HAP.out.trans (if_pos (by rw [hK,hD];rfl)))
        rw [decide_eq_true hK] at qn
        have qd:(ld != r.d)=false:=by simp [hD]
        have HHK2:=hid (And.intro hK hD)
        clear hK hD HAP
        have HCL:=hid (z2j ⟨⟨t.c.id,t.c.sg,t.c.st,t.c.cp,t.c.dd,t.c.dn,t.c.fs,S⟩,t.p,t.n,t.m⟩ w9 (HTW.out.later HB9.out) (Nat.le_trans HTN.out (by omega)))
        obtain⟨a0,a1,a2,a3,a4,a5,a6,a7,a8,a9⟩:=HY9.out.at
        obtain⟨b0,b1,b2,b3,b4,b5,b6,b7⟩:=z0g HX9.out
        have z0:=z0a (j:=0) HZ9.out rfl
        have z1:=z0a (j:=1) HZ9.out rfl
        have z2:=z0a (j:=2) HZ9.out rfl
        have z3:=z0a (j:=3) HZ9.out rfl
        go_wp2_with fail
        clear a0 a1 a2 a3 a4 a5 a6 a7 a8 a9
        clear b0 b1 b2 b3 b4 b5 b6 b7
        clear z0 z1 z2 z3
        refine HCL.out.mono ?_
        rintro e10 w10 ⟨r2,n2,d2,rfl,ho10,hb10,hr10⟩
        have HO10:=hid ho10
        have HR10:Hid (∀ a,r2=some a→W.heap.size≤a.block∧a.block≠X):=hid fun a ha=>⟨Nat.le_trans HB9.out.size (hr10 a ha),by have h2:=hr10 a ha;have h3:=z0k HX9.out;omega⟩
        have HX10:=hid (z0b HX9.out hb10)
        have HY10:=hid (HY9.out.later hb10)
        have HB10:=hid (HB9.out.trans (hb10.mono HB9.out.size))
        clear ho10 hb10 hr10 HX9 HY9 HB9 HCL
        obtain⟨b0,b1,b2,b3,b4,b5,b6,b7⟩:=z0g HX10.out
        obtain⟨f0,f1,f2,f3,f4,f5,f6,f7⟩:=z1y HX10.out
        have HX11:=hid (z1d (a':=.int .u32 t.c.id) (b':=.int .u32 t.c.sg) (c':=.int .u8 t.c.st) (d':=.bool t.c.cp) (e':=.bool true) (f':=.slice r2 n2 d2) (g':=.int .i64 t.c.fs) (h':=.int .i64 S) HX10.out)
        have hc:Chg (fun k=>k=X) w10 ((((((((w10.setCell ⟨X,0,none⟩ (.int .u32 t.c.id)).setCell ⟨X,1,none⟩ (.int .u32 t.c.sg)).setCell ⟨X,2,none⟩ (.int .u8 t.c.st)).setCell ⟨X,3,none⟩ (.bool t.c.cp)).setCell ⟨X,4,none⟩ (.bool true)).setCell ⟨X,5,none⟩ (.slice r2 n2 d2)).setCell ⟨X,6,none⟩ (.int .i64 t.c.fs)).setCell ⟨X,7,none⟩ (.int .i64 S)):=(((((((((Chg.refl (fun k=>k=X) w10).setCell ⟨X,0,none⟩ _ fun _=>rfl).setCell ⟨X,1,none⟩ _ fun _=>rfl).setCell ⟨X,2,none⟩ _ fun _=>rfl).setCell ⟨X,3,none⟩ _ fun _=>rfl).setCell ⟨X,4,none⟩ _ fun _=>rfl).setCell ⟨X,5,none⟩ _ fun _=>rfl).setCell ⟨X,6,none⟩ _ fun _=>rfl).setCell ⟨X,7,none⟩ _ fun _=>rfl)
        have HY11:Hid (RB ((((((((w10.setCell ⟨X,0,none⟩ (.int .u32 t.c.id)).setCell ⟨X,1,none⟩ (.int .u32 t.c.sg)).setCell ⟨X,2,none⟩ (.int .u8 t.c.st)).setCell ⟨X,3,none⟩ (.bool t.c.cp)).setCell ⟨X,4,none⟩ (.bool true)).setCell ⟨X,5,none⟩ (.slice r2 n2 d2)).setCell ⟨X,6,none⟩ (.int .i64 t.c.fs)).setCell ⟨X,7,none⟩ (.int .i64 S)) Y r):=hid (HY10.out.chg hc HNE.out.1)
        have HB11:Hid (Below W.heap.size W ((((((((w10.setCell ⟨X,0,none⟩ (.int .u32 t.c.id)).setCell ⟨X,1,none⟩ (.int .u32 t.c.sg)).setCell ⟨X,2,none⟩ (.int .u8 t.c.st)).setCell ⟨X,3,none⟩ (.bool t.c.cp)).setCell ⟨X,4,none⟩ (.bool true)).setCell ⟨X,5,none⟩ (.slice r2 n2 d2)).setCell ⟨X,6,none⟩ (.int .i64 t.c.fs)).setCell ⟨X,7,none⟩ (.int .i64 S))):=hid (hc.below HB10.out HB10.out.size fun k hk=>by rw [hk];exact HNE.out.2)
        have HTV:Hid (TvM ((((((((w10.setCell ⟨X,0,none⟩ (.int .u32 t.c.id)).setCell ⟨X,1,none⟩ (.int .u32 t.c.sg)).setCell ⟨X,2,none⟩ (.int .u8 t.c.st)).setCell ⟨X,3,none⟩ (.bool t.c.cp)).setCell ⟨X,4,none⟩ (.bool true)).setCell ⟨X,5,none⟩ (.slice r2 n2 d2)).setCell ⟨X,6,none⟩ (.int .i64 t.c.fs)).setCell ⟨X,7,none⟩ (.int .i64 S)) ⟨⟨t.c.id,t.c.sg,t.c.st,t.c.cp,true,t.c.dn.dropLast,t.c.fs,S⟩,r2,n2,d2⟩):=hid (z3d (t:=⟨⟨t.c.id,t.c.sg,t.c.st,t.c.cp,true,t.c.dn.dropLast,t.c.fs,S⟩,r2,n2,d2⟩) (W:=W) HO10.out (fun a ha=>(HR10.out a ha).2) hc)
        clear hc
        go_upto_region 28 with (fail)
        clear b0 b1 b2 b3 b4 b5 b6 b7
        clear f0 f1 f2 f3 f4 f5 f6 f7 HX10 HY10 HB10
        generalize ((((((((w10.setCell ⟨X,0,none⟩ (.int .u32 t.c.id)).setCell ⟨X,1,none⟩ (.int .u32 t.c.sg)).setCell ⟨X,2,none⟩ (.int .u8 t.c.st)).setCell ⟨X,3,none⟩ (.bool t.c.cp)).setCell ⟨X,4,none⟩ (.bool true)).setCell ⟨X,5,none⟩ (.slice r2 n2 d2)).setCell ⟨X,6,none⟩ (.int .i64 t.c.fs)).setCell ⟨X,7,none⟩ (.int .i64 S))=w11 at *
        obtain⟨a0,a1,a2,a3,a4,a5,a6,a7,a8,a9⟩:=HY11.out.at
        obtain⟨b0,b1,b2,b3,b4,b5,b6,b7⟩:=z0g HX11.out
        have HWT:=hid (z3r p n c L ⟨⟨t.c.id,t.c.sg,t.c.st,t.c.cp,true,t.c.dn.dropLast,t.c.fs,S⟩,r2,n2,d2⟩ w11 (HL.out.row.later HB11.out) (by have:=HNN.out;omega))
        go_wp2_with fail
        clear a0 a1 a2 a3 a4 a5 a6 a7 a8 a9 b0 b1 b2 b3 b4 b5 b6 b7
        refine HWT.out.mono ?_
        rintro e12 w12 hg12
        have he:=HAE.out
        cases he
        obtain⟨v,hv⟩:∃ v,e12=.returned v:=by obtain⟨r1,d1,h1,_⟩:=hg12;exact⟨_,h1⟩
        subst hv
        obtain⟨r1,m1,d1,rfl,hga⟩:=z3n HL.out ⟨⟨t.c.id,t.c.sg,t.c.st,t.c.cp,true,t.c.dn.dropLast,t.c.fs,S⟩,r2,n2,d2⟩ HTV.out (.inr fun a ha=>(HR10.out a ha).1) HB11.out hg12 rfl
        have HGA:=hid hga
        clear hga hg12 HWT
        go_wp2_with fail
        go_ret2
        exact HGA.out
      · have HAE:=hid (HAP.out.trans (if_neg (fun e=>hD (by have h2:=congrArg (fun x:O × Bool=>x.1.2) e;exact h2))))
        rw [decide_eq_true hK] at qn
        have qd:(ld != r.d)=true:=by simp [hD]
        have HHK2:=hid (And.intro hK hD)
        clear hK hD HAP
        have HCL:=hid (z2j ⟨⟨t.c.id,t.c.sg,t.c.st,t.c.cp,t.c.dd,t.c.dn,t.c.fs,S⟩,t.p,t.n,t.m⟩ w9 (HTW.out.later HB9.out) (Nat.le_trans HTN.out (by omega)))
        obtain⟨a0,a1,a2,a3,a4,a5,a6,a7,a8,a9⟩:=HY9.out.at
        obtain⟨b0,b1,b2,b3,b4,b5,b6,b7⟩:=z0g HX9.out
        have z0:=z0a (j:=0) HZ9.out rfl
        have z1:=z0a (j:=1) HZ9.out rfl
        have z2:=z0a (j:=2) HZ9.out rfl
        have z3:=z0a (j:=3) HZ9.out rfl
        go_wp2_with fail
        clear a0 a1 a2 a3 a4 a5 a6 a7 a8 a9
        clear b0 b1 b2 b3 b4 b5 b6 b7
        clear z0 z1 z2 z3
        refine HCL.out.mono ?_
        rintro e10 w10 ⟨r2,n2,d2,rfl,ho10,hb10,hr10⟩
        have HO10:=hid ho10
        have HR10:Hid (∀ a,r2=some a→W.heap.size≤a.block∧a.block≠X):=hid fun a ha=>⟨Nat.le_trans HB9.out.size (hr10 a ha),by have h2:=hr10 a ha;have h3:=z0k HX9.out;omega⟩
        have HX10:=hid (z0b HX9.out hb10)
        have HY10:=hid (HY9.out.later hb10)
        have HB10:=hid (HB9.out.trans (hb10.mono HB9.out.size))
        clear ho10 hb10 hr10 HX9 HY9 HB9 HCL
        obtain⟨b0,b1,b2,b3,b4,b5,b6,b7⟩:=z0g HX10.out
        obtain⟨f0,f1,f2,f3,f4,f5,f6,f7⟩:=z1y HX10.out
        have HX11:=hid (z1d (a':=.int .u32 t.c.id) (b':=.int .u32 t.c.sg) (c':=.int .u8 t.c.st) (d':=.bool t.c.cp) (e':=.bool true) (f':=.slice r2 n2 d2) (g':=.int .i64 t.c.fs) (h':=.int .i64 S) HX10.out)
        have hc:Chg (fun k=>k=X) w10 ((((((((w10.setCell ⟨X,0,none⟩ (.int .u32 t.c.id)).setCell ⟨X,1,none⟩ (.int .u32 t.c.sg)).setCell ⟨X,2,none⟩ (.int .u8 t.c.st)).setCell ⟨X,3,none⟩ (.bool t.c.cp)).setCell ⟨X,4,none⟩ (.bool true)).setCell ⟨X,5,none⟩ (.slice r2 n2 d2)).setCell ⟨X,6,none⟩ (.int .i64 t.c.fs)).setCell ⟨X,7,none⟩ (.int .i64 S)):=(((((((((Chg.refl (fun k=>k=X) w10).setCell ⟨X,0,none⟩ _ fun _=>rfl).setCell ⟨X,1,none⟩ _ fun _=>rfl).setCell ⟨X,2,none⟩ _ fun _=>rfl).setCell ⟨X,3,none⟩ _ fun _=>rfl).setCell ⟨X,4,none⟩ _ fun _=>rfl).setCell ⟨X,5,none⟩ _ fun _=>rfl).setCell ⟨X,6,none⟩ _ fun _=>rfl).setCell ⟨X,7,none⟩ _ fun _=>rfl)
        have HY11:Hid (RB ((((((((w10.setCell ⟨X,0,none⟩ (.int .u32 t.c.id)).setCell ⟨X,1,none⟩ (.int .u32 t.c.sg)).setCell ⟨X,2,none⟩ (.int .u8 t.c.st)).setCell ⟨X,3,none⟩ (.bool t.c.cp)).setCell ⟨X,4,none⟩ (.bool true)).setCell ⟨X,5,none⟩ (.slice r2 n2 d2)).setCell ⟨X,6,none⟩ (.int .i64 t.c.fs)).setCell ⟨X,7,none⟩ (.int .i64 S)) Y r):=hid (HY10.out.chg hc HNE.out.1)
        have HB11:Hid (Below W.heap.size W ((((((((w10.setCell ⟨X,0,none⟩ (.int .u32 t.c.id)).setCell ⟨X,1,none⟩ (.int .u32 t.c.sg)).setCell ⟨X,2,none⟩ (.int .u8 t.c.st)).setCell ⟨X,3,none⟩ (.bool t.c.cp)).setCell ⟨X,4,none⟩ (.bool true)).setCell ⟨X,5,none⟩ (.slice r2 n2 d2)).setCell ⟨X,6,none⟩ (.int .i64 t.c.fs)).setCell ⟨X,7,none⟩ (.int .i64 S))):=hid (hc.below HB10.out HB10.out.size fun k hk=>by rw [hk];exact HNE.out.2)
        have HTV:Hid (TvM ((((((((w10.setCell ⟨X,0,none⟩ (.int .u32 t.c.id)).setCell ⟨X,1,none⟩ (.int .u32 t.c.sg)).setCell ⟨X,2,none⟩ (.int .u8 t.c.st)).setCell ⟨X,3,none⟩ (.bool t.c.cp)).setCell ⟨X,4,none⟩ (.bool true)).setCell ⟨X,5,none⟩ (.slice r2 n2 d2)).setCell ⟨X,6,none⟩ (.int .i64 t.c.fs)).setCell ⟨X,7,none⟩ (.int .i64 S)) ⟨⟨t.c.id,t.c.sg,t.c.st,t.c.cp,true,t.c.dn.dropLast,t.c.fs,S⟩,r2,n2,d2⟩):=hid (z3d (t:=⟨⟨t.c.id,t.c.sg,t.c.st,t.c.cp,true,t.c.dn.dropLast,t.c.fs,S⟩,r2,n2,d2⟩) (W:=W) HO10.out (fun a ha=>(HR10.out a ha).2) hc)
        clear hc
        go_upto_region 28 with (fail)
        clear b0 b1 b2 b3 b4 b5 b6 b7
        clear f0 f1 f2 f3 f4 f5 f6 f7 HX10 HY10 HB10
        generalize ((((((((w10.setCell ⟨X,0,none⟩ (.int .u32 t.c.id)).setCell ⟨X,1,none⟩ (.int .u32 t.c.sg)).setCell ⟨X,2,none⟩ (.int .u8 t.c.st)).setCell ⟨X,3,none⟩ (.bool t.c.cp)).setCell ⟨X,4,none⟩ (.bool true)).setCell ⟨X,5,none⟩ (.slice r2 n2 d2)).setCell ⟨X,6,none⟩ (.int .i64 t.c.fs)).setCell ⟨X,7,none⟩ (.int .i64 S))=w11 at *
        obtain⟨a0,a1,a2,a3,a4,a5,a6,a7,a8,a9⟩:=HY11.out.at
        go_wp2_with fail
        clear a0 a1 a2 a3 a4 a5 a6 a7 a8 a9
        go_ret2
        have he:=HAE.out
        cases he
        exact z0y HL.out HB11.out rfl
    · have HAE:=hid (HAP.out.trans (if_neg (fun e=>hK (by have h2:=congrArg (fun x:O × Bool=>x.1.1) e;exact h2))))
      rw [decide_eq_false hK] at qn
      have HHK2:=hid hK
      clear hK HAP
      have HCL:=hid (z2j ⟨⟨t.c.id,t.c.sg,t.c.st,t.c.cp,t.c.dd,t.c.dn,t.c.fs,S⟩,t.p,t.n,t.m⟩ w9 (HTW.out.later HB9.out) (Nat.le_trans HTN.out (by omega)))
      obtain⟨a0,a1,a2,a3,a4,a5,a6,a7,a8,a9⟩:=HY9.out.at
      obtain⟨b0,b1,b2,b3,b4,b5,b6,b7⟩:=z0g HX9.out
      have z0:=z0a (j:=0) HZ9.out rfl
      have z1:=z0a (j:=1) HZ9.out rfl
      have z2:=z0a (j:=2) HZ9.out rfl
      have z3:=z0a (j:=3) HZ9.out rfl
      go_wp2_with fail
      clear a0 a1 a2 a3 a4 a5 a6 a7 a8 a9
      clear b0 b1 b2 b3 b4 b5 b6 b7
      clear z0 z1 z2 z3
      refine HCL.out.mono ?_
      rintro e10 w10 ⟨r2,n2,d2,rfl,ho10,hb10,hr10⟩
      have HO10:=hid ho10
      have HR10:Hid (∀ a,r2=some a→W.heap.size≤a.block∧a.block≠X):=hid fun a ha=>⟨Nat.le_trans HB9.out.size (hr10 a ha),by have h2:=hr10 a ha;have h3:=z0k HX9.out;omega⟩
      have HX10:=hid (z0b HX9.out hb10)
      have HY10:=hid (HY9.out.later hb10)
      have HB10:=hid (HB9.out.trans (hb10.mono HB9.out.size))
      clear ho10 hb10 hr10 HX9 HY9 HB9 HCL
      obtain⟨b0,b1,b2,b3,b4,b5,b6,b7⟩:=z0g HX10.out
      obtain⟨f0,f1,f2,f3,f4,f5,f6,f7⟩:=z1y HX10.out
      have HX11:=hid (z1d (a':=.int .u32 t.c.id) (b':=.int .u32 t.c.sg) (c':=.int .u8 t.c.st) (d':=.bool t.c.cp) (e':=.bool true) (f':=.slice r2 n2 d2) (g':=.int .i64 t.c.fs) (h':=.int .i64 S) HX10.out)
      have hc:Chg (fun k=>k=X) w10 ((((((((w10.setCell ⟨X,0,none⟩ (.int .u32 t.c.id)).setCell ⟨X,1,none⟩ (.int .u32 t.c.sg)).setCell ⟨X,2,none⟩ (.int .u8 t.c.st)).setCell ⟨X,3,none⟩ (.bool t.c.cp)).setCell ⟨X,4,none⟩ (.bool true)).setCell ⟨X,5,none⟩ (.slice r2 n2 d2)).setCell ⟨X,6,none⟩ (.int .i64 t.c.fs)).setCell ⟨X,7,none⟩ (.int .i64 S)):=(((((((((Chg.refl (fun k=>k=X) w10).setCell ⟨X,0,none⟩ _ fun _=>rfl).setCell ⟨X,1,none⟩ _ fun _=>rfl).setCell ⟨X,2,none⟩ _ fun _=>rfl).setCell ⟨X,3,none⟩ _ fun _=>rfl).setCell ⟨X,4,none⟩ _ fun _=>rfl).setCell ⟨X,5,none⟩ _ fun _=>rfl).setCell ⟨X,6,none⟩ _ fun _=>rfl).setCell ⟨X,7,none⟩ _ fun _=>rfl)
      have HY11:Hid (RB ((((((((w10.setCell ⟨X,0,none⟩ (.int .u32 t.c.id)).setCell ⟨X,1,none⟩ (.int .u32 t.c.sg)).setCell ⟨X,2,none⟩ (.int .u8 t.c.st)).setCell ⟨X,3,none⟩ (.bool t.c.cp)).setCell ⟨X,4,none⟩ (.bool true)).setCell ⟨X,5,none⟩ (.slice r2 n2 d2)).setCell ⟨X,6,none⟩ (.int .i64 t.c.fs)).setCell ⟨X,7,none⟩ (.int .i64 S)) Y r):=hid (HY10.out.chg hc HNE.out.1)
      have HB11:Hid (Below W.heap.size W ((((((((w10.setCell ⟨X,0,none⟩ (.int .u32 t.c.id)).setCell ⟨X,1,none⟩ (.int .u32 t.c.sg)).setCell ⟨X,2,none⟩ (.int .u8 t.c.st)).setCell ⟨X,3,none⟩ (.bool t.c.cp)).setCell ⟨X,4,none⟩ (.bool true)).setCell ⟨X,5,none⟩ (.slice r2 n2 d2)).setCell ⟨X,6,none⟩ (.int .i64 t.c.fs)).setCell ⟨X,7,none⟩ (.int .i64 S))):=hid (hc.below HB10.out HB10.out.size fun k hk=>by rw [hk];exact HNE.out.2)
      have HTV:Hid (TvM ((((((((w10.setCell ⟨X,0,none⟩ (.int .u32 t.c.id)).setCell ⟨X,1,none⟩ (.int .u32 t.c.sg)).setCell ⟨X,2,none⟩ (.int .u8 t.c.st)).setCell ⟨X,3,none⟩ (.bool t.c.cp)).setCell ⟨X,4,none⟩ (.bool true)).setCell ⟨X,5,none⟩ (.slice r2 n2 d2)).setCell ⟨X,6,none⟩ (.int .i64 t.c.fs)).setCell ⟨X,7,none⟩ (.int .i64 S)) ⟨⟨t.c.id,t.c.sg,t.c.st,t.c.cp,true,t.c.dn.dropLast,t.c.fs,S⟩,r2,n2,d2⟩):=hid (z3d (t:=⟨⟨t.c.id,t.c.sg,t.c.st,t.c.cp,true,t.c.dn.dropLast,t.c.fs,S⟩,r2,n2,d2⟩) (W:=W) HO10.out (fun a ha=>(HR10.out a ha).2) hc)
      clear hc
      go_upto_region 28 with (fail)
      clear b0 b1 b2 b3 b4 b5 b6 b7
      clear f0 f1 f2 f3 f4 f5 f6 f7 HX10 HY10 HB10
      generalize ((((((((w10.setCell ⟨X,0,none⟩ (.int .u32 t.c.id)).setCell ⟨X,1,none⟩ (.int .u32 t.c.sg)).setCell ⟨X,2,none⟩ (.int .u8 t.c.st)).setCell ⟨X,3,none⟩ (.bool t.c.cp)).setCell ⟨X,4,none⟩ (.bool true)).setCell ⟨X,5,none⟩ (.slice r2 n2 d2)).setCell ⟨X,6,none⟩ (.int .i64 t.c.fs)).setCell ⟨X,7,none⟩ (.int .i64 S))=w11 at *
      obtain⟨a0,a1,a2,a3,a4,a5,a6,a7,a8,a9⟩:=HY11.out.at
      go_wp2_with fail
      clear a0 a1 a2 a3 a4 a5 a6 a7 a8 a9
      go_ret2
      have he:=HAE.out
      cases he
      exact z0y HL.out HB11.out rfl
 · go_simp
   go_wp2_with fail
   refine (HSZ.out _ HBD.out).mono ?_
   rintro e6 w6 ⟨rfl,hb6⟩
   have hSN:Hid (RB w6 Y r):=hid (hHeld.out.later hb6)
   have HX6:=hid (z0b HXD.out hb6)
   have HB6:=hid (HBD.out.trans (hb6.mono HBD.out.size))
   clear hb6 HXD HBD HSZ
   go_wp2_with fail
   refine hK.out _ _ hSN (fun hHeld2=>?_)
   try simp only [Act.put,sIB,sCZ,sCS]
   clear hSN hK K hHeld
   have hHeld:=hHeld2
   clear hHeld2
   refine wpAnyH_ready (rs:=[1]) (by kernel_rfl) (by simp) (AllReadyH.cons rfl (fun K hK=>?_) (AllReadyH.nil))
   have c7:=z0a (j:=7) HX6.out rfl
   go_simp
   go_wp2_with fail
   have hSN:=hHeld
   refine hK.out _ _ hSN (fun hHeld2=>?_)
   try simp only [Act.put,sIB,sCZ,sCS]
   clear hSN hK K hHeld
   have hHeld:=hHeld2
   clear hHeld2
   clear c7
   have hw5:=HSW.out
   refine wpAnyH_take (i:=4) (oi:=⟨some 72,_,_,_,_,_⟩) (v:=.int .i64 S) rfl (by kernel_rfl) (by kernel_rfl) (by kernel_rfl) (fun _ _ _ h=>h) (Or.inl ⟨by rfl,fun w' hw'=>?_⟩) (by assumption) ?_
   · clear hHeld
     go_simp
   simp only [Act.put,sIB,sCZ,sCS]
   refine wpAnyH_take (i:=5) (oi:=⟨some 73,_,_,_,_,_⟩) (v:=.pointer (some ⟨X,7,none⟩)) rfl (by kernel_rfl) (by kernel_rfl) (by kernel_rfl) (fun _ _ _ h=>h) (Or.inl ⟨by rfl,fun w' hw'=>?_⟩) (by assumption) ?_
   · clear hHeld
     go_simp
   simp only [Act.put,sIB,sCZ,sCS]
   refine wpAnyH_ready (rs:=[6]) (by kernel_rfl) (by simp) (AllReadyH.cons rfl (fun K hK=>?_) (AllReadyH.nil))
   have q7:=z0a (j:=7) HX6.out rfl
   have f7:=z0m 7 HX6.out
   have HX7:Hid ((w6.setCell ⟨X,7,none⟩ (.int .i64 S)).heap[X]?=some (.cells #[.int .u32 t.c.id,.int .u32 t.c.sg,.int .u8 t.c.st,.bool t.c.cp,.bool t.c.dd,.slice t.p t.n t.m,.int .i64 t.c.fs,.int .i64 S] 58 (0,0))):=hid (z0p 7 _ HX6.out)
   have hSN:Hid (RB (w6.setCell ⟨X,7,none⟩ (.int .i64 S)) Y r):=hid (z4j hHeld.out HNE.out.1 7 _)
   have HY7:=hSN
   have HB7:Hid (Below W.heap.size W (w6.setCell ⟨X,7,none⟩ (.int .i64 S))):=hid (HB6.out.setCell HNE.out.2 _)
   clear HX6 HB6
   go_simp
   go_wp2_with fail
   refine hK.out _ _ hSN (fun hHeld2=>?_)
   try simp only [Act.put,sIB,sCZ,sCS]
   clear hSN hK K hHeld hHeld2 q7 f7 hw5
   refine wpAnyH_done (by kernel_rfl) ?_ _
   generalize w6.setCell ⟨X,7,none⟩ (.int .i64 S)=w7 at *
   obtain⟨b0,b1,b2,b3,b4,b5,b6,b7⟩:=z0g HX7.out
   go_wp2_with fail
   clear b0 b1 b2 b3 b4 b5 b6 b7
   refine (HLC.out _ HB7.out).mono ?_
   rintro e8 w8 ⟨rfl,hb8⟩
   have hbn:Below w8.heap.size w8 (w8.alloc (.cells #[.int .u8 lk.1,.int .u8 lk.2.1,.int .u8 lk.2.2,.int .i64 ld] 71)):=(Below.refl _ _).alloc (Nat.le_refl _) _
   have HZ9:=hid (z0c w8 (.cells #[.int .u8 lk.1,.int .u8 lk.2.1,.int .u8 lk.2.2,.int .i64 ld] 71))
   have HX9:=hid (z0b (z0b HX7.out hb8) hbn)
   have HY9:=hid ((HY7.out.later hb8).later hbn)
   have HB9:=hid (HB7.out.trans ((hb8.trans (hbn.mono hb8.size)).mono HB7.out.size))
   clear hb8 hbn HX7 HY7 HB7 HLC
   go_upto_region 13 with (fail)
   generalize w8.alloc (.cells #[.int .u8 lk.1,.int .u8 lk.2.1,.int .u8 lk.2.2,.int .i64 ld] 71)=w9 at *
   generalize w8.heap.size=Z at *
   cases lb with
   | false =>
    have HAE:=hid (HAP.out.trans (if_neg (fun e=>by cases e)))
    clear HAP
    have HCL:=hid (z2j ⟨⟨t.c.id,t.c.sg,t.c.st,t.c.cp,t.c.dd,t.c.dn,t.c.fs,S⟩,t.p,t.n,t.m⟩ w9 (HTW.out.later HB9.out) (Nat.le_trans HTN.out (by omega)))
    obtain⟨a0,a1,a2,a3,a4,a5,a6,a7,a8,a9⟩:=HY9.out.at
    obtain⟨b0,b1,b2,b3,b4,b5,b6,b7⟩:=z0g HX9.out
    have z0:=z0a (j:=0) HZ9.out rfl
    have z1:=z0a (j:=1) HZ9.out rfl
    have z2:=z0a (j:=2) HZ9.out rfl
    have z3:=z0a (j:=3) HZ9.out rfl
    go_wp2_with fail
    clear a0 a1 a2 a3 a4 a5 a6 a7 a8 a9
    clear b0 b1 b2 b3 b4 b5 b6 b7
    clear z0 z1 z2 z3
    refine HCL.out.mono ?_
    rintro e10 w10 ⟨r2,n2,d2,rfl,ho10,hb10,hr10⟩
    have HO10:=hid ho10
    have HR10:Hid (∀ a,r2=some a→W.heap.size≤a.block∧a.block≠X):=hid fun a ha=>⟨Nat.le_trans HB9.out.size (hr10 a ha),by have h2:=hr10 a ha;have h3:=z0k HX9.out;omega⟩
    have HX10:=hid (z0b HX9.out hb10)
    have HY10:=hid (HY9.out.later hb10)
    have HB10:=hid (HB9.out.trans (hb10.mono HB9.out.size))
    clear ho10 hb10 hr10 HX9 HY9 HB9 HCL
    obtain⟨b0,b1,b2,b3,b4,b5,b6,b7⟩:=z0g HX10.out
    obtain⟨f0,f1,f2,f3,f4,f5,f6,f7⟩:=z1y HX10.out
    have HX11:=hid (z1d (a':=.int .u32 t.c.id) (b':=.int .u32 t.c.sg) (c':=.int .u8 t.c.st) (d':=.bool t.c.cp) (e':=.bool true) (f':=.slice r2 n2 d2) (g':=.int .i64 t.c.fs) (h':=.int .i64 S) HX10.out)
    have hc:Chg (fun k=>k=X) w10 ((((((((w10.setCell ⟨X,0,none⟩ (.int .u32 t.c.id)).setCell ⟨X,1,none⟩ (.int .u32 t.c.sg)).setCell ⟨X,2,none⟩ (.int .u8 t.c.st)).setCell ⟨X,3,none⟩ (.bool t.c.cp)).setCell ⟨X,4,none⟩ (.bool true)).setCell ⟨X,5,none⟩ (.slice r2 n2 d2)).setCell ⟨X,6,none⟩ (.int .i64 t.c.fs)).setCell ⟨X,7,none⟩ (.int .i64 S)):=(((((((((Chg.refl (fun k=>k=X) w10).setCell ⟨X,0,none⟩ _ fun _=>rfl).setCell ⟨X,1,none⟩ _ fun _=>rfl).setCell ⟨X,2,none⟩ _ fun _=>rfl).setCell ⟨X,3,none⟩ _ fun _=>rfl).setCell ⟨X,4,none⟩ _ fun _=>rfl).setCell ⟨X,5,none⟩ _ fun _=>rfl).setCell ⟨X,6,none⟩ _ fun _=>rfl).setCell ⟨X,7,none⟩ _ fun _=>rfl)
    have HY11:Hid (RB ((((((((w10.setCell ⟨X,0,none⟩ (.int .u32 t.c.id)).setCell ⟨X,1,none⟩ (.int .u32 t.c.sg)).setCell ⟨X,2,none⟩ (.int .u8 t.c.st)).setCell ⟨X,3,none⟩ (.bool t.c.cp)).setCell ⟨X,4,none⟩ (.bool true)).setCell ⟨X,5,none⟩ (.slice r2 n2 d2)).setCell ⟨X,6,none⟩ (.int .i64 t.c.fs)).setCell ⟨X,7,none⟩ (.int .i64 S)) Y r):=hid (HY10.out.chg hc HNE.out.1)
    have HB11:Hid (Below W.heap.size W ((((((((w10.setCell ⟨X,0,none⟩ (.int .u32 t.c.id)).setCell ⟨X,1,none⟩ (.int .u32 t.c.sg)).setCell ⟨X,2,none⟩ (.int .u8 t.c.st)).setCell ⟨X,3,none⟩ (.bool t.c.cp)).setCell ⟨X,4,none⟩ (.bool true)).setCell ⟨X,5,none⟩ (.slice r2 n2 d2)).setCell ⟨X,6,none⟩ (.int .i64 t.c.fs)).setCell ⟨X,7,none⟩ (.int .i64 S))):=hid (hc.below HB10.out HB10.out.size fun k hk=>by rw [hk];exact HNE.out.2)
    have HTV:Hid (TvM ((((((((w10.setCell ⟨X,0,none⟩ (.int .u32 t.c.id)).setCell ⟨X,1,none⟩ (.int .u32 t.c.sg)).setCell ⟨X,2,none⟩ (.int .u8 t.c.st)).setCell ⟨X,3,none⟩ (.bool t.c.cp)).setCell ⟨X,4,none⟩ (.bool true)).setCell ⟨X,5,none⟩ (.slice r2 n2 d2)).setCell ⟨X,6,none⟩ (.int .i64 t.c.fs)).setCell ⟨X,7,none⟩ (.int .i64 S)) ⟨⟨t.c.id,t.c.sg,t.c.st,t.c.cp,true,t.c.dn.dropLast,t.c.fs,S⟩,r2,n2,d2⟩):=hid (z3d (t:=⟨⟨t.c.id,t.c.sg,t.c.st,t.c.cp,true,t.c.dn.dropLast,t.c.fs,S⟩,r2,n2,d2⟩) (W:=W) HO10.out (fun a ha=>(HR10.out a ha).2) hc)
    clear hc
    go_upto_region 28 with (fail)
    clear b0 b1 b2 b3 b4 b5 b6 b7
    clear f0 f1 f2 f3 f4 f5 f6 f7 HX10 HY10 HB10
    generalize ((((((((w10.setCell ⟨X,0,none⟩ (.int .u32 t.c.id)).setCell ⟨X,1,none⟩ (.int .u32 t.c.sg)).setCell ⟨X,2,none⟩ (.int .u8 t.c.st)).setCell ⟨X,3,none⟩ (.bool t.c.cp)).setCell ⟨X,4,none⟩ (.bool true)).setCell ⟨X,5,none⟩ (.slice r2 n2 d2)).setCell ⟨X,6,none⟩ (.int .i64 t.c.fs)).setCell ⟨X,7,none⟩ (.int .i64 S))=w11 at *
    obtain⟨a0,a1,a2,a3,a4,a5,a6,a7,a8,a9⟩:=HY11.out.at
    go_wp2_with fail
    clear a0 a1 a2 a3 a4 a5 a6 a7 a8 a9
    go_ret2
    have he:=HAE.out
    cases he
    exact z0y HL.out HB11.out rfl
   | true =>
    have qn:=fun W=>key_neq lk.1 lk.2.1 lk.2.2 r.ka r.kb r.kc W
    have hdq:decide (((lk.1,lk.2.1,lk.2.2):K)=(r.ka,r.kb,r.kc))=decide (lk=(r.ka,r.kb,r.kc)):=rfl
    rw [hdq] at qn
    clear hdq
    by_cases hK:lk=(r.ka,r.kb,r.kc)
    · by_cases hD:ld=r.d
      · have HAE:=hid (HAP.out.trans (if_pos (by rw [hK,hD];rfl)))
        rw [decide_eq_true hK] at qn
        have qd:(ld != r.d)=false:=by simp [hD]
        have HHK2:=hid (And.intro hK hD)
        clear hK hD HAP
        have HCL:=hid (z2j ⟨⟨t.c.id,t.c.sg,t.c.st,t.c.cp,t.c.dd,t.c.dn,t.c.fs,S⟩,t.p,t.n,t.m⟩ w9 (HTW.out.later HB9.out) (Nat.le_trans HTN.out (by omega)))
        obtain⟨a0,a1,a2,a3,a4,a5,a6,a7,a8,a9⟩:=HY9.out.at
        obtain⟨b0,b1,b2,b3,b4,b5,b6,b7⟩:=z0g HX9.out
        have z0:=z0a (j:=0) HZ9.out rfl
        have z1:=z0a (j:=1) HZ9.out rfl
        have z2:=z0a (j:=2) HZ9.out rfl
        have z3:=z0a (j:=3) HZ9.out rfl
        go_wp2_with fail
        clear a0 a1 a2 a3 a4 a5 a6 a7 a8 a9
        clear b0 b1 b2 b3 b4 b5 b6 b7
        clear z0 z1 z2 z3
        refine HCL.out.mono ?_
        rintro e10 w10 ⟨r2,n2,d2,rfl,ho10,hb10,hr10⟩
        have HO10:=hid ho10
        have HR10:Hid (∀ a,r2=some a→W.heap.size≤a.block∧a.block≠X):=hid fun a ha=>⟨Nat.le_trans HB9.out.size (hr10 a ha),by have h2:=hr10 a ha;have h3:=z0k HX9.out;omega⟩
        have HX10:=hid (z0b HX9.out hb10)
        have HY10:=hid (HY9.out.later hb10)
        have HB10:=hid (HB9.out.trans (hb10.mono HB9.out.size))
        clear ho10 hb10 hr10 HX9 HY9 HB9 HCL
        obtain⟨b0,b1,b2,b3,b4,b5,b6,b7⟩:=z0g HX10.out
        obtain⟨f0,f1,f2,f3,f4,f5,f6,f7⟩:=z1y HX10.out
        have HX11:=hid (z1d (a':=.int .u32 t.c.id) (b':=.int .u32 t.c.sg) (c':=.int .u8 t.c.st) (d':=.bool t.c.cp) (e':=.bool true) (f':=.slice r2 n2 d2) (g':=.int .i64 t.c.fs) (h':=.int .i64 S) HX10.out)
        have hc:Chg (fun k=>k=X) w10 ((((((((w10.setCell ⟨X,0,none⟩ (.int .u32 t.c.id)).setCell ⟨X,1,none⟩ (.int .u32 t.c.sg)).setCell ⟨X,2,none⟩ (.int .u8 t.c.st)).setCell ⟨X,3,none⟩ (.bool t.c.cp)).setCell ⟨X,4,none⟩ (.bool true)).setCell ⟨X,5,none⟩ (.slice r2 n2 d2)).setCell ⟨X,6,none⟩ (.int .i64 t.c.fs)).setCell ⟨X,7,none⟩ (.int .i64 S)):=(((((((((Chg.refl (fun k=>k=X) w10).setCell ⟨X,0,none⟩ _ fun _=>rfl).setCell ⟨X,1,none⟩ _ fun _=>rfl).setCell ⟨X,2,none⟩ _ fun _=>rfl).setCell ⟨X,3,none⟩ _ fun _=>rfl).setCell ⟨X,4,none⟩ _ fun _=>rfl).setCell ⟨X,5,none⟩ _ fun _=>rfl).setCell ⟨X,6,none⟩ _ fun _=>rfl).setCell ⟨X,7,none⟩ _ fun _=>rfl)
        have HY11:Hid (RB ((((((((w10.setCell ⟨X,0,none⟩ (.int .u32 t.c.id)).setCell ⟨X,1,none⟩ (.int .u32 t.c.sg)).setCell ⟨X,2,none⟩ (.int .u8 t.c.st)).setCell ⟨X,3,none⟩ (.bool t.c.cp)).setCell ⟨X,4,none⟩ (.bool true)).setCell ⟨X,5,none⟩ (.slice r2 n2 d2)).setCell ⟨X,6,none⟩ (.int .i64 t.c.fs)).setCell ⟨X,7,none⟩ (.int .i64 S)) Y r):=hid (HY10.out.chg hc HNE.out.1)
        have HB11:Hid (Below W.heap.size W ((((((((w10.setCell ⟨X,0,none⟩ (.int .u32 t.c.id)).setCell ⟨X,1,none⟩ (.int .u32 t.c.sg)).setCell ⟨X,2,none⟩ (.int .u8 t.c.st)).setCell ⟨X,3,none⟩ (.bool t.c.cp)).setCell ⟨X,4,none⟩ (.bool true)).setCell ⟨X,5,none⟩ (.slice r2 n2 d2)).setCell ⟨X,6,none⟩ (.int .i64 t.c.fs)).setCell ⟨X,7,none⟩ (.int .i64 S))):=hid (hc.below HB10.out HB10.out.size fun k hk=>by rw [hk];exact HNE.out.2)
        have HTV:Hid (TvM ((((((((w10.setCell ⟨X,0,none⟩ (.int .u32 t.c.id)).setCell ⟨X,1,none⟩ (.int .u32 t.c.sg)).setCell ⟨X,2,none⟩ (.int .u8 t.c.st)).setCell ⟨X,3,none⟩ (.bool t.c.cp)).setCell ⟨X,4,none⟩ (.bool true)).setCell ⟨X,5,none⟩ (.slice r2 n2 d2)).setCell ⟨X,6,none⟩ (.int .i64 t.c.fs)).setCell ⟨X,7,none⟩ (.int .i64 S)) ⟨⟨t.c.id,t.c.sg,t.c.st,t.c.cp,true,t.c.dn.dropLast,t.c.fs,S⟩,r2,n2,d2⟩):=hid (z3d (t:=⟨⟨t.c.id,t.c.sg,t.c.st,t.c.cp,true,t.c.dn.dropLast,t.c.fs,S⟩,r2,n2,d2⟩) (W:=W) HO10.out (fun a ha=>(HR10.out a ha).2) hc)
        clear hc
        go_upto_region 28 with (fail)
        clear b0 b1 b2 b3 b4 b5 b6 b7
        clear f0 f1 f2 f3 f4 f5 f6 f7 HX10 HY10 HB10
        generalize ((((((((w10.setCell ⟨X,0,none⟩ (.int .u32 t.c.id)).setCell ⟨X,1,none⟩ (.int .u32 t.c.sg)).setCell ⟨X,2,none⟩ (.int .u8 t.c.st)).setCell ⟨X,3,none⟩ (.bool t.c.cp)).setCell ⟨X,4,none⟩ (.bool true)).setCell ⟨X,5,none⟩ (.slice r2 n2 d2)).setCell ⟨X,6,none⟩ (.int .i64 t.c.fs)).setCell ⟨X,7,none⟩ (.int .i64 S))=w11 at *
        obtain⟨a0,a1,a2,a3,a4,a5,a6,a7,a8,a9⟩:=HY11.out.at
        obtain⟨b0,b1,b2,b3,b4,b5,b6,b7⟩:=z0g HX11.out
        have HWT:=hid (z3r p n c L ⟨⟨t.c.id,t.c.sg,t.c.st,t.c.cp,true,t.c.dn.dropLast,t.c.fs,S⟩,r2,n2,d2⟩ w11 (HL.out.row.later HB11.out) (by have:=HNN.out;omega))
        go_wp2_with fail
        clear a0 a1 a2 a3 a4 a5 a6 a7 a8 a9 b0 b1 b2 b3 b4 b5 b6 b7
        refine HWT.out.mono ?_
        rintro e12 w12 hg12
        have he:=HAE.out
        cases he
        obtain⟨v,hv⟩:∃ v,e12=.returned v:=by obtain⟨r1,d1,h1,_⟩:=hg12;exact⟨_,h1⟩
        subst hv
        obtain⟨r1,m1,d1,rfl,hga⟩:=z3n HL.out ⟨⟨t.c.id,t.c.sg,t.c.st,t.c.cp,true,t.c.dn.dropLast,t.c.fs,S⟩,r2,n2,d2⟩ HTV.out (.inr fun a ha=>(HR10.out a ha).1) HB11.out hg12 rfl
        have HGA:=hid hga
        clear hga hg12 HWT
        go_wp2_with fail
        go_ret2
        exact HGA.out
      · have HAE:=hid (HAP.out.trans (if_neg (fun e=>hD (by have h2:=congrArg (fun x:O × Bool=>x.1.2) e;exact h2))))
        rw [decide_eq_true hK] at qn
        have qd:(ld != r.d)=true:=by simp [hD]
        have HHK2:=hid (And.intro hK hD)
        clear hK hD HAP
        have HCL:=hid (z2j ⟨⟨t.c.id,t.c.sg,t.c.st,t.c.cp,t.c.dd,t.c.dn,t.c.fs,S⟩,t.p,t.n,t.m⟩ w9 (HTW.out.later HB9.out) (Nat.le_trans HTN.out (by omega)))
        obtain⟨a0,a1,a2,a3,a4,a5,a6,a7,a8,a9⟩:=HY9.out.at
        obtain⟨b0,b1,b2,b3,b4,b5,b6,b7⟩:=z0g HX9.out
        have z0:=z0a (j:=0) HZ9.out rfl
        have z1:=z0a (j:=1) HZ9.out rfl
        have z2:=z0a (j:=2) HZ9.out rfl
        have z3:=z0a (j:=3) HZ9.out rfl
        go_wp2_with fail
        clear a0 a1 a2 a3 a4 a5 a6 a7 a8 a9
        clear b0 b1 b2 b3 b4 b5 b6 b7
        clear z0 z1 z2 z3
        refine HCL.out.mono ?_
        rintro e10 w10 ⟨r2,n2,d2,rfl,ho10,hb10,hr10⟩
        have HO10:=hid ho10
        have HR10:Hid (∀ a,r2=some a→W.heap.size≤a.block∧a.block≠X):=hid fun a ha=>⟨Nat.le_trans HB9.out.size (hr10 a ha),by have h2:=hr10 a ha;have h3:=z0k HX9.out;omega⟩
        have HX10:=hid (z0b HX9.out hb10)
        have HY10:=hid (HY9.out.later hb10)
        have HB10:=hid (HB9.out.trans (hb10.mono HB9.out.size))
        clear ho10 hb10 hr10 HX9 HY9 HB9 HCL
        obtain⟨b0,b1,b2,b3,b4,b5,b6,b7⟩:=z0g HX10.out
        obtain⟨f0,f1,f2,f3,f4,f5,f6,f7⟩:=z1y HX10.out
        have HX11:=hid (z1d (a':=.int .u32 t.c.id) (b':=.int .u32 t.c.sg) (c':=.int .u8 t.c.st) (d':=.bool t.c.cp) (e':=.bool true) (f':=.slice r2 n2 d2) (g':=.int .i64 t.c.fs) (h':=.int .i64 S) HX10.out)
        have hc:Chg (fun k=>k=X) w10 ((((((((w10.setCell ⟨X,0,none⟩ (.int .u32 t.c.id)).setCell ⟨X,1,none⟩ (.int .u32 t.c.sg)).setCell ⟨X,2,none⟩ (.int .u8 t.c.st)).setCell ⟨X,3,none⟩ (.bool t.c.cp)).setCell ⟨X,4,none⟩ (.bool true)).setCell ⟨X,5,none⟩ (.slice r2 n2 d2)).setCell ⟨X,6,none⟩ (.int .i64 t.c.fs)).setCell ⟨X,7,none⟩ (.int .i64 S)):=(((((((((Chg.refl (fun k=>k=X) w10).setCell ⟨X,0,none⟩ _ fun _=>rfl).setCell ⟨X,1,none⟩ _ fun _=>rfl).setCell ⟨X,2,none⟩ _ fun _=>rfl).setCell ⟨X,3,none⟩ _ fun _=>rfl).setCell ⟨X,4,none⟩ _ fun _=>rfl).setCell ⟨X,5,none⟩ _ fun _=>rfl).setCell ⟨X,6,none⟩ _ fun _=>rfl).setCell ⟨X,7,none⟩ _ fun _=>rfl)
        have HY11:Hid (RB ((((((((w10.setCell ⟨X,0,none⟩ (.int .u32 t.c.id)).setCell ⟨X,1,none⟩ (.int .u32 t.c.sg)).setCell ⟨X,2,none⟩ (.int .u8 t.c.st)).setCell ⟨X,3,none⟩ (.bool t.c.cp)).setCell ⟨X,4,none⟩ (.bool true)).setCell ⟨X,5,none⟩ (.slice r2 n2 d2)).setCell ⟨X,6,none⟩ (.int .i64 t.c.fs)).setCell ⟨X,7,none⟩ (.int .i64 S)) Y r):=hid (HY10.out.chg hc HNE.out.1)
        have HB11:Hid (Below W.heap.size W ((((((((w10.setCell ⟨X,0,none⟩ (.int .u32 t.c.id)).setCell ⟨X,1,none⟩ (.int .u32 t.c.sg)).setCell ⟨X,2,none⟩ (.int .u8 t.c.st)).setCell ⟨X,3,none⟩ (.bool t.c.cp)).setCell ⟨X,4,none⟩ (.bool true)).setCell ⟨X,5,none⟩ (.slice r2 n2 d2)).setCell ⟨X,6,none⟩ (.int .i64 t.c.fs)).setCell ⟨X,7,none⟩ (.int .i64 S))):=hid (hc.below HB10.out HB10.out.size fun k hk=>by rw [hk];exact HNE.out.2)
        have HTV:Hid (TvM ((((((((w10.setCell ⟨X,0,none⟩ (.int .u32 t.c.id)).setCell ⟨X,1,none⟩ (.int .u32 t.c.sg)).setCell ⟨X,2,none⟩ (.int .u8 t.c.st)).setCell ⟨X,3,none⟩ (.bool t.c.cp)).setCell ⟨X,4,none⟩ (.bool true)).setCell ⟨X,5,none⟩ (.slice r2 n2 d2)).setCell ⟨X,6,none⟩ (.int .i64 t.c.fs)).setCell ⟨X,7,none⟩ (.int .i64 S)) ⟨⟨t.c.id,t.c.sg,t.c.st,t.c.cp,true,t.c.dn.dropLast,t.c.fs,S⟩,r2,n2,d2⟩):=hid (z3d (t:=⟨⟨t.c.id,t.c.sg,t.c.st,t.c.cp,true,t.c.dn.dropLast,t.c.fs,S⟩,r2,n2,d2⟩) (W:=W) HO10.out (fun a ha=>(HR10.out a ha).2) hc)
        clear hc
        go_upto_region 28 with (fail)
        clear b0 b1 b2 b3 b4 b5 b6 b7
        clear f0 f1 f2 f3 f4 f5 f6 f7 HX10 HY10 HB10
        generalize ((((((((w10.setCell ⟨X,0,none⟩ (.int .u32 t.c.id)).setCell ⟨X,1,none⟩ (.int .u32 t.c.sg)).setCell ⟨X,2,none⟩ (.int .u8 t.c.st)).setCell ⟨X,3,none⟩ (.bool t.c.cp)).setCell ⟨X,4,none⟩ (.bool true)).setCell ⟨X,5,none⟩ (.slice r2 n2 d2)).setCell ⟨X,6,none⟩ (.int .i64 t.c.fs)).setCell ⟨X,7,none⟩ (.int .i64 S))=w11 at *
        obtain⟨a0,a1,a2,a3,a4,a5,a6,a7,a8,a9⟩:=HY11.out.at
        go_wp2_with fail
        clear a0 a1 a2 a3 a4 a5 a6 a7 a8 a9
        go_ret2
        have he:=HAE.out
        cases he
        exact z0y HL.out HB11.out rfl
    · have HAE:=hid (HAP.out.trans (if_neg (fun e=>hK (by have h2:=congrArg (fun x:O × Bool=>x.1.1) e;exact h2))))
      rw [decide_eq_false hK] at qn
      have HHK2:=hid hK
      clear hK HAP
      have HCL:=hid (z2j ⟨⟨t.c.id,t.c.sg,t.c.st,t.c.cp,t.c.dd,t.c.dn,t.c.fs,S⟩,t.p,t.n,t.m⟩ w9 (HTW.out.later HB9.out) (Nat.le_trans HTN.out (by omega)))
      obtain⟨a0,a1,a2,a3,a4,a5,a6,a7,a8,a9⟩:=HY9.out.at
      obtain⟨b0,b1,b2,b3,b4,b5,b6,b7⟩:=z0g HX9.out
      have z0:=z0a (j:=0) HZ9.out rfl
      have z1:=z0a (j:=1) HZ9.out rfl
      have z2:=z0a (j:=2) HZ9.out rfl
      have z3:=z0a (j:=3) HZ9.out rfl
      go_wp2_with fail
      clear a0 a1 a2 a3 a4 a5 a6 a7 a8 a9
      clear b0 b1 b2 b3 b4 b5 b6 b7
      clear z0 z1 z2 z3
      refine HCL.out.mono ?_
      rintro e10 w10 ⟨r2,n2,d2,rfl,ho10,hb10,hr10⟩
      have HO10:=hid ho10
      have HR10:Hid (∀ a,r2=some a→W.heap.size≤a.block∧a.block≠X):=hid fun a ha=>⟨Nat.le_trans HB9.out.size (hr10 a ha),by have h2:=hr10 a ha;have h3:=z0k HX9.out;omega⟩
      have HX10:=hid (z0b HX9.out hb10)
      have HY10:=hid (HY9.out.later hb10)
      have HB10:=hid (HB9.out.trans (hb10.mono HB9.out.size))
      clear ho10 hb10 hr10 HX9 HY9 HB9 HCL
      obtain⟨b0,b1,b2,b3,b4,b5,b6,b7⟩:=z0g HX10.out
      obtain⟨f0,f1,f2,f3,f4,f5,f6,f7⟩:=z1y HX10.out
      have HX11:=hid (z1d (a':=.int .u32 t.c.id) (b':=.int .u32 t.c.sg) (c':=.int .u8 t.c.st) (d':=.bool t.c.cp) (e':=.bool true) (f':=.slice r2 n2 d2) (g':=.int .i64 t.c.fs) (h':=.int .i64 S) HX10.out)
      have hc:Chg (fun k=>k=X) w10 ((((((((w10.setCell ⟨X,0,none⟩ (.int .u32 t.c.id)).setCell ⟨X,1,none⟩ (.int .u32 t.c.sg)).setCell ⟨X,2,none⟩ (.int .u8 t.c.st)).setCell ⟨X,3,none⟩ (.bool t.c.cp)).setCell ⟨X,4,none⟩ (.bool true)).setCell ⟨X,5,none⟩ (.slice r2 n2 d2)).setCell ⟨X,6,none⟩ (.int .i64 t.c.fs)).setCell ⟨X,7,none⟩ (.int .i64 S)):=(((((((((Chg.refl (fun k=>k=X) w10).setCell ⟨X,0,none⟩ _ fun _=>rfl).setCell ⟨X,1,none⟩ _ fun _=>rfl).setCell ⟨X,2,none⟩ _ fun _=>rfl).setCell ⟨X,3,none⟩ _ fun _=>rfl).setCell ⟨X,4,none⟩ _ fun _=>rfl).setCell ⟨X,5,none⟩ _ fun _=>rfl).setCell ⟨X,6,none⟩ _ fun _=>rfl).setCell ⟨X,7,none⟩ _ fun _=>rfl)
      have HY11:Hid (RB ((((((((w10.setCell ⟨X,0,none⟩ (.int .u32 t.c.id)).setCell ⟨X,1,none⟩ (.int .u32 t.c.sg)).setCell ⟨X,2,none⟩ (.int .u8 t.c.st)).setCell ⟨X,3,none⟩ (.bool t.c.cp)).setCell ⟨X,4,none⟩ (.bool true)).setCell ⟨X,5,none⟩ (.slice r2 n2 d2)).setCell ⟨X,6,none⟩ (.int .i64 t.c.fs)).setCell ⟨X,7,none⟩ (.int .i64 S)) Y r):=hid (HY10.out.chg hc HNE.out.1)
      have HB11:Hid (Below W.heap.size W ((((((((w10.setCell ⟨X,0,none⟩ (.int .u32 t.c.id)).setCell ⟨X,1,none⟩ (.int .u32 t.c.sg)).setCell ⟨X,2,none⟩ (.int .u8 t.c.st)).setCell ⟨X,3,none⟩ (.bool t.c.cp)).setCell ⟨X,4,none⟩ (.bool true)).setCell ⟨X,5,none⟩ (.slice r2 n2 d2)).setCell ⟨X,6,none⟩ (.int .i64 t.c.fs)).setCell ⟨X,7,none⟩ (.int .i64 S))):=hid (hc.below HB10.out HB10.out.size fun k hk=>by rw [hk];exact HNE.out.2)
      have HTV:Hid (TvM ((((((((w10.setCell ⟨X,0,none⟩ (.int .u32 t.c.id)).setCell ⟨X,1,none⟩ (.int .u32 t.c.sg)).setCell ⟨X,2,none⟩ (.int .u8 t.c.st)).setCell ⟨X,3,none⟩ (.bool t.c.cp)).setCell ⟨X,4,none⟩ (.bool true)).setCell ⟨X,5,none⟩ (.slice r2 n2 d2)).setCell ⟨X,6,none⟩ (.int .i64 t.c.fs)).setCell ⟨X,7,none⟩ (.int .i64 S)) ⟨⟨t.c.id,t.c.sg,t.c.st,t.c.cp,true,t.c.dn.dropLast,t.c.fs,S⟩,r2,n2,d2⟩):=hid (z3d (t:=⟨⟨t.c.id,t.c.sg,t.c.st,t.c.cp,true,t.c.dn.dropLast,t.c.fs,S⟩,r2,n2,d2⟩) (W:=W) HO10.out (fun a ha=>(HR10.out a ha).2) hc)
      clear hc
      go_upto_region 28 with (fail)
      clear b0 b1 b2 b3 b4 b5 b6 b7
      clear f0 f1 f2 f3 f4 f5 f6 f7 HX10 HY10 HB10
      generalize ((((((((w10.setCell ⟨X,0,none⟩ (.int .u32 t.c.id)).setCell ⟨X,1,none⟩ (.int .u32 t.c.sg)).setCell ⟨X,2,none⟩ (.int .u8 t.c.st)).setCell ⟨X,3,none⟩ (.bool t.c.cp)).setCell ⟨X,4,none⟩ (.bool true)).setCell ⟨X,5,none⟩ (.slice r2 n2 d2)).setCell ⟨X,6,none⟩ (.int .i64 t.c.fs)).setCell ⟨X,7,none⟩ (.int .i64 S))=w11 at *
      obtain⟨a0,a1,a2,a3,a4,a5,a6,a7,a8,a9⟩:=HY11.out.at
      go_wp2_with fail
      clear a0 a1 a2 a3 a4 a5 a6 a7 a8 a9
      go_ret2
      have he:=HAE.out
      cases he
      exact z0y HL.out HB11.out rfl
end Go.Proofs.YtnpjpelbcmgodaaGreatDoor
