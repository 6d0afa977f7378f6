import Derived.Test.YtclbkfpbdidaiaaGreatDoorPC99
import Derived.Test.YtclbkfpbdidaiaaGreatDoorPC28
import Derived.Test.YtclbkfpbdidaiaaGreatDoorPC31
import Derived.Test.YtclbkfpbdidaiaaGreatDoorPC30
import Derived.Test.YtclbkfpbdidaiaaGreatDoorPC36
namespace Go.Proofs.YtclbkfpbdidaiaaGreatDoor
open Go.Lib (hid)
set_option maxHeartbeats 8000000
open Go.RowKit Go.ChangeShapes Go.WideShapes
set_option linter.unusedVariables false
set_option linter.unusedSimpArgs false
set_option maxRecDepth 10000
def q1l (W:World) (X:Rx) (e:Ending) (w':World):Prop:=Below W.heap.size W w'∧if z1j X=true then ∃ p c,e=.returned (.tuple #[.slice p (z0r X).length c,.int .i64 0])∧Sl w' p (z0r X).length c (z0r X) else e=.returned (.tuple #[.slice none 0 0,.int .i64 1])
theorem rec_write_any (r:Rv) (L:List Ln) (T:List Tk) (M:List Ln) (W:World) (hok:Rxok (r.x L T M)) (hk:kOk r.k=true) (hw:Words W) (hP:RvM W r L T M) (h1:r.ln≤400∧r.tn≤400∧r.wn≤400) (hg:r.k=1→z0l 4 4 (r.pg L T M)=true):Calls Tryz.prog 78 #[.agg (rcs r)] W (z3h W (z0r (r.x L T M))):=by
 rcases z7h hk with h | h | h | h | h | h | h | h | h
 · exact rec_write1 r L T M W hok h hw hP h1 (hg h)
 · exact rec_write2 r L T M W hok h
 · exact rec_write3 r L T M W hok h
 · exact rec_write4 r L T M W hok h
 · exact rec_write5 r L T M W hok h
 · exact rec_write6 r L T M W hok h
 · exact rec_write7 r L T M W hok h
 · exact rec_write8 r L T M W hok h
 · exact rec_write9 r L T M W hok h
theorem rec_encode (r:Rv) (L:List Ln) (T:List Tk) (M:List Ln) (W:World) (hw:Words W) (hP:RvM W r L T M) (hok:Rxok (r.x L T M)) (h1:r.ln≤400∧r.tn≤400∧r.wn≤400):Calls Tryz.prog 61 #[.agg (rcs r)] W (q1l W (r.x L T M)):=by
 obtain⟨W1,hW1,hb1⟩:∃ W1,W.alloc (.cells (rcs r) 42)=W1∧Below W.heap.size W W1:=⟨_,rfl,(Below.refl _ _).alloc (Nat.le_refl _) _⟩
 obtain⟨B,hB⟩:∃ B,W.heap.size=B:=⟨_,rfl⟩
 have hrb:=RB.new W r
 rw [hW1,hB] at hrb
 have HX1:=hid hrb
 have HW1:=hid hW1
 have HB1:=hid hb1
 have HRE:=hid hB
 clear hW1 hb1 hB hrb
 have hgd:=z8j r L T M W1 (hw.later HB1.out) (hP.later HB1.out) hok h1
 have HWR:=hid (fun (h:z1j (r.x L T M)=true) W' (hb:Below W.heap.size W W')=>rec_write_any r L T M W' hok (z7k h) (hw.later hb) (hP.later hb) h1 (fun hk=>by have:=z8b h;rw [show (r.x L T M).k=1 from hk] at this;exact this))
 clear hw hP hok h1
 cases hg:z1j (r.x L T M) with
 | false =>
  rw [hg] at hgd
  have HG:=hid hg
  clear hg
  go_enter Tryz.func61,Tryz.ntmps61
  go_upto_region 1 with (fail)
  rw [HW1.out,HRE.out]
  go_wp2_with ((with_reducible refine z0j HX1.out ?_ ?_);rfl)
  refine hgd.mono ?_
  rintro e w2 ⟨rfl,h2⟩
  have HF:Hid (q1l W (r.x L T M) (.returned (.tuple #[.slice none 0 0,.int .i64 1])) w2):=hid ⟨HB1.out.trans (h2.mono HB1.out.size),by rw [HG.out,if_neg (by decide)]⟩
  clear h2 hgd
  go_wp2_with fail
  go_ret2
  exact HF.out
 | true =>
  rw [hg] at hgd
  have HG:=hid hg
  clear hg
  go_enter Tryz.func61,Tryz.ntmps61
  go_upto_region 1 with (fail)
  rw [HW1.out,HRE.out]
  go_wp2_with ((with_reducible refine z0j HX1.out ?_ ?_);rfl)
  refine hgd.mono ?_
  rintro e w2 ⟨rfl,h2⟩
  have HB2:=hid (HB1.out.trans (h2.mono HB1.out.size))
  have HX2:=hid (HX1.out.later h2)
  clear h2 hgd
  go_wp2_with ((with_reducible refine z0j HX2.out ?_ ?_);rfl)
  refine (HWR.out HG.out w2 HB2.out).mono ?_
  rintro e w3 ⟨p3,c3,rfl,hs3,hb3⟩
  have HF:Hid (q1l W (r.x L T M) (.returned (.tuple #[.slice p3 (z0r (r.x L T M)).length c3,.int .i64 0])) w3):=hid ⟨HB2.out.trans (hb3.mono HB2.out.size),by rw [HG.out,if_pos rfl];exact⟨p3,c3,rfl,hs3⟩⟩
  clear hs3 hb3
  generalize (z0r (r.x L T M)).length=n at *
  go_wp2_with fail
  go_ret2
  exact HF.out
def costI (k:Int):Int:=if kOk k=true∧k≠1 then 6+(lenK k:Int) else 0
theorem noP_ok:Pgok noP:=⟨by simp [noP],by simp [noP],by simp [noP],(fun x hx=>by cases hx),(fun x hx=>by cases hx),(fun x hx=>by cases hx),by simp [noP],by simp [noP],by simp [noP],by simp [noP,In64]⟩
def z1e (X:Rx):Int:=if z1j X=true then 6+((z0r X).length:Int) else 0
theorem good_len {X:Rx} (h:z1j X=true):5≤(z0r X).length∧(z0r X).length≤407:=by
 have hk:=z7k h
 have hp:=z8b h
 rw [bytes_len hk]
 rcases z7h hk with h | h | h | h | h | h | h | h | h <;> rw [h]
 · rw [h] at hp
   have hp':z0l 4 4 X.pg=true:=hp
   have:=pg_few hp'
   simp [lenK];omega
 all_goals simp [lenK]
theorem q1o (r:Rv) (L:List Ln) (T:List Tk) (M:List Ln) (W:World) (hw:Words W) (hP:RvM W r L T M) (hok:Rxok (r.x L T M)) (h1:r.ln≤400∧r.tn≤400∧r.wn≤400):Calls Tryz.prog 28 #[.agg (rcs r)] W fun e w'=>e=.returned (.int .i64 (z1e (r.x L T M)))∧Below W.heap.size W w':=by
 obtain⟨W1,hW1,hb1⟩:∃ W1,W.alloc (.cells (rcs r) 42)=W1∧Below W.heap.size W W1:=⟨_,rfl,(Below.refl _ _).alloc (Nat.le_refl _) _⟩
 obtain⟨B,hB⟩:∃ B,W.heap.size=B:=⟨_,rfl⟩
 have hrb:=RB.new W r
 rw [hW1,hB] at hrb
 have HX1:=hid hrb
 have HW1:=hid hW1
 have HB1:=hid hb1
 have HRE:=hid hB
 clear hW1 hb1 hB hrb
 have hen:=rec_encode r L T M W1 (hw.later HB1.out) (hP.later HB1.out) hok h1
 clear hw hP hok h1
 cases hg:z1j (r.x L T M) with
 | false =>
  have HG:Hid (z1e (r.x L T M)=0):=hid (by unfold z1e;rw [hg];rfl)
  have HGD:=hid hg
  clear hg
  go_enter Tryz.func28,Tryz.ntmps28
  go_upto_region 1 with (fail)
  rw [HW1.out,HRE.out]
  go_wp2_with ((with_reducible refine z0j HX1.out ?_ ?_);rfl)
  refine hen.mono ?_
  rintro e w2 ⟨hb2,hy⟩
  rw [HGD.out,if_neg (by decide)] at hy
  subst hy
  have HB2:=hid (HB1.out.trans (hb2.mono HB1.out.size))
  clear hb2 hen
  go_wp2_with fail
  refine (fsize_any _ _).mono ?_
  rintro e w3 ⟨rfl,rfl⟩
  go_wp2_with fail
  go_ret
  exact⟨by rw [HG.out];rfl,HB2.out⟩
 | true =>
  have hl:=good_len hg
  have HG:Hid (z1e (r.x L T M)=6+((z0r (r.x L T M)).length:Int)):=hid (if_pos hg)
  have HGD:=hid hg
  clear hg
  go_enter Tryz.func28,Tryz.ntmps28
  go_upto_region 1 with (fail)
  rw [HW1.out,HRE.out]
  go_wp2_with ((with_reducible refine z0j HX1.out ?_ ?_);rfl)
  refine hen.mono ?_
  rintro e w2 ⟨hb2,hy⟩
  rw [HGD.out,if_pos rfl] at hy
  obtain⟨p2,c2,rfl,_⟩:=hy
  have HB2:=hid (HB1.out.trans (hb2.mono HB1.out.size))
  clear hb2 hen
  generalize (z0r (r.x L T M)).length=n at *
  have HL:=hid hl
  clear hl
  go_wp2_with fail
  refine (fsize_any _ _).mono ?_
  rintro e w3 ⟨rfl,rfl⟩
  rw [show q2g (n:Int)=6+(n:Int) from if_neg (by have:=HL.out;omega)]
  go_wp2_with fail
  go_ret
  exact⟨by rw [HG.out];rfl,HB2.out⟩
def appC (M:List Tc) (at_:Int) (X:Rx):List Tc × Int :=
 if z1j X=false∨X.k<2∨7<X.k then (M,1)
 else if X.k=2 then
  if (getT Tc.id M X.tx).isSome=true∨(getT Tc.sg M X.sg).isSome=true then (M,11)
  else (z1x Tc.id M ⟨X.tx,X.sg,X.st,X.cp,false,[],at_,z1e X⟩,0)
 else match getT Tc.id M X.tx with
  | none=>(M,10)
  | some t =>
   if X.k=3 then (if t.dd=true∨6≤t.dn.length then (M,12) else (z1x Tc.id M { t with dn:=t.dn ++ [(X.key,X.d)],sz:=t.sz+z1e X },0))
   else if X.k=4 then (if t.dd=true then (M,12) else (z1v Tc.id M X.tx,0))
   else if X.k=5 then (if t.dd=true then (M,12) else (z1x Tc.id M { t with dd:=true,sz:=t.sz+z1e X },0))
   else if X.k=6 then (if z2r t=((X.key,X.d),true) then (z1x Tc.id M { t with dn:=t.dn.dropLast,dd:=true,sz:=t.sz+z1e X },0) else (M,12))
   else (if t.dn=[] then (z1v Tc.id M X.tx,0) else (M,12))
theorem z2z {a:Act} {w:World} {dst:Option Tmp} {x:Operand} {ty:TypeId} {pos:String} {after:Array Edge} {gd:Option (Nat × Bool)} {B:Nat} {r:Rv} (hx:a.eval x=.pointer (some ⟨B,0,none⟩)) (hC:RB w B r) :
 (execOp a.eval (Oper.mk dst (.load 42 x) ty pos after gd)).run Tryz.prog w=.ok (.value (.agg (rcs r))) w:=by
 unfold execOp
 simp only [hx,Instr.loadAt,Instr.sureAddr,Sem.run_bind,Sem.run_pure,Result.andThen_ok,run_loadVar_row w B 42 42 (rcs r) (0,0) _ hC Tryz.underlying42 rfl (by kernel_rfl)]
theorem z8i {X:Rx} (hg:z1j X=true):0≤z1e X∧z1e X≤10000:=by
 have hl:=good_len hg
 unfold z1e
 rw [if_pos hg]
 omega
theorem z9e {M:List Tc} {at_:Int} {X:Rx} {t:Tc} (hg:z1j X=true) (h3:3≤X.k∧X.k≤7) (ht:getT Tc.id M X.tx=some t):appC M at_ X =
 if X.k=3 then (if t.dd=true∨6≤t.dn.length then (M,12) else (z1x Tc.id M ⟨t.id,t.sg,t.st,t.cp,t.dd,t.dn ++ [(X.key,X.d)],t.fs,t.sz+z1e X⟩,0))
  else if X.k=4 then (if t.dd=true then (M,12) else (z1v Tc.id M X.tx,0))
  else if X.k=5 then (if t.dd=true then (M,12) else (z1x Tc.id M ⟨t.id,t.sg,t.st,t.cp,true,t.dn,t.fs,t.sz+z1e X⟩,0))
  else if X.k=6 then (if z2r t=((X.key,X.d),true) then (z1x Tc.id M ⟨t.id,t.sg,t.st,t.cp,true,t.dn.dropLast,t.fs,t.sz+z1e X⟩,0) else (M,12))
  else (if t.dn=[] then (z1v Tc.id M X.tx,0) else (M,12)):=by
 unfold appC
 rw [if_neg (by rw [hg];simp;omega),if_neg (by omega),ht]
theorem q1u {at_:Int} (M:List Tc) (X:Rx) {t:Tc} (hg:z1j X=true) (hk:X.k=3) (ht:getT Tc.id M X.tx=some t):appC M at_ X=(if t.dd=true∨6≤t.dn.length then (M,12) else (z1x Tc.id M ⟨t.id,t.sg,t.st,t.cp,t.dd,t.dn ++ [(X.key,X.d)],t.fs,t.sz+z1e X⟩,0)):=by
 rw [z9e hg (by omega) ht]
 simp [hk]
theorem q2l {at_:Int} (M:List Tc) (X:Rx) {t:Tc} (hg:z1j X=true) (hk:X.k=4) (ht:getT Tc.id M X.tx=some t):appC M at_ X=(if t.dd=true then (M,12) else (z1v Tc.id M X.tx,0)):=by
 rw [z9e hg (by omega) ht]
 simp [hk]
theorem appC_5 {at_:Int} (M:List Tc) (X:Rx) {t:Tc} (hg:z1j X=true) (hk:X.k=5) (ht:getT Tc.id M X.tx=some t):appC M at_ X=(if t.dd=true then (M,12) else (z1x Tc.id M ⟨t.id,t.sg,t.st,t.cp,true,t.dn,t.fs,t.sz+z1e X⟩,0)):=by
 rw [z9e hg (by omega) ht]
 simp [hk]
theorem appC_6 {at_:Int} (M:List Tc) (X:Rx) {t:Tc} (hg:z1j X=true) (hk:X.k=6) (ht:getT Tc.id M X.tx=some t):appC M at_ X=(if z2r t=((X.key,X.d),true) then (z1x Tc.id M ⟨t.id,t.sg,t.st,t.cp,true,t.dn.dropLast,t.fs,t.sz+z1e X⟩,0) else (M,12)):=by
 rw [z9e hg (by omega) ht]
 simp [hk]
theorem appC_7 {at_:Int} (M:List Tc) (X:Rx) {t:Tc} (hg:z1j X=true) (hk:X.k=7) (ht:getT Tc.id M X.tx=some t):appC M at_ X=(if t.dn=[] then (z1v Tc.id M X.tx,0) else (M,12)):=by
 rw [z9e hg (by omega) ht]
 simp [hk]
theorem appC_n {at_:Int} (M:List Tc) (X:Rx) (hg:z1j X=true) (h3:3≤X.k∧X.k≤7) (ht:getT Tc.id M X.tx=none):appC M at_ X=(M,10):=by
 unfold appC
 rw [if_neg (by rw [hg];simp;omega),if_neg (by omega),ht]
theorem z9o {at_:Int} (M:List Tc) (X:Rx) (hg:z1j X=true) (hk:X.k=2):appC M at_ X=if (getT Tc.id M X.tx).isSome=true∨(getT Tc.sg M X.sg).isSome=true then (M,11) else (z1x Tc.id M ⟨X.tx,X.sg,X.st,X.cp,false,[],at_,z1e X⟩,0):=by
 unfold appC
 rw [if_neg (by rw [hg];simp;omega),if_pos hk]
end Go.Proofs.YtclbkfpbdidaiaaGreatDoor
namespace Go.Proofs.YtclbkfpbdidaiaaGreatDoor
open Go.Lib (hid)
set_option maxHeartbeats 8000000
open Go.RowKit
set_option linter.unusedVariables false
set_option linter.unusedSimpArgs false
set_option maxRecDepth 10000
def stpA (P:Pg) (s:Int):Stp:=(z0k P).getD s.toNat stp0
def lenA (P:Pg):Int:=((z0k P).length:Int)
structure FineO (o:O):Prop where
 key:z5o 4 4 o.1.1 o.1.2.1 o.1.2.2=true
 ne:o.2≠0
 lo:-9223372036854775807≤o.2
 hi:o.2≤9223372036854775807
 kok:Kok o.1
theorem one_ne (t w:Int) (x:Ln) (h1:1≤x.2) (h2:x.2≤9223372036854775807):∀ o∈oneS t w x,o.2≠0∧-9223372036854775807≤o.2∧o.2≤9223372036854775807:=by
 rcases z4n t w x with ⟨_,h⟩ | ⟨_,h⟩ | ⟨_,h⟩ | ⟨_,h⟩ | ⟨_,h⟩ | ⟨_,h⟩ | ⟨_,h⟩ | ⟨_,h⟩ | ⟨_,h⟩ <;> rw [h] <;> intro o ho <;> simp at ho
 all_goals
  first
   | (rcases ho with rfl | rfl <;> simp only <;> omega)
   | (subst ho;simp only;omega)
theorem z6a {s:Stp} (h:z9i s):∀ o∈opsT s,FineO o:=by
 obtain⟨h1,h2,h3,h4,h5⟩:=h
 intro o ho
 have hk:=good_item h1 h3.1 h4 o ho
 have hok:=z8w s.1 s.2.1 s.2.2 h3 h4 o ho
 obtain⟨x,hx,hox⟩:=List.mem_flatMap.1 ho
 unfold z6o at hox
 split at hox
 · rename_i hq
   obtain⟨a1,a2,a3⟩:=one_ne s.1 s.2.1 x hq (h4 x hx).2.2 o hox
   exact⟨hk,a1,a2,a3,hok.1.1⟩
 · cases hox
theorem neg_fine {L:List O} (h:∀ o∈L,FineO o):∀ o∈negF L,FineO o:=by
 intro o ho
 unfold negF at ho
 rw [List.mem_reverse] at ho
 obtain⟨u,hu,rfl⟩:=List.mem_map.1 ho
 have g:=h u hu
 exact⟨g.key,by have:=g.ne;show -u.2≠0;omega,by have:=g.hi;show _≤-u.2;omega,by have:=g.lo;show -u.2≤_;omega,g.kok⟩
theorem z7b {s:Stp} (h:z9i s):(opsT s).length≤6:=(good_counts h.1 ⟨h.2.2.1.1,h.2.2.1.2⟩ h.2.2.2.1).2.2.2
inductive SI (P:Pg) (R:Int):Crs→List Tc→Int→Prop
 | free (s tr:Int) (h:0≤s∧s≤lenA P) (ht:0≤tr∧tr≤R+1):SI P R ⟨1,P,false,s,tr,0⟩ [] ((lenA P-s)*8+(R+1-tr)*15+8*lenA P+3)
 | op (s tr id sz:Int) (k:Nat) (h:0≤s∧s<lenA P) (ht:0≤tr∧tr≤R) (hiQ:1≤id∧id≤4294967295) (hk:k≤(opsT (stpA P s)).length):SI P R ⟨1,P,false,s,tr,id⟩ [⟨id,1,s,false,false,(opsT (stpA P s)).take k,0,sz⟩] ((lenA P-s)*8+(R+1-tr)*15+8*lenA P+2-k)
 | dead (s tr id sz:Int) (k:Nat) (h:0≤s∧s<lenA P) (ht:1≤tr∧tr≤R+1) (hiQ:1≤id∧id≤4294967295) (hk:k≤(opsT (stpA P s)).length):SI P R ⟨1,P,false,s,tr,id⟩ [⟨id,1,s,false,true,(opsT (stpA P s)).take k,0,sz⟩] ((lenA P-s)*8+(R+1-tr)*15+8*lenA P+4+k)
 | back (s:Int) (h:0≤s∧s≤lenA P):SI P R ⟨1,P,true,s,R+1,0⟩ [] (8*s+2)
 | undo (s id sz:Int) (k:Nat) (h:1≤s∧s≤lenA P) (hiQ:1≤id∧id≤4294967295) (hk:k≤(negF (opsT (stpA P (s-1)))).length):SI P R ⟨1,P,true,s,R+1,id⟩ [⟨id,1,s-1,true,false,(negF (opsT (stpA P (s-1)))).take k,0,sz⟩] (8*s+1-k)
def q2v (id:Int):Rx:=recK 5 0 id 0 false (0,0,0) 0 0
def tOf (M:List Tc):Tc:=(getT Tc.sg M 1).getD tc0
def z1l (c:Crs) (M:List Tc) (R id:Int) (kill:Bool):Rx:=if kill=true∧c.tx≠0∧(tOf M).dd=false∧c.bk=false then q2v c.tx else z2d c (tOf M) R id
theorem z3r {c:Crs} {X:Rx} (hg:z3c c=true) (hX:z1j X=true) (h1:X.k≠1) (hf:z8h c X=true):appX c X=(z9f c X,0):=by
 unfold appX
 rw [if_neg (by rw [hg];simp),if_neg (by rw [hX];simp;exact h1),if_neg (by rw [hf];simp)]
theorem gk_be (sg id st:Int) (cp:Bool) (h1:sg≠0) (h2:id≠0) (h3:st<5):z1j (recK 2 sg id st cp (0,0,0) 0 0)=true:=by
 simp [z1j,recK,kOk,kS,kT,kB,kA,kO,kP,z7s,addB,outB,z8g,h1,h2,h3,bne_iff_ne.2 h1,bne_iff_ne.2 h2]
theorem q2w (k:Int) (hk:k=3∨k=6) (id:Int) (o:O) (h2:id≠0) (h:FineO o):z1j (recK k 0 id 0 false o.1 o.2 0)=true:=by
 have h3:=h.ne
 have h4:o.2≠-9223372036854775808:=by have:=h.lo;omega
 rcases hk with rfl | rfl <;> simp [z1j,recK,kOk,kS,kT,kB,kA,kO,kP,z7s,addB,outB,z8g,h2,h.key,bne_iff_ne.2 h2,bne_iff_ne.2 h3,bne_iff_ne.2 h4]
theorem q2p (k:Int) (hk:k=4∨k=5∨k=7) (id:Int) (h2:id≠0):z1j (recK k 0 id 0 false (0,0,0) 0 0)=true:=by
 rcases hk with rfl | rfl | rfl <;> simp [z1j,recK,kOk,kS,kT,kB,kA,kO,kP,z7s,addB,outB,z8g,h2,bne_iff_ne.2 h2]
theorem gk_ba (sg:Int) (h1:sg≠0):z1j (recK 8 sg 0 0 false (0,0,0) 0 0)=true:=by
 simp [z1j,recK,kOk,kS,kT,kB,kA,kO,kP,z7s,addB,outB,z8g,h1,bne_iff_ne.2 h1]
theorem gk_do (sg o:Int) (h1:sg≠0) (ho:o=1∨o=2):z1j (recK 9 sg 0 0 false (0,0,0) 0 o)=true:=by
 rcases ho with rfl | rfl <;> simp [z1j,recK,kOk,kS,kT,kB,kA,kO,kP,z7s,addB,outB,z8g,h1,bne_iff_ne.2 h1]
structure SOut (P:Pg) (R:Int) (c:Crs) (M:List Tc) (m:Int) (X:Rx) (c':Crs) (M':List Tc):Prop where
 good:z1j X=true
 k2:2≤X.k
 k9:X.k≤9
 app:appX c X=(c',0)
 jn:X.k≤7→appC M 0 X=(M',0)
 same:¬ X.k≤7→M'=M
 tr:c'.tr=c.tr+(if X.k=5 then 1 else 0)
 bk:c'.bk=(c.bk || X.k==8)
 once:c.bk=true→X.k≠8
 go:X.k≠9→∃ m',SI P R c' M' m'∧m'<m
 fin:X.k=9→(X.o=1∧c.bk=false∧c.tr≤R)∨(X.o=2∧c.bk=true∧c.tr=R+1)
theorem z7q {t:Tc} (h:t.sg=1):tOf [t]=t:=by simp [tOf,getT,h]
theorem z5a {t u:Tc} (h:u.id=t.id):z1x Tc.id [t] u=[u]:=by simp [z1x,z1v,insT,h]
theorem q0s (t:Tc):z1v Tc.id [t] t.id=[]:=by simp [z1v]
theorem z9b (t:Tc):getT Tc.id [t] t.id=some t:=by simp [getT]
theorem z2g {P:Pg} (hg:z0l 4 4 P=true) {b:Bool} {s tr tx:Int} (h:0≤s∧s≤lenA P) (ht:0≤tr):z3c ⟨1,P,b,s,tr,tx⟩=true :=
 goodC_of (show (1:Int)≠0 by decide) hg h.1 h.2 ht
section
variable {P:Pg} {R:Int} (hg:z0l 4 4 P=true) (hok:Pgok P) (hR:0≤R∧R≤4) {id:Int} (hiQ:1≤id∧id≤4294967295)
include hg hok hR hiQ
theorem step_free (s tr:Int) (h:0≤s∧s≤lenA P) (ht:0≤tr∧tr≤R+1) (kill:Bool) (m:Int) (hm:m=(lenA P-s)*8+(R+1-tr)*15+8*lenA P+3):∃ c' M',SOut P R ⟨1,P,false,s,tr,0⟩ [] m (z1l ⟨1,P,false,s,tr,0⟩ [] R id kill) c' M':=by
 have _uhR:=hR
 have hn5:1≤lenA P∧lenA P≤5:=by
  have:=(z1r hg hok).1
  unfold lenA
  omega
 have hgc:=z2g hg (b:=false) (tx:=0) h ht.1
 have hX0:z1l ⟨1,P,false,s,tr,0⟩ [] R id kill=z2d ⟨1,P,false,s,tr,0⟩ tc0 R id:=by
  unfold z1l
  rw [if_neg (by simp)]
  rfl
 have hX1:z2d ⟨1,P,false,s,tr,0⟩ tc0 R id=if R<tr then recK 8 1 0 0 false (0,0,0) 0 0 else if s<lenA P then recK 2 1 id s false (0,0,0) 0 0 else recK 9 1 0 0 false (0,0,0) 0 1:=by
  unfold z2d
  rw [if_neg (by rw [hgc];simp),if_neg (by simp)]
  by_cases hr:R<tr
  · rw [if_pos ⟨rfl,hr⟩,if_pos hr]
  · rw [if_neg (fun e=>hr e.2),if_neg hr]
    show (if decide (s<lenA P) then _ else _)=_
    by_cases hs:s<lenA P
    · rw [if_pos (decide_eq_true hs),if_pos hs]
      rfl
    · rw [if_neg (by simp [hs]),if_neg hs]
      rfl
 rw [hX0,hX1]
 by_cases hr:R<tr
 · rw [if_pos hr]
   have htr:tr=R+1:=by omega
   refine⟨⟨1,P,true,s,tr,0⟩,[],gk_ba 1 (by decide),(show (2:Int)≤8 by decide),(show (8:Int)≤9 by decide),?_,fun e=>absurd (show (8:Int)≤7 from e) (by decide),fun _=>rfl,(by simp [recK]),rfl,(fun e=>by cases e),fun _=>⟨8*s+2,?_,by omega⟩,fun e=>absurd (show (8:Int)=9 from e) (by decide)⟩
   · rw [z3r hgc (gk_ba 1 (by decide)) (show (8:Int)≠1 by decide) (by rfl)]
     rfl
   · rw [htr]
     exact .back s h
 rw [if_neg hr]
 by_cases hs:s<lenA P
 · rw [if_pos hs]
   have hgx:=gk_be 1 id s false (by decide) (by omega) (by omega)
   refine⟨⟨1,P,false,s,tr,id⟩,[⟨id,1,s,false,false,[],0,z1e (recK 2 1 id s false (0,0,0) 0 0)⟩],hgx,(show (2:Int)≤2 by decide),(show (2:Int)≤9 by decide),?_,fun _=>?_,fun e=>absurd (show (2:Int)≤7 by decide) e,(by simp [recK]),rfl,(fun e=>by cases e),fun _=>⟨_,.op s tr id _ 0 ⟨h.1,hs⟩ ⟨ht.1,by omega⟩ hiQ (Nat.zero_le _),(by rw [hm];simp only [Int.ofNat_zero,Int.natCast_zero] at *;omega)⟩,fun e=>absurd (show (2:Int)=9 from e) (by decide)⟩
   · rw [z3r hgc hgx (show (2:Int)≠1 by decide) (by
      show (((1:Int)==1) && ((0:Int)==0) && decide (s<lenA P) && (false==false) && (s==s))=true
      simp [hs])]
     rfl
   · rw [z9o [] _ hgx rfl,if_neg (by simp [getT])]
     rfl
 · rw [if_neg hs]
   have hgx:=gk_do 1 1 (by decide) (.inl rfl)
   refine⟨⟨1,P,false,s,tr,0⟩,[],hgx,(show (2:Int)≤9 by decide),(show (9:Int)≤9 by decide),?_,fun e=>absurd (show (9:Int)≤7 from e) (by decide),fun _=>rfl,(by simp [recK]),rfl,(fun e=>by cases e),fun e=>absurd (show (9:Int)=9 by rfl) e,fun _=>.inl ⟨rfl,rfl,by show tr≤R;omega⟩⟩
   rw [z3r hgc hgx (show (9:Int)≠1 by decide) (by
    show (((1:Int)==1) && ((0:Int)==0) && !decide (s<lenA P) && ((1:Int)==1))=true
    simp [hs])]
   rfl
theorem step_back (s:Int) (h:0≤s∧s≤lenA P) (kill:Bool) (m:Int) (hm:m=8*s+2):∃ c' M',SOut P R ⟨1,P,true,s,R+1,0⟩ [] m (z1l ⟨1,P,true,s,R+1,0⟩ [] R id kill) c' M':=by
 have hn5:1≤lenA P∧lenA P≤5:=by
  have:=(z1r hg hok).1
  unfold lenA
  omega
 have hgc:=z2g hg (b:=true) (tr:=R+1) (tx:=0) h (by omega)
 have hX0:z1l ⟨1,P,true,s,R+1,0⟩ [] R id kill=z2d ⟨1,P,true,s,R+1,0⟩ tc0 R id:=by
  unfold z1l
  rw [if_neg (by simp)]
  rfl
 have hX1:z2d ⟨1,P,true,s,R+1,0⟩ tc0 R id=if 0<s then recK 2 1 id (s-1) true (0,0,0) 0 0 else recK 9 1 0 0 false (0,0,0) 0 2:=by
  unfold z2d
  rw [if_neg (by rw [hgc];simp),if_neg (by simp),if_neg (by simp)]
  show (if decide (0<s) then _ else _)=_
  by_cases hs:0<s
  · rw [if_pos (decide_eq_true hs),if_pos hs]
    rfl
  · rw [if_neg (by simp [hs]),if_neg hs]
    rfl
 rw [hX0,hX1]
 by_cases hs:0<s
 · rw [if_pos hs]
   have hgx:=gk_be 1 id (s-1) true (by decide) (by omega) (by omega)
   refine⟨⟨1,P,true,s,R+1,id⟩,[⟨id,1,s-1,true,false,[],0,z1e (recK 2 1 id (s-1) true (0,0,0) 0 0)⟩],hgx,(show (2:Int)≤2 by decide),(show (2:Int)≤9 by decide),?_,fun _=>?_,fun e=>absurd (show (2:Int)≤7 by decide) e,(by simp [recK]),rfl,(fun _=>show (2:Int)≠8 by decide),fun _=>⟨_,.undo s id _ 0 ⟨by omega,h.2⟩ hiQ (Nat.zero_le _),(by rw [hm];simp only [Int.ofNat_zero,Int.natCast_zero] at *;omega)⟩,fun e=>absurd (show (2:Int)=9 from e) (by decide)⟩
   · rw [z3r hgc hgx (show (2:Int)≠1 by decide) (by
      show (((1:Int)==1) && ((0:Int)==0) && decide (0<s) && (true==true) && (s-1==s-1))=true
      simp [hs])]
     rfl
   · rw [z9o [] _ hgx rfl,if_neg (by simp [getT])]
     rfl
 · rw [if_neg hs]
   have hgx:=gk_do 1 2 (by decide) (.inr rfl)
   refine⟨⟨1,P,true,s,R+1,0⟩,[],hgx,(show (2:Int)≤9 by decide),(show (9:Int)≤9 by decide),?_,fun e=>absurd (show (9:Int)≤7 from e) (by decide),fun _=>rfl,(by simp [recK]),rfl,(fun _=>show (9:Int)≠8 by decide),fun e=>absurd (show (9:Int)=9 by rfl) e,fun _=>.inr ⟨rfl,rfl,rfl⟩⟩
   rw [z3r hgc hgx (show (9:Int)≠1 by decide) (by
    show (((1:Int)==1) && ((0:Int)==0) && !decide (0<s) && ((2:Int)==2))=true
    simp [hs])]
   rfl
end
theorem z9s (L:List O) (k:Nat) (h:k<L.length):L.take k ++ [L.getD k o0]=L.take (k+1):=by
 rw [List.take_add_one,List.getElem?_eq_getElem h]
 simp [List.getD,List.getElem?_eq_getElem h]
theorem z2b (L:List O) (k:Nat) (h:k≤L.length):(L.take k).length=k:=by rw [List.length_take,Nat.min_eq_left h]
theorem drop_take (L:List O) (j:Nat) (h:j+1≤L.length):(L.take (j+1)).dropLast=L.take j:=by
 rw [List.dropLast_eq_take,z2b L _ h,List.take_take,Nat.add_sub_cancel,Nat.min_eq_left (by omega)]
theorem z6f (L:List O) (k:Nat) (h:k<L.length):L.getD k o0∈L:=by
 rw [List.getD,List.getElem?_eq_getElem h]
 exact List.getElem_mem _
theorem getD_take (L:List O) (j:Nat) (h:j<L.length):(L.take (j+1)).getD j o0=L.getD j o0:=by
 simp [List.getD,List.getElem?_take]
theorem z4k {P:Pg} (hg:z0l 4 4 P=true) (hok:Pgok P) {s:Int} (h:0≤s∧s<lenA P):z9i (stpA P s):=by
 have hlt:s.toNat<(z0k P).length:=by unfold lenA at h;omega
 refine (z1r hg hok).2 _ ?_
 unfold stpA
 rw [List.getD,List.getElem?_eq_getElem hlt]
 exact List.getElem_mem _
section
variable {P:Pg} {R:Int} (hg:z0l 4 4 P=true) (hok:Pgok P) (hR:0≤R∧R≤4)
include hg hok hR
theorem step_op (s tr id sz:Int) (k:Nat) (h:0≤s∧s<lenA P) (ht:0≤tr∧tr≤R) (hiQ:1≤id∧id≤4294967295) (hk:k≤(opsT (stpA P s)).length) (kill:Bool) (id' m:Int) (hm:m=(lenA P-s)*8+(R+1-tr)*15+8*lenA P+2-k) :
 ∃ c' M',SOut P R ⟨1,P,false,s,tr,id⟩ [⟨id,1,s,false,false,(opsT (stpA P s)).take k,0,sz⟩] m (z1l ⟨1,P,false,s,tr,id⟩ [⟨id,1,s,false,false,(opsT (stpA P s)).take k,0,sz⟩] R id' kill) c' M':=by
 have hfs:=z4k hg hok h
 have hf:=z6a hfs
 have h6:=z7b hfs
 have hgc:=z2g hg (b:=false) (tx:=id) (tr:=tr) (s:=s) ⟨h.1,by omega⟩ ht.1
 obtain⟨L,hL⟩:∃ L,opsT (stpA P s)=L:=⟨_,rfl⟩
 have hop:opsC ⟨1,P,false,s,tr,id⟩=L:=by
  unfold opsC
  rw [if_neg (by rw [hgc];show ¬ (true=false∨decide (s<lenA P)=false);simp [h.2])]
  exact hL
 rw [hL] at hf h6 hk ⊢
 obtain⟨t,hT⟩:∃ t:Tc,t=⟨id,1,s,false,false,L.take k,0,sz⟩:=⟨_,rfl⟩
 have htd:t.dd=false:=by rw [hT]
 have htn:t.dn.length=k:=by rw [hT];exact z2b L k hk
 have hti:t.id=id:=by rw [hT]
 have hto:tOf [t]=t:=z7q (by rw [hT])
 have hge:getT Tc.id [t] id=some t:=by
  have:=z9b t
  rwa [hti] at this
 have hn0:id≠0:=by omega
 rw [← hT]
 by_cases hkl:kill=true
 · have hX:z1l ⟨1,P,false,s,tr,id⟩ [t] R id' kill=recK 5 0 id 0 false (0,0,0) 0 0:=by
    unfold z1l
    rw [if_pos ⟨hkl,hn0,by rw [hto];exact htd,rfl⟩]
    rfl
   have hgx:=q2p 5 (.inr (.inl rfl)) id hn0
   rw [hX]
   refine⟨⟨1,P,false,s,tr+1,id⟩,[⟨id,1,s,false,true,L.take k,0,sz+z1e (recK 5 0 id 0 false (0,0,0) 0 0)⟩],hgx,(show (2:Int)≤5 by decide),(show (5:Int)≤9 by decide),?_,fun _=>?_,fun e=>absurd (show (5:Int)≤7 by decide) e,(by simp [recK]),rfl,(fun e=>by cases e),fun _=>⟨((lenA P-s)*8+(R+1-(tr+1))*15+8*lenA P+4+k),?_,?_⟩,fun e=>absurd (show (5:Int)=9 from e) (by decide)⟩
   · rw [z3r hgc hgx (show (5:Int)≠1 by decide) (by
      show ((id==id) && !false && decide (tr<9223372036854775807))=true
      have:tr<9223372036854775807:=by omega
      simp [this])]
     rfl
   · rw [appC_5 [t] _ hgx rfl hge,if_neg (by rw [htd];simp),z5a (by rfl),hT]
   · have:=SI.dead (P:=P) (R:=R) s (tr+1) id (sz+z1e (recK 5 0 id 0 false (0,0,0) 0 0)) k h (by omega) hiQ (by rw [hL];exact hk)
     rw [hL] at this
     exact this
   · rw [hm];omega
 have hX0:z1l ⟨1,P,false,s,tr,id⟩ [t] R id' kill=z3j ⟨1,P,false,s,tr,id⟩ t:=by
  unfold z1l
  rw [if_neg (fun e=>hkl e.1),hto]
  unfold z2d
  rw [if_neg (by rw [hgc];simp),if_pos (show id≠0 from hn0),htd]
  rfl
 rw [hX0]
 unfold z3j
 rw [hop,htn,hti]
 by_cases hlt:k<L.length
 · rw [if_pos hlt]
   have hfo:=hf _ (z6f L k hlt)
   have hgx:=q2w 3 (.inl rfl) id (L.getD k o0) hn0 hfo
   refine⟨⟨1,P,false,s,tr,id⟩,[⟨id,1,s,false,false,L.take (k+1),0,sz+z1e (recK 3 0 id 0 false (L.getD k o0).1 (L.getD k o0).2 0)⟩],hgx,(show (2:Int)≤3 by decide),(show (3:Int)≤9 by decide),?_,fun _=>?_,fun e=>absurd (show (3:Int)≤7 by decide) e,(by simp [recK]),rfl,(fun e=>by cases e),fun _=>⟨((lenA P-s)*8+(R+1-tr)*15+8*lenA P+2-((k+1:Nat):Int)),?_,?_⟩,fun e=>absurd (show (3:Int)=9 from e) (by decide)⟩
   · rw [z3r hgc hgx (show (3:Int)≠1 by decide) (by
      show (id==id)=true
      simp)]
     rfl
   · rw [q1u [t] _ hgx rfl hge,if_neg (by rw [htd,htn];simp;omega),z5a (by rfl),hT]
     show (([(⟨id,1,s,false,false,L.take k ++ [L.getD k o0],0,_⟩:Tc)]:List Tc),(0:Int))=_
     rw [z9s L k hlt]
   · have:=SI.op (P:=P) (R:=R) s tr id (sz+z1e (recK 3 0 id 0 false (L.getD k o0).1 (L.getD k o0).2 0)) (k+1) h ht hiQ (by rw [hL];exact hlt)
     rw [hL] at this
     exact this
   · rw [hm];omega
 · rw [if_neg hlt]
   have hgx:=q2p 4 (.inl rfl) id hn0
   refine⟨⟨1,P,false,s+1,tr,0⟩,[],hgx,(show (2:Int)≤4 by decide),(show (4:Int)≤9 by decide),?_,fun _=>?_,fun e=>absurd (show (4:Int)≤7 by decide) e,(by simp [recK]),rfl,(fun e=>by cases e),fun _=>⟨_,.free (s+1) tr (by omega) (by omega),?_⟩,fun e=>absurd (show (4:Int)=9 from e) (by decide)⟩
   · rw [z3r hgc hgx (show (4:Int)≠1 by decide) (by
      show ((id==id) && decide (s<lenA P))=true
      simp [h.2])]
     rfl
   · rw [q2l [t] _ hgx rfl hge,if_neg (by rw [htd];simp)]
     show (z1v Tc.id [t] id,(0:Int))=_
     rw [← hti,q0s]
   · rw [hm];omega
theorem step_dead (s tr id sz:Int) (k:Nat) (h:0≤s∧s<lenA P) (ht:1≤tr∧tr≤R+1) (hiQ:1≤id∧id≤4294967295) (hk:k≤(opsT (stpA P s)).length) (kill:Bool) (id' m:Int) (hm:m=(lenA P-s)*8+(R+1-tr)*15+8*lenA P+4+k) :
 ∃ c' M',SOut P R ⟨1,P,false,s,tr,id⟩ [⟨id,1,s,false,true,(opsT (stpA P s)).take k,0,sz⟩] m (z1l ⟨1,P,false,s,tr,id⟩ [⟨id,1,s,false,true,(opsT (stpA P s)).take k,0,sz⟩] R id' kill) c' M':=by
 have _uhR:=hR
 have hfs:=z4k hg hok h
 have hf:=z6a hfs
 have h6:=z7b hfs
 have hgc:=z2g hg (b:=false) (tx:=id) (tr:=tr) (s:=s) ⟨h.1,by omega⟩ (by omega)
 obtain⟨L,hL⟩:∃ L,opsT (stpA P s)=L:=⟨_,rfl⟩
 rw [hL] at hf h6 hk ⊢
 obtain⟨t,hT⟩:∃ t:Tc,t=⟨id,1,s,false,true,L.take k,0,sz⟩:=⟨_,rfl⟩
 have htd:t.dd=true:=by rw [hT]
 have htn:t.dn.length=k:=by rw [hT];exact z2b L k hk
 have hti:t.id=id:=by rw [hT]
 have hto:tOf [t]=t:=z7q (by rw [hT])
 have hge:getT Tc.id [t] id=some t:=by
  have:=z9b t
  rwa [hti] at this
 have hn0:id≠0:=by omega
 rw [← hT]
 have hX0:z1l ⟨1,P,false,s,tr,id⟩ [t] R id' kill=z6i t:=by
  unfold z1l
  rw [if_neg (fun e=>by have:=e.2.2.1;rw [hto,htd] at this;cases this),hto]
  unfold z2d
  rw [if_neg (by rw [hgc];simp),if_pos (show id≠0 from hn0),htd]
  rfl
 rw [hX0]
 unfold z6i
 rw [hti]
 cases k with
 | zero =>
  have hl:=z5t htn
  rw [hl,if_neg (by simp)]
  have hgx:=q2p 7 (.inr (.inr rfl)) id hn0
  refine⟨⟨1,P,false,s,tr,0⟩,[],hgx,(show (2:Int)≤7 by decide),(show (7:Int)≤9 by decide),?_,fun _=>?_,fun e=>absurd (show (7:Int)≤7 by decide) e,(by simp [recK]),rfl,(fun e=>by cases e),fun _=>⟨_,.free s tr (by omega) (by omega),?_⟩,fun e=>absurd (show (7:Int)=9 from e) (by decide)⟩
  · rw [z3r hgc hgx (show (7:Int)≠1 by decide) (by
     show (id==id)=true
     simp)]
    rfl
  · rw [appC_7 [t] _ hgx rfl hge,if_pos (List.length_eq_zero_iff.1 htn)]
    show (z1v Tc.id [t] id,(0:Int))=_
    rw [← hti,q0s]
  · rw [hm];simp only [Int.ofNat_zero,Int.natCast_zero] at *;omega
 | succ j =>
  have hjl:j<L.length:=by omega
  have hfo:=hf _ (z6f L j hjl)
  have hdn:t.dn.getD j o0=L.getD j o0:=by rw [hT];exact getD_take L j hjl
  have hl:z2r t=(((L.getD j o0).1,-(L.getD j o0).2),true):=by
   rw [z8o htn,hdn,if_neg (by have:=hfo.lo;omega)]
  have hfn:FineO ((L.getD j o0).1,-(L.getD j o0).2):=⟨hfo.key,by have:=hfo.ne;show -(L.getD j o0).2≠0;omega,by have:=hfo.hi;show _≤-(L.getD j o0).2;omega,by have:=hfo.lo;show -(L.getD j o0).2≤_;omega,hfo.kok⟩
  have hgx:=q2w 6 (.inr rfl) id ((L.getD j o0).1,-(L.getD j o0).2) hn0 hfn
  rw [hl,if_pos rfl]
  refine⟨⟨1,P,false,s,tr,id⟩,[⟨id,1,s,false,true,L.take j,0,sz+z1e (recK 6 0 id 0 false (L.getD j o0).1 (-(L.getD j o0).2) 0)⟩],hgx,(show (2:Int)≤6 by decide),(show (6:Int)≤9 by decide),?_,fun _=>?_,fun e=>absurd (show (6:Int)≤7 by decide) e,(by simp [recK]),rfl,(fun e=>by cases e),fun _=>⟨((lenA P-s)*8+(R+1-tr)*15+8*lenA P+4+j),?_,?_⟩,fun e=>absurd (show (6:Int)=9 from e) (by decide)⟩
  · rw [z3r hgc hgx (show (6:Int)≠1 by decide) (by
     show (id==id)=true
     simp)]
    rfl
  · rw [appC_6 [t] _ hgx rfl hge]
    refine (if_pos (by exact hl)).trans ?_
    rw [z5a (by rfl),hT]
    show (([(⟨id,1,s,false,true,(L.take (j+1)).dropLast,0,_⟩:Tc)]:List Tc),(0:Int))=_
    rw [drop_take L j hk]
  · have:=SI.dead (P:=P) (R:=R) s tr id (sz+z1e (recK 6 0 id 0 false (L.getD j o0).1 (-(L.getD j o0).2) 0)) j h ht hiQ (by rw [hL];omega)
    rw [hL] at this
    exact this
  · rw [hm];omega
theorem step_undo (s id sz:Int) (k:Nat) (h:1≤s∧s≤lenA P) (hiQ:1≤id∧id≤4294967295) (hk:k≤(negF (opsT (stpA P (s-1)))).length) (kill:Bool) (id' m:Int) (hm:m=8*s+1-k) :
 ∃ c' M',SOut P R ⟨1,P,true,s,R+1,id⟩ [⟨id,1,s-1,true,false,(negF (opsT (stpA P (s-1)))).take k,0,sz⟩] m (z1l ⟨1,P,true,s,R+1,id⟩ [⟨id,1,s-1,true,false,(negF (opsT (stpA P (s-1)))).take k,0,sz⟩] R id' kill) c' M':=by
 have hfs:=z4k hg hok (s:=s-1) ⟨by omega,by omega⟩
 have hf:=neg_fine (z6a hfs)
 have h6:(negF (opsT (stpA P (s-1)))).length≤6:=by
  unfold negF
  rw [List.length_reverse,List.length_map]
  exact z7b hfs
 have hgc:=z2g hg (b:=true) (tx:=id) (tr:=R+1) (s:=s) ⟨by omega,by omega⟩ (by omega)
 obtain⟨L,hL⟩:∃ L,negF (opsT (stpA P (s-1)))=L:=⟨_,rfl⟩
 have hop:opsC ⟨1,P,true,s,R+1,id⟩=L:=by
  unfold opsC
  rw [if_neg (by rw [hgc];show ¬ (true=false∨decide (0<s)=false);simp;omega)]
  exact hL
 rw [hL] at hf h6 hk ⊢
 obtain⟨t,hT⟩:∃ t:Tc,t=⟨id,1,s-1,true,false,L.take k,0,sz⟩:=⟨_,rfl⟩
 have htd:t.dd=false:=by rw [hT]
 have htn:t.dn.length=k:=by rw [hT];exact z2b L k hk
 have hti:t.id=id:=by rw [hT]
 have hto:tOf [t]=t:=z7q (by rw [hT])
 have hge:getT Tc.id [t] id=some t:=by
  have:=z9b t
  rwa [hti] at this
 have hn0:id≠0:=by omega
 rw [← hT]
 have hX0:z1l ⟨1,P,true,s,R+1,id⟩ [t] R id' kill=z3j ⟨1,P,true,s,R+1,id⟩ t:=by
  unfold z1l
  rw [if_neg (fun e=>by cases e.2.2.2),hto]
  unfold z2d
  rw [if_neg (by rw [hgc];simp),if_pos (show id≠0 from hn0),htd]
  rfl
 rw [hX0]
 unfold z3j
 rw [hop,htn,hti]
 by_cases hlt:k<L.length
 · rw [if_pos hlt]
   have hfo:=hf _ (z6f L k hlt)
   have hgx:=q2w 3 (.inl rfl) id (L.getD k o0) hn0 hfo
   refine⟨⟨1,P,true,s,R+1,id⟩,[⟨id,1,s-1,true,false,L.take (k+1),0,sz+z1e (recK 3 0 id 0 false (L.getD k o0).1 (L.getD k o0).2 0)⟩],hgx,(show (2:Int)≤3 by decide),(show (3:Int)≤9 by decide),?_,fun _=>?_,fun e=>absurd (show (3:Int)≤7 by decide) e,(by simp [recK]),rfl,(fun _=>show (3:Int)≠8 by decide),fun _=>⟨(8*s+1-((k+1:Nat):Int)),?_,?_⟩,fun e=>absurd (show (3:Int)=9 from e) (by decide)⟩
   · rw [z3r hgc hgx (show (3:Int)≠1 by decide) (by
      show (id==id)=true
      simp)]
     rfl
   · rw [q1u [t] _ hgx rfl hge,if_neg (by rw [htd,htn];simp;omega),z5a (by rfl),hT]
     show (([(⟨id,1,s-1,true,false,L.take k ++ [L.getD k o0],0,_⟩:Tc)]:List Tc),(0:Int))=_
     rw [z9s L k hlt]
   · have:=SI.undo (P:=P) (R:=R) s id (sz+z1e (recK 3 0 id 0 false (L.getD k o0).1 (L.getD k o0).2 0)) (k+1) h hiQ (by rw [hL];exact hlt)
     rw [hL] at this
     exact this
   · rw [hm];omega
 · rw [if_neg hlt]
   have hgx:=q2p 4 (.inl rfl) id hn0
   refine⟨⟨1,P,true,s-1,R+1,0⟩,[],hgx,(show (2:Int)≤4 by decide),(show (4:Int)≤9 by decide),?_,fun _=>?_,fun e=>absurd (show (4:Int)≤7 by decide) e,(by simp [recK]),rfl,(fun _=>show (4:Int)≠8 by decide),fun _=>⟨_,.back (s-1) (by omega),?_⟩,fun e=>absurd (show (4:Int)=9 from e) (by decide)⟩
   · rw [z3r hgc hgx (show (4:Int)≠1 by decide) (by
      show ((id==id) && decide (0<s))=true
      have:0<s:=by omega
      simp [this])]
     rfl
   · rw [q2l [t] _ hgx rfl hge,if_neg (by rw [htd];simp)]
     show (z1v Tc.id [t] id,(0:Int))=_
     rw [← hti,q0s]
   · rw [hm];omega
theorem step_any {c:Crs} {M:List Tc} {m:Int} (h:SI P R c M m) (kill:Bool) {id:Int} (hiQ:1≤id∧id≤4294967295):∃ c' M',SOut P R c M m (z1l c M R id kill) c' M':=by
 cases h with
 | free s tr h ht=>exact step_free hg hok hR hiQ s tr h ht kill _ rfl
 | op s tr id2 sz k h ht hid2 hk=>exact step_op hg hok hR s tr id2 sz k h ht hid2 hk kill id _ rfl
 | dead s tr id2 sz k h ht hid2 hk=>exact step_dead hg hok hR s tr id2 sz k h ht hid2 hk kill id _ rfl
 | back s h=>exact step_back hg hok hR hiQ s h kill _ rfl
 | undo s id2 sz k h hid2 hk=>exact step_undo hg hok hR s id2 sz k h hid2 hk kill id _ rfl
end
end Go.Proofs.YtclbkfpbdidaiaaGreatDoor
namespace Go.Proofs.YtclbkfpbdidaiaaGreatDoor
open Go.Lib (hid)
set_option maxHeartbeats 8000000
open Go.RowKit Go.ChangeShapes Go.WideShapes
set_option linter.unusedVariables false
set_option linter.unusedSimpArgs false
set_option maxRecDepth 10000
theorem TsOk.mono {M:List Tc} {n m:Nat} {y z:Int} (h:TsOk M n y) (hn:n≤m) (hz:y≤z):TsOk M m z:=⟨h.ok,h.up,Nat.le_trans h.len hn,h.few,fun t ht=>⟨(h.sz t ht).1,Int.le_trans (h.sz t ht).2 hz⟩⟩
theorem TsOk.with {M:List Tc} {n:Nat} {z:Int} (h:TsOk M n z) {t:Tc} (h1:Tcok t) (h2:t.dn.length≤20) (h3:0≤t.sz∧t.sz≤z):TsOk (z1x Tc.id M t) (n+1) z:=by
 refine⟨fun x hx=>?_,up_withT h.up,Nat.le_trans (len_withT M t) (by have:=h.len;omega),fun x hx=>?_,fun x hx=>?_⟩
 · rcases mem_withT.1 hx with rfl | hx
   · exact h1
   · exact h.ok x hx.1
 · rcases mem_withT.1 hx with rfl | hx
   · exact h2
   · exact h.few x hx.1
 · rcases mem_withT.1 hx with rfl | hx
   · exact h3
   · exact h.sz x hx.1
theorem TsOk.without {M:List Tc} {n:Nat} {z:Int} (h:TsOk M n z) (i:Int):TsOk (z1v Tc.id M i) n z :=
 ⟨fun x hx=>h.ok x (mem_witho.1 hx).1,z9q i h.up,Nat.le_trans (len_witho M i) h.len,fun x hx=>h.few x (mem_witho.1 hx).1,fun x hx=>h.sz x (mem_witho.1 hx).1⟩
theorem TsOk.app {M:List Tc} {n:Nat} {z at_:Int} {X:Rx} (h:TsOk M n z) (hz:0≤z∧z≤1099511627776) (hX:Rxok X) (ha:In64 at_):TsOk (appC M at_ X).1 (n+1) (z+10000):=by
 have hm:TsOk M (n+1) (z+10000):=h.mono (by omega) (by omega)
 have hm0:TsOk M n (z+10000):=h.mono (by omega) (by omega)
 by_cases hb:z1j X=false∨X.k<2∨7<X.k
 · rw [show appC M at_ X=(M,1) from if_pos hb]
   exact hm
 have hg:z1j X=true:=by
  cases hq:z1j X with
  | false=>exact absurd (.inl hq) hb
  | true=>rfl
 obtain⟨s1,s2⟩:0≤z1e X∧z1e X≤10000:=z8i hg
 by_cases hk:X.k=2
 · rw [z9o M X hg hk]
   split
   · exact hm
   · exact hm0.with ⟨hX.tx,hX.sg,hX.st,(fun o ho=>by cases ho),ha,by simp only;unfold In64;omega⟩ (by simp) ⟨s1,by simp only;omega⟩
 have h3:3≤X.k∧X.k≤7:=by omega
 cases ht:getT Tc.id M X.tx with
 | none=>rw [appC_n M X hg h3 ht];exact hm
 | some t =>
  obtain⟨htm,_⟩:=z5g ht
  have hok:=h.ok t htm
  have hfw:=h.few t htm
  have hsz:=h.sz t htm
  have hs:In64 (t.sz+z1e X):=by unfold In64;omega
  rw [z9e hg h3 ht]
  split
  · split
    · exact hm
    · rename_i hc
      refine hm0.with ⟨hok.id,hok.sg,hok.st,fun o ho=>?_,hok.fs,hs⟩ ?_ ⟨by simp only;omega,by simp only;omega⟩
      · rcases List.mem_append.1 ho with ho | ho
        · exact hok.dn o ho
        · rw [List.mem_singleton.1 ho]
          exact⟨hX.key,hX.d⟩
      · simp only [List.length_append,List.length_cons,List.length_nil]
        have:¬ 6≤t.dn.length:=fun e=>hc (.inr e)
        omega
  · split
    · split
      · exact hm
      · exact hm.without _
    · split
      · split
        · exact hm
        · exact hm0.with ⟨hok.id,hok.sg,hok.st,hok.dn,hok.fs,hs⟩ hfw ⟨by simp only;omega,by simp only;omega⟩
      · split
        · split
          · refine hm0.with ⟨hok.id,hok.sg,hok.st,(fun o ho=>hok.dn o ((List.dropLast_sublist t.dn).subset ho)),hok.fs,hs⟩ ?_ ⟨by simp only;omega,by simp only;omega⟩
            simp only [List.length_dropLast]
            omega
          · exact hm
        · split
          · exact hm.without _
          · exact hm
theorem held_load_rpr {a:Act} {w:World} {dst:Option Tmp} {x:Operand} {ty:TypeId} {pos:String} {after:Array Edge} {gd:Option (Nat × Bool)} {B:Nat} {r:Rv} (hx:a.eval x=.pointer (some ⟨B,10,none⟩)) (hC:RB w B r) :
 (execOp a.eval (Oper.mk dst (.load 26 x) ty pos after gd)).run Tryz.prog w=.ok (.value (.agg (pcs r))) w:=by
 unfold execOp
 simp only [hx,Instr.loadAt,Instr.sureAddr,Sem.run_bind,Sem.run_pure,Result.andThen_ok,z2v w B 10 42 26 (rcs r) (pcs r) (0,0) _ hC (rcs_prog r) Tryz.underlying26 rfl (by kernel_rfl)]
theorem cr_two0 (W:World) (r:Rv):∃ W1,(W.alloc (.cells (rcs r) 42)).alloc (.cells #[.int .u32 0,.int .u8 0,.int .u32 0,.int .u8 0,.slice none 0 0,.slice none 0 0,.slice none 0 0,.int .u8 0,.int .u8 0,.int .u8 0,.int .i64 0,.bool false,.int .i64 0,.int .i64 0,.int .u32 0] 34)=W1∧RB W1 W.heap.size r∧CB W1 (W.heap.size+1) cz∧W1.heap.size=W.heap.size+2∧Below W.heap.size W W1:=by
 have hb0:Below W.heap.size W (W.alloc (.cells (rcs r) 42)):=(Below.refl _ _).alloc (Nat.le_refl _) _
 have hs:(W.alloc (.cells (rcs r) 42)).heap.size=W.heap.size+1:=by simp only [World.alloc,Array.size_push]
 have hb1:Below (W.alloc (.cells (rcs r) 42)).heap.size (W.alloc (.cells (rcs r) 42)) ((W.alloc (.cells (rcs r) 42)).alloc (.cells #[.int .u32 0,.int .u8 0,.int .u32 0,.int .u8 0,.slice none 0 0,.slice none 0 0,.slice none 0 0,.int .u8 0,.int .u8 0,.int .u8 0,.int .i64 0,.bool false,.int .i64 0,.int .i64 0,.int .u32 0] 34)):=(Below.refl _ _).alloc (Nat.le_refl _) _
 refine⟨_,rfl,(RB.new W r).later hb1,?_,by simp only [World.alloc,Array.size_push],hb0.trans (hb1.mono hb0.size)⟩
 have h:=CB.new (W.alloc (.cells (rcs r) 42)) cz
 rw [hs] at h
 exact h
theorem cr_startN (r:Rv) (L:List Ln) (T:List Tk) (M:List Ln) (W:World) (hw:Words W) (hR:RvM W r L T M) (hrk:Rxok (r.x L T M)) (h2:r.ln≤400∧r.tn≤400∧r.wn≤400):Calls Tryz.prog 26 #[.agg (rcs r)] W (GivesCrN W (z6j (r.x L T M)).1 (z6j (r.x L T M)).2):=by
 obtain⟨W1,hW1,hy,hz,hsz,hb1⟩:=cr_two0 W r
 obtain⟨B,hB⟩:∃ B,W.heap.size=B:=⟨_,rfl⟩
 rw [hB] at hy hz hsz
 have HY:=hid hy
 have HZ:=hid hz
 have HW1:=hid hW1
 have HB1:=hid hb1
 have HRE:=hid hB
 have HSZ:=hid hsz
 have HR:=hid (z8j r L T M W1 (hw.later hb1) (hR.later hb1) hrk h2)
 have HCP:=hid (copy_p2 r.pk r.od r.po r.lp r.ln r.lcp r.tp r.tn r.tcp r.wp r.wn r.wcp r.sk r.fr r.to r.q L T M)
 have HRM:=hid (hR.later hb1)
 have HLM:Hid (r.ln≤1000∧r.tn≤1000∧r.wn≤1000):=hid ⟨by omega,by omega,by omega⟩
 have HSX:Hid (z6j (r.x L T M)=if r.k=1∧z1j (r.x L T M)=true then (⟨r.sg,r.pg L T M,false,0,0,0⟩,0) else (noC,1)):=hid rfl
 obtain⟨g,hg⟩:∃ g,z1j (r.x L T M)=g:=⟨_,rfl⟩
 rw [hg] at HR HSX
 generalize z6j (r.x L T M)=A at *
 have y0:=hy.at.1
 clear hW1 hy hz hsz hb1 hB hw hR hrk h2 hg
 have HNO:Hid (∀ w',Below W.heap.size W w'→RvM (w'.setRow (B+1) (ccs cz)) cz.p [] [] []):=hid fun w' _=>rz_m _
 by_cases hk:r.k=1
 case neg =>
  have b1:(r.k != 1)=true:=bne_iff_ne.2 hk
  have HE:Hid (A=(noC,1)):=hid (by rw [HSX.out,if_neg (fun h=>hk h.1)])
  have HZF:=hid (HZ.out.set cz)
  clear HR HCP HRM HLM HSX hk
  go_enter Tryz.func26,Tryz.ntmps26
  go_upto_region 1 with (fail)
  rw [HW1.out,HRE.out]
  go_wp2_with ((with_reducible refine z0p cz HZ.out ?_ ?_ ?_);rfl;rfl)
  (try simp only [Exit.inBlock,Exit.then])
  refine bodyPost_ret (v:=.tuple #[.agg (ccs cz),.int .i64 1]) ?_ rfl ?_
  · exact z6n rfl _ _ (B+1) _ _ rfl rfl HZF.out
  · rw [HE.out]
    exact⟨cz,[],[],[],rfl,HNO.out _ HB1.out,cz_x,below_setRow HB1.out (by have:=HRE.out;omega) _,(fun a ha=>by cases ha),(fun a ha=>by cases ha),(fun a ha=>by cases ha)⟩
 case pos =>
 rw [hk] at y0
 cases g with
 | false =>
  have HE:Hid (A=(noC,1)):=hid (by rw [HSX.out,if_neg (fun h=>by cases h.2)])
  clear HCP HRM HLM HSX hk
  go_enter Tryz.func26,Tryz.ntmps26
  go_upto_region 1 with (fail)
  rw [HW1.out,HRE.out]
  go_wp2_with ((with_reducible refine z0w HY.out ?_ ?_ ?_);rfl;rfl)
  refine HR.out.mono ?_
  rintro e w2 ⟨rfl,h2⟩
  have HZ2:=hid (HZ.out.later h2)
  have HB2:=hid (HB1.out.trans (h2.mono HB1.out.size))
  have HZF:=hid (HZ2.out.set cz)
  clear h2 HR y0
  go_wp2_with ((with_reducible refine z0p cz HZ2.out ?_ ?_ ?_);rfl;rfl)
  (try simp only [Exit.inBlock,Exit.then])
  refine bodyPost_ret (v:=.tuple #[.agg (ccs cz),.int .i64 1]) ?_ rfl ?_
  · exact z6n rfl _ _ (B+1) _ _ rfl rfl HZF.out
  · rw [HE.out]
    exact⟨cz,[],[],[],rfl,HNO.out _ HB2.out,cz_x,below_setRow HB2.out (by have:=HRE.out;omega) _,(fun a ha=>by cases ha),(fun a ha=>by cases ha),(fun a ha=>by cases ha)⟩
 | true =>
  have HE:Hid (A=(⟨r.sg,r.pg L T M,false,0,0,0⟩,0)):=hid (by rw [HSX.out,if_pos ⟨hk,rfl⟩])
  clear HNO HSX hk
  go_enter Tryz.func26,Tryz.ntmps26
  go_upto_region 1 with (fail)
  rw [HW1.out,HRE.out]
  go_wp2_with ((with_reducible refine z0w HY.out ?_ ?_ ?_);rfl;rfl)
  refine HR.out.mono ?_
  rintro e w2 ⟨rfl,h2⟩
  have HY2:=hid (HY.out.later h2)
  have HZ2:=hid (HZ.out.later h2)
  have HB2:=hid (HB1.out.trans (h2.mono HB1.out.size))
  have HM2:=hid (HRM.out.later h2)
  have HS2:=hid h2.size
  clear h2 HR y0 HY HZ HRM
  go_upto_region 3 with (fail)
  have hbd:RB w2.drew B r:=HY2.out
  have HZ3:Hid (CB w2.drew (B+1) cz):=hid HZ2.out
  have HB3:Hid (Below W.heap.size W w2.drew):=hid HB2.out.drew
  have HM3:Hid (RvM w2.drew r L T M):=hid (HM2.out.later (Below.refl _ _).drew)
  have HS3:Hid (B+2≤w2.drew.heap.size):=hid (by have h1:=HSZ.out;have h2:=HS2.out;show B+2≤w2.heap.size;omega)
  refine wp_region_held_drew (S:=fun w'=>Hid (RB w' B r)) (by kernel_rfl) (hid hbd) (fun hHeld=>?_)
  clear hbd HY2 HZ2 HB2 HM2 HS2
  generalize w2.drew=Wd at *
  refine wpAnyH_take (i:=0) (oi:=⟨some 13,_,_,_,_,_⟩) (v:=.pointer (some ⟨B,1,none⟩)) rfl (by kernel_rfl) (by kernel_rfl) (by kernel_rfl) (fun _ _ _ h=>h) (Or.inl ⟨by rfl,fun w' hw'=>?_⟩) (by assumption) ?_
  · clear hHeld
    go_simp
  try simp only [Act.put,sIB,sCZ,sCS]
  refine wpAnyH_take (i:=1) (oi:=⟨some 14,_,_,_,_,_⟩) (v:=.int .u32 r.sg) rfl (by kernel_rfl) (by kernel_rfl) (by kernel_rfl) (fun _ _ _ h=>h) (Or.inl ⟨by rfl,fun w' hw'=>?_⟩) (by assumption) ?_
  · have hcx:=hw'.out.at.2.1
    clear hHeld hw'
    go_simp
  try simp only [Act.put,sIB,sCZ,sCS]
  refine wpAnyH_take (i:=2) (oi:=⟨some 15,_,_,_,_,_⟩) (v:=.pointer (some ⟨B,10,none⟩)) rfl (by kernel_rfl) (by kernel_rfl) (by kernel_rfl) (fun _ _ _ h=>h) (Or.inl ⟨by rfl,fun w' hw'=>?_⟩) (by assumption) ?_
  · clear hHeld
    go_simp
  try simp only [Act.put,sIB,sCZ,sCS]
  refine wpAnyH_take (i:=3) (oi:=⟨some 16,_,_,_,_,_⟩) (v:=.agg (pcs r)) rfl (by kernel_rfl) (by kernel_rfl) (by kernel_rfl) (fun _ _ _ h=>h) (Or.inl ⟨by rfl,fun w' hw'=>held_load_rpr rfl (Hid.out hw')⟩) (by assumption) ?_
  try simp only [Act.put,sIB,sCZ,sCS]
  refine wpAnyH_ready (rs:=[4]) (by kernel_rfl) (by simp) (AllReadyH.cons rfl (fun K hK=>?_) (AllReadyH.nil))
  go_simp
  go_wp2_with fail
  refine (HCP.out Wd HM3.out HLM.out).mono ?_
  rintro e w4 ⟨lp,lc,tp,tc,wp,wc,rfl,hpm,_,ht4,hb4,hl4,ho4⟩
  have HFA:Hid ((∀ a,lp=some a→a.block≠B+1)∧(∀ a,tp=some a→a.block≠B+1)∧(∀ a,wp=some a→a.block≠B+1)):=hid (by
   have h:=HS3.out
   exact⟨fun a ha=>by have:=hl4 a ha;omega,fun a ha=>by have:=ht4 a ha;omega,fun a ha=>by have:=ho4 a ha;omega⟩)
  have HFN:Hid ((∀ a,lp=some a→W.heap.size≤a.block)∧(∀ a,tp=some a→W.heap.size≤a.block)∧(∀ a,wp=some a→W.heap.size≤a.block)):=hid (by
   have h:=HS3.out
   have h2:=HRE.out
   exact⟨fun a ha=>by have:=hl4 a ha;omega,fun a ha=>by have:=ht4 a ha;omega,fun a ha=>by have:=ho4 a ha;omega⟩)
  have hSN:Hid (RB w4 B r):=hid (hHeld.out.later hb4)
  have HZ4:=hid (HZ3.out.later hb4)
  have HB4:=hid (HB3.out.trans (hb4.mono HB3.out.size))
  have HM4:=hid hpm
  clear hpm ht4 hb4 hl4 ho4 HZ3 HB3 HM3 HS3
  go_wp2_with fail
  refine hK.out _ _ hSN (fun hHeld2=>?_)
  try simp only [Act.put,sIB,sCZ,sCS]
  clear hSN hK K hHeld
  have hHeld:=hHeld2
  clear hHeld2
  obtain⟨cc,hcc⟩:∃ cc:Cv,cc=⟨r.sg,prV ⟨r.pk,r.od,r.po,L,T,M,r.sk,r.fr,r.to,r.q⟩ lp lc tp tc wp wc,false,0,0,0⟩:=⟨_,rfl⟩
  have hcs:(#[.int .u32 r.sg,.int .u8 r.pk,.int .u32 r.od,.int .u8 r.po,.slice lp L.length lc,.slice tp T.length tc,.slice wp M.length wc,.int .u8 r.sk,.int .u8 r.fr,.int .u8 r.to,.int .i64 r.q,.bool false,.int .i64 0,.int .i64 0,.int .u32 0]:Array Value)=ccs cc:=by rw [hcc];rfl
  have HCS:=hid hcs
  have HXX:Hid (cc.x L T M=⟨r.sg,r.pg L T M,false,0,0,0⟩):=hid (by rw [hcc];rfl)
  have HPM:Hid (RvM (w4.setRow (B+1) (ccs cc)) cc.p L T M):=hid (z5e (R:=B+1) (by rw [hcc];exact HM4.out) (ccs cc) (by rw [hcc];exact HFA.out.1) (by rw [hcc];exact HFA.out.2.1) (by rw [hcc];exact HFA.out.2.2))
  have HNP:Hid (NewP W cc.p):=hid (by rw [hcc];exact HFN.out)
  clear hcc hcs
  refine wpAnyH_take (i:=5) (oi:=⟨some 18,_,_,_,_,_⟩) (v:=.agg #[.int .u32 r.sg,.int .u8 r.pk,.int .u32 r.od,.int .u8 r.po,.slice lp L.length lc,.slice tp T.length tc,.slice wp M.length wc,.int .u8 r.sk,.int .u8 r.fr,.int .u8 r.to,.int .i64 r.q,.bool false,.int .i64 0,.int .i64 0,.int .u32 0]) rfl (by kernel_rfl) (by kernel_rfl) (by kernel_rfl) (fun _ _ _ h=>h) (Or.inl ⟨by rfl,fun w' hw'=>?_⟩) (by assumption) ?_
  · clear hHeld
    go_simp
  try simp only [Act.put,sIB,sCZ,sCS]
  rw [HCS.out]
  refine wpAnyH_ready (rs:=[6]) (by kernel_rfl) (by simp) (AllReadyH.cons rfl (fun K hK=>?_) (AllReadyH.nil))
  rw [if_pos (by rfl)]
  refine wp_store_row 34 _ _ rfl (B+1) (ccs cc) rfl rfl 34 _ HZ4.out (by kernel_rfl) rfl (q0l cc) ?_
  have HZF:Hid (CB (w4.setRow (B+1) (ccs cc)) (B+1) cc):=hid (HZ4.out.set cc)
  have hSN:Hid (RB (w4.setRow (B+1) (ccs cc)) B r):=hid (hHeld.out.chg (S:=fun k=>k=B+1) ⟨rfl,rfl,rfl,by simp [World.setRow],fun k _ hn=>setRow_other _ _ _ _ hn⟩ (by omega))
  have HB5:Hid (Below W.heap.size W (w4.setRow (B+1) (ccs cc))):=hid (below_setRow HB4.out (by have:=HRE.out;omega) _)
  clear HZ4 HB4 HM4
  generalize w4.setRow (B+1) (ccs cc)=w5 at *
  refine hK.out _ _ hSN (fun hHeld2=>?_)
  try simp only [Act.put,sIB,sCZ,sCS]
  clear hSN hK K hHeld
  have hHeld:=hHeld2
  clear hHeld2
  refine wpAnyH_take (i:=7) (oi:=⟨some 3,_,_,_,_,_⟩) (v:=.int .i64 0) rfl (by kernel_rfl) (by kernel_rfl) (by kernel_rfl) (fun _ _ _ h=>h) (Or.inl ⟨by rfl,fun w' hw'=>?_⟩) (by assumption) ?_
  · clear hHeld
    go_simp
  try simp only [Act.put,sIB,sCZ,sCS]
  refine wpAnyH_done (by kernel_rfl) ?_ _
  clear hHeld
  go_wp2_with fail
  (try simp only [Exit.inBlock,Exit.then])
  refine bodyPost_ret (v:=.tuple #[.agg (ccs cc),.int .i64 0]) ?_ rfl ?_
  · exact z6n rfl _ _ (B+1) _ _ rfl rfl HZF.out
  · rw [HE.out]
    exact⟨cc,L,T,M,rfl,HPM.out,HXX.out,HB5.out,HNP.out⟩
theorem cr_start (r:Rv) (L:List Ln) (T:List Tk) (M:List Ln) (W:World) (hw:Words W) (hR:RvM W r L T M) (hrk:Rxok (r.x L T M)) (h2:r.ln≤400∧r.tn≤400∧r.wn≤400):Calls Tryz.prog 26 #[.agg (rcs r)] W (q0p W (z6j (r.x L T M)).1 (z6j (r.x L T M)).2):=by
 exact (cr_startN r L T M W hw hR hrk h2).mono GivesCrN.old
end Go.Proofs.YtclbkfpbdidaiaaGreatDoor
namespace Go.Proofs.YtclbkfpbdidaiaaGreatDoor
open Go.Lib (hid)
set_option maxHeartbeats 8000000
open Go.RowKit Go.ChangeShapes Go.WideShapes Go.Deep
set_option linter.unusedVariables false
set_option maxRecDepth 10000
set_option linter.unusedSimpArgs false
section
variable {H:Type} {enc:TypeId × Value→H} {w:World} {base:Nat} {held:Bool}
theorem prog_trod {fuel:Nat} {v0 v1 v2 v3 v4 v5 v6 v7 v8 v9:Value} {d:DataW H × List MemPlace} (hf:DataW.trod enc Tryz.prog w base (fun _=>true) held fuel 26 [v0,v1,v2,v3,v4,v5,v6,v7,v8,v9]=some d):∃ (k od po:Int) (lp:Option Addr) (ln lcp:Nat) (tp:Option Addr) (tn tcp:Nat) (wp:Option Addr) (wn wcp:Nat) (sk fr to q:Int) (L:List Ln) (T:List Tk) (M:List Ln),[v0,v1,v2,v3,v4,v5,v6,v7,v8,v9]=[.int .u8 k,.int .u32 od,.int .u8 po,.slice lp ln lcp,.slice tp tn tcp,.slice wp wn wcp,.int .u8 sk,.int .u8 fr,.int .u8 to,.int .i64 q]∧Pgok ⟨k,od,po,L,T,M,sk,fr,to,q⟩∧PgM w lp ln lcp L tp tn tcp T wp wn wcp M:=by
 obtain⟨xs,n,_,_,hlen,hxl,hg⟩:=DataW.trod_struct Tryz.underlying26 hf
 have h10:xs.length=10:=hxl
 have t0:=hg 0 _ rfl
 have t1:=hg 1 _ rfl
 have t2:=hg 2 _ rfl
 have t3:=hg 3 _ rfl
 have t4:=hg 4 _ rfl
 have t5:=hg 5 _ rfl
 have t6:=hg 6 _ rfl
 have t7:=hg 7 _ rfl
 have t8:=hg 8 _ rfl
 have t9:=hg 9 _ rfl
 rw [List.getElem?_eq_getElem (by omega)] at t0 t1 t2 t3 t4 t5 t6 t7 t8 t9
 have e0:DataW.trod enc Tryz.prog w base (fun _=>true) held n 5 [v0]=some (xs[0]'(by omega)):=t0
 have e1:DataW.trod enc Tryz.prog w base (fun _=>true) held n 22 [v1]=some (xs[1]'(by omega)):=t1
 have e2:DataW.trod enc Tryz.prog w base (fun _=>true) held n 5 [v2]=some (xs[2]'(by omega)):=t2
 have e3:DataW.trod enc Tryz.prog w base (fun _=>true) held n 23 [v3]=some (xs[3]'(by omega)):=t3
 have e4:DataW.trod enc Tryz.prog w base (fun _=>true) held n 24 [v4]=some (xs[4]'(by omega)):=t4
 have e5:DataW.trod enc Tryz.prog w base (fun _=>true) held n 23 [v5]=some (xs[5]'(by omega)):=t5
 have e6:DataW.trod enc Tryz.prog w base (fun _=>true) held n 5 [v6]=some (xs[6]'(by omega)):=t6
 have e7:DataW.trod enc Tryz.prog w base (fun _=>true) held n 5 [v7]=some (xs[7]'(by omega)):=t7
 have e8:DataW.trod enc Tryz.prog w base (fun _=>true) held n 5 [v8]=some (xs[8]'(by omega)):=t8
 have e9:DataW.trod enc Tryz.prog w base (fun _=>true) held n 2 [v9]=some (xs[9]'(by omega)):=t9
 obtain⟨z0,hv0,_,wf0⟩:=DataW.trod_int Tryz.underlying5 e0
 obtain⟨z1,hv1,_,wf1⟩:=DataW.trod_int Tryz.underlying22 e1
 obtain⟨z2,hv2,_,wf2⟩:=DataW.trod_int Tryz.underlying5 e2
 obtain⟨z6,hv6,_,wf6⟩:=DataW.trod_int Tryz.underlying5 e6
 obtain⟨z7,hv7,_,wf7⟩:=DataW.trod_int Tryz.underlying5 e7
 obtain⟨z8,hv8,_,wf8⟩:=DataW.trod_int Tryz.underlying5 e8
 obtain⟨z9,hv9,_,wf9⟩:=DataW.trod_int Tryz.underlying2 e9
 simp at hv0 hv1 hv2 hv6 hv7 hv8 hv9
 subst hv0 hv1 hv2 hv6 hv7 hv8 hv9
 obtain⟨p3,n3,c3,rfl⟩:=z5c Tryz.underlying23 e3
 obtain⟨p4,n4,c4,rfl⟩:=z5c Tryz.underlying24 e4
 obtain⟨p5,n5,c5,rfl⟩:=z5c Tryz.underlying23 e5
 obtain⟨L,hL,hLok⟩:=open_lines e3
 obtain⟨T,hT,hTok⟩:=open_takes e4
 obtain⟨M,hM,hMok⟩:=open_lines e5
 exact⟨z0,z1,z2,p3,n3,c3,p4,n4,c4,p5,n5,c5,z6,z7,z8,z9,L,T,M,rfl,⟨bounds_u8 wf0,bounds32 wf1,bounds_u8 wf2,hLok,hTok,hMok,bounds_u8 wf6,bounds_u8 wf7,bounds_u8 wf8,bounds_i64 wf9⟩,⟨hL,hT,hM⟩⟩
end
def rce (r:Rv):List Value:=(rcs r).toList
theorem q1b (r:Rv):(rce r).length=20:=rfl
section
variable {H:Type} {enc:TypeId × Value→H} {w:World} {base:Nat} {held:Bool}
end
end Go.Proofs.YtclbkfpbdidaiaaGreatDoor
namespace Go.Proofs.YtclbkfpbdidaiaaGreatDoor
open Go.Lib (hid)
set_option maxHeartbeats 8000000
open Go.RowKit Go.ChangeShapes Go.WideShapes
set_option linter.unusedVariables false
set_option linter.unusedSimpArgs false
set_option maxRecDepth 10000
theorem isfew_p (k od po:Int) (lp:Option Addr) (ln lcp:Nat) (tp:Option Addr) (tn tcp:Nat) (wp:Option Addr) (wn wcp:Nat) (sk fr to q:Int) (W:World):Calls Tryz.prog 34 #[.agg #[.int .u8 k,.int .u32 od,.int .u8 po,.slice lp ln lcp,.slice tp tn tcp,.slice wp wn wcp,.int .u8 sk,.int .u8 fr,.int .u8 to,.int .i64 q]] W fun e w'=>e=.returned (.bool (decide (ln≤20∧tn≤30∧wn≤20)))∧Below W.heap.size W w':=by
 have HB:Hid (Below W.heap.size W (W.alloc (.cells #[.int .u8 k,.int .u32 od,.int .u8 po,.slice lp ln lcp,.slice tp tn tcp,.slice wp wn wcp,.int .u8 sk,.int .u8 fr,.int .u8 to,.int .i64 q] 26))):=hid ((Below.refl _ _).alloc (Nat.le_refl _) _)
 obtain⟨r,hr⟩:∃ r,decide (ln≤20∧tn≤30∧wn≤20)=r:=⟨_,rfl⟩
 have HR:=hid hr
 rw [hr]
 clear hr
 by_cases h1:ln≤20
 case neg =>
  have d1:decide ((ln:Int)≤20)=false:=decide_eq_false (by omega)
  obtain rfl:r=false:=by rw [← HR.out];exact decide_eq_false (by omega)
  go_enter Tryz.func34,Tryz.ntmps34
  go_wp2_with fail
  go_ret
  exact⟨rfl,HB.out⟩
 have d1:decide ((ln:Int)≤20)=true:=decide_eq_true (by omega)
 by_cases h2:tn≤30
 case neg =>
  have d2:decide ((tn:Int)≤30)=false:=decide_eq_false (by omega)
  obtain rfl:r=false:=by rw [← HR.out];exact decide_eq_false (by omega)
  go_enter Tryz.func34,Tryz.ntmps34
  go_wp2_with fail
  go_ret
  exact⟨rfl,HB.out⟩
 have d2:decide ((tn:Int)≤30)=true:=decide_eq_true (by omega)
 by_cases h3:wn≤20
 case neg =>
  have d3:decide ((wn:Int)≤20)=false:=decide_eq_false (by omega)
  obtain rfl:r=false:=by rw [← HR.out];exact decide_eq_false (by omega)
  go_enter Tryz.func34,Tryz.ntmps34
  go_wp2_with fail
  go_ret
  exact⟨rfl,HB.out⟩
 have d3:decide ((wn:Int)≤20)=true:=decide_eq_true (by omega)
 obtain rfl:r=true:=by rw [← HR.out];exact decide_eq_true (by omega)
 go_enter Tryz.func34,Tryz.ntmps34
 go_wp2_with fail
 go_ret
 exact⟨rfl,HB.out⟩
def fewI (ln tn wn:Nat):Int:=if ln≤20∧tn≤30∧wn≤20 then 1 else 0
theorem few_p (k od po:Int) (lp:Option Addr) (ln lcp:Nat) (tp:Option Addr) (tn tcp:Nat) (wp:Option Addr) (wn wcp:Nat) (sk fr to q:Int) (W:World):Calls Tryz.prog 7 #[.agg #[.int .u8 k,.int .u32 od,.int .u8 po,.slice lp ln lcp,.slice tp tn tcp,.slice wp wn wcp,.int .u8 sk,.int .u8 fr,.int .u8 to,.int .i64 q]] W fun e w'=>e=.returned (.int .i64 (fewI ln tn wn))∧Below W.heap.size W w':=by
 obtain⟨W1,hW1,hb1⟩:∃ W1,W.alloc (.cells #[.int .u8 k,.int .u32 od,.int .u8 po,.slice lp ln lcp,.slice tp tn tcp,.slice wp wn wcp,.int .u8 sk,.int .u8 fr,.int .u8 to,.int .i64 q] 26)=W1∧Below W.heap.size W W1:=⟨_,rfl,(Below.refl _ _).alloc (Nat.le_refl _) _⟩
 have HI:=hid (isfew_p k od po lp ln lcp tp tn tcp wp wn wcp sk fr to q W1)
 have HB1:=hid hb1
 have HW1:=hid hW1
 clear hW1 hb1
 by_cases h:ln≤20∧tn≤30∧wn≤20
 · have hi:=HI.out
   rw [decide_eq_true h] at hi
   have HF:Hid (fewI ln tn wn=1):=hid (if_pos h)
   clear h
   go_enter Tryz.func7,Tryz.ntmps7
   go_wp2_with fail
   rw [HW1.out]
   refine hi.mono ?_
   rintro e w2 ⟨rfl,h2⟩
   have HB2:=hid (HB1.out.trans (h2.mono HB1.out.size))
   clear hi h2
   go_wp2_with fail
   go_ret
   exact⟨by rw [HF.out];rfl,HB2.out⟩
 · have hi:=HI.out
   rw [decide_eq_false h] at hi
   have HF:Hid (fewI ln tn wn=0):=hid (if_neg h)
   clear h
   go_enter Tryz.func7,Tryz.ntmps7
   go_wp2_with fail
   rw [HW1.out]
   refine hi.mono ?_
   rintro e w2 ⟨rfl,h2⟩
   have HB2:=hid (HB1.out.trans (h2.mono HB1.out.size))
   clear hi h2
   go_wp2_with fail
   go_ret
   exact⟨by rw [HF.out];rfl,HB2.out⟩
def SmV (r:Rv):Prop:=r.ln≤20∧r.tn≤30∧r.wn≤20
section
section
variable {ops:Array Oper} {rest:List Oper} {a:Act} {w:World} {Q:Exit→Act→World→Prop} {dst:Option Tmp} {ty:TypeId} {pos:String} {after:Array Edge}
end
end
abbrev JOk (M:List Tc):Prop:=TsOk M 200 1000000000000
def JActed (Ju:World→Nat→List Tc→(Nat→Prop)→Prop) (w w':World) (B:Nat) (M:List Tc) (Q:Nat→Prop):Prop:=∃ Q',Ju w' B M Q'∧(∀ j,Q' j→Q j∨w.heap.size≤j)∧Turn Q w w'
variable {NB:Nat} {Wd:World→Prop} {Ju:World→Nat→List Tc→(Nat→Prop)→Prop}
theorem JActed.ahead {w w1 w':World} {B:Nat} {M:List Tc} {Q:Nat→Prop} (hb:Below w.heap.size w w1) (h:JActed Ju w1 w' B M Q):JActed Ju w w' B M Q:=by
 obtain⟨Q',h1,h2,h3⟩:=h
 exact⟨Q',h1,fun j hj=>(h2 j hj).imp id (Nat.le_trans hb.size),(Turn.of_below (S:=Q) hb).trans h3 (fun _ _ h=>h)⟩
structure JnF (Wd:World→Prop) (Ju:World→Nat→List Tc→(Nat→Prop)→Prop):Prop where
 wd:∀ {w w':World},Wd w→Below w.heap.size w w'→Wd w'
 keep:∀ {w w':World} {B:Nat} {M:List Tc} {Q S:Nat→Prop},Ju w B M Q→Turn S w w'→(∀ j,Q j→¬ S j)→Ju w' B M Q
 lt:∀ {w:World} {B:Nat} {M:List Tc} {Q:Nat→Prop},Ju w B M Q→∀ j,Q j→j<w.heap.size
 new:∀ (p:Option Addr) (n c:Nat) (L:List Tv) (w:World),TL w p n c L→n≤100→(∀ t∈L,t.n≤100)→(∀ t∈L,0≤t.c.id∧t.c.id≤4294967295)→Calls Tryz.prog 27 #[.slice p n c] w fun e w'=>∃ B Q,e=.returned (.pointer (some ⟨B,0,none⟩))∧Ju w' B (newT Tc.id (L.map (·.c))) Q∧(∀ j,Q j→w.heap.size≤j)∧Below w.heap.size w w'
 of_:∀ (w:World) (B:Nat) (M:List Tc) (Q:Nat→Prop) (i:Int),Ju w B M Q→JOk M→0≤i∧i≤4294967295→Calls Tryz.prog 29 #[.pointer (some ⟨B,0,none⟩),.int .u32 i] w fun e w'=>∃ t:Tv,e=.returned (.tuple #[.agg #[.int .u32 t.c.id,.int .u32 t.c.sg,.int .u8 t.c.st,.bool t.c.cp,.bool t.c.dd,.slice t.p t.n t.m,.int .i64 t.c.fs,.int .i64 t.c.sz],.bool (getT Tc.sg M i).isSome])∧t.c=(getT Tc.sg M i).getD tc0∧TvM w' t∧Below w.heap.size w w'
 apply:∀ (w:World) (B:Nat) (M:List Tc) (Q:Nat→Prop) (at_:Int) (r:Rv) (La:List Ln) (Ta:List Tk) (Ma:List Ln),Wd w→Ju w B M Q→JOk M→In64 at_→RvM w r La Ta Ma→Rxok (r.x La Ta Ma)→SmV r→Calls Tryz.prog 32 #[.pointer (some ⟨B,0,none⟩),.int .i64 at_,.agg (rcs r)] w fun e w'=>e=.returned (.int .i64 (appC M at_ (r.x La Ta Ma)).2)∧JActed Ju w w' B (appC M at_ (r.x La Ta Ma)).1 Q
variable {Wd:World→Prop} {Ju:World→Nat→List Tc→(Nat→Prop)→Prop}
theorem JnF.later (I:JnF Wd Ju) {w w':World} {B:Nat} {M:List Tc} {Q:Nat→Prop} (h:Ju w B M Q) (hb:Below w.heap.size w w'):Ju w' B M Q:=I.keep (S:=fun _=>False) h (Turn.of_below hb) (fun _ _ h=>h)
end Go.Proofs.YtclbkfpbdidaiaaGreatDoor
namespace Go.Proofs.YtclbkfpbdidaiaaGreatDoor
open Go.Lib (hid)
set_option maxHeartbeats 8000000
open Go.RowKit Go.ChangeShapes Go.WideShapes Go.Deep
set_option linter.unusedVariables false
set_option linter.unusedSimpArgs false
set_option maxRecDepth 10000
def be (b:Bool):List Value:=[.bool b]
abbrev BoL (w:World) (p:Option Addr) (n c:Nat) (K:List Bool):Prop:=SlG be 1 false w p n c K
structure Yv where
 p:Rv
 rt:Int
 kp:Option Addr
 kn:Nat
 kc:Nat
def ycs (y:Yv):Array Value:=#[.int .u8 y.p.pk,.int .u32 y.p.od,.int .u8 y.p.po,.slice y.p.lp y.p.ln y.p.lcp,.slice y.p.tp y.p.tn y.p.tcp,.slice y.p.wp y.p.wn y.p.wcp,.int .u8 y.p.sk,.int .u8 y.p.fr,.int .u8 y.p.to,.int .i64 y.p.q,.int .u8 y.rt,.slice y.kp y.kn y.kc]
theorem ycs_one (y:Yv):(ycs y).all (·.oneCell')=true:=by simp [ycs,Value.oneCell']
def YB (w:World) (B:Nat) (y:Yv):Prop:=w.heap[B]?=some (.cells (ycs y) 29 (0,0))
theorem YB.later {w w':World} {B:Nat} {y:Yv} (h:YB w B y) (hb:Below w.heap.size w w'):YB w' B y:=z0b h hb
theorem YB.new (w:World) (y:Yv):YB (w.alloc (.cells (ycs y) 29)) w.heap.size y:=z0c _ _
theorem YB.at {w:World} {B:Nat} {y:Yv} (h:YB w B y):w.cell? ⟨B,10,none⟩=some (.int .u8 y.rt)∧w.cell? ⟨B,11,none⟩=some (.slice y.kp y.kn y.kc):=⟨z0a h rfl,z0a h rfl⟩
theorem ycs_prog (y:Yv):∀ j,j<(pcs y.p).size→(ycs y)[0+j]?=(pcs y.p)[j]?:=by
 intro j hj
 have h10:j<10:=hj
 rcases (by omega:j=0∨j=1∨j=2∨j=3∨j=4∨j=5∨j=6∨j=7∨j=8∨j=9) with rfl | rfl | rfl | rfl | rfl | rfl | rfl | rfl | rfl | rfl <;> rfl
theorem z2m {ops:Array Oper} {rest:List Oper} {a:Act} {w:World} {Q:Exit→Act→World→Prop} {dst:Option Tmp} {x:Operand} {ty:TypeId} {pos:String} {after:Array Edge} {B:Nat} {y:Yv} (hC:YB w B y) (hx:a.eval x=.pointer (some ⟨B,0,none⟩))
 (h:wpList Tryz.prog ops Q rest (a.put dst (.agg (pcs y.p))) w):wpList Tryz.prog ops Q (Oper.mk dst (.load 26 x) ty pos after none::rest) a w :=
 z2u rfl 26 x rfl B 0 hx 29 (ycs y) (pcs y.p) (0,0) _ hC (ycs_prog y) Tryz.underlying26 rfl (by kernel_rfl) h
theorem wpList_load_ypg {ops:Array Oper} {rest:List Oper} {a:Act} {w:World} {Q:Exit→Act→World→Prop} {dst:Option Tmp} {x:Operand} {ty:TypeId} {pos:String} {after:Array Edge} {gd:Option (Nat × Bool)} {B:Nat} {y:Yv} (hC:YB w B y) (hw:Region.wanted (Oper.mk dst (.load 26 x) ty pos after gd) (yielded ops a.tmps)=true) (hx:a.eval x=.pointer (some ⟨B,0,none⟩))
 (h:wpList Tryz.prog ops Q rest (a.put dst (.agg (pcs y.p))) w):wpList Tryz.prog ops Q (Oper.mk dst (.load 26 x) ty pos after gd::rest) a w :=
 wpList_step fun K hK=>by
  rw [if_pos hw]
  unfold Oper.wp execOp
  simp only [hx,Instr.loadAt,Instr.sureAddr,Sem.run_bind,Sem.run_pure,Result.andThen_ok,z2v w B 0 29 26 (ycs y) (pcs y.p) (0,0) _ hC (ycs_prog y) Tryz.underlying26 rfl (by kernel_rfl)]
  exact hK _ _ h
theorem z4z {ops:Array Oper} {rest:List Oper} {a:Act} {w:World} {Q:Exit→Act→World→Prop} {dst:Option Tmp} {x:Operand} {ty:TypeId} {pos:String} {after:Array Edge} {B:Nat} {y:Yv} (hC:YB w B y) (hx:a.eval x=.pointer (some ⟨B,0,none⟩))
 (h:wpList Tryz.prog ops Q rest (a.put dst (.agg (ycs y))) w):wpList Tryz.prog ops Q (Oper.mk dst (.load 29 x) ty pos after none::rest) a w :=
 wpList_load_row rfl 29 x rfl B hx 29 (ycs y) (0,0) _ hC Tryz.underlying29 rfl (by kernel_rfl) h
theorem boolCells1:Tryz.prog.cellsOf 4=1:=by kernel_rfl
theorem playCells12:Tryz.prog.cellsOf 29=12:=by kernel_rfl
section
variable {H:Type} {enc:TypeId × Value→H} {w:World} {base:Nat} {held:Bool}
theorem open_bools {fuel:Nat} {a:Option Addr} {len cap:Nat} {x:DataW H × List MemPlace}
 (h:DataW.trod enc Tryz.prog w base (fun _=>true) held fuel 27 [.slice a len cap]=some x):∃ K,BoL w a len cap K:=by
 rcases open_slice Tryz.underlying27 h with ⟨hcs,_⟩ | ⟨a',l,c,m,n,D,Pl,hcs,hb,hl,hm,hmm,hx,hi⟩
 · simp at hcs
   obtain⟨rfl,rfl,rfl⟩:=hcs
   exact⟨[],SlG.empty w⟩
 · simp at hcs
   obtain⟨rfl,rfl,rfl⟩:=hcs
   rw [if_pos rfl] at hmm
   subst hmm
   have hall:∀ i,i<len→∃ y:Bool,∀ j u,(be y)[j]?=some u→w.cell? (a'.add (i*1+j))=some u:=by
    intro i hil
    obtain⟨cs',hc,ht⟩:=hi i (by omega)
    rw [boolCells1] at hc
    obtain⟨b,hb',_⟩:=DataW.trod_bool Tryz.underlying4 ht
    subst hb'
    obtain⟨_,hcl,hat⟩:=World.cells?_some hc
    refine⟨b,fun j u hu=>?_⟩
    have hj:j<1:=(List.getElem?_eq_some_iff.1 hu).1
    have:=hat j hj
    rw [← Go.Deep.add_add,this]
    exact hu
   obtain⟨f,hf⟩:∃ f:Nat→Bool,∀ i,i<len→∀ j u,(be (f i))[j]?=some u→w.cell? (a'.add (i*1+j))=some u :=
    ⟨fun i=>if h:i<len then Classical.choose (hall i h) else false,fun i h=>by dsimp only;rw [dif_pos h];exact Classical.choose_spec (hall i h)⟩
   refine⟨(List.range len).map f,⟨by simp,hl,hm,(fun h=>by cases h),fun h0=>?_⟩⟩
   have h00:=hf 0 h0 0 _ rfl
   have hsp:a'.spot=none:=World.cell?_spot (a:=a') (by simpa [Addr.add] using h00)
   obtain⟨b,off,sp⟩:=a'
   replace hsp:sp=none:=hsp
   subst hsp
   rw [Go.WideShapes.add_plain] at h00
   refine⟨b,off,rfl,World.block_lt_of_cell? _ _ h00,fun j hj i v hv=>?_⟩
   have e:((List.range len).map f).getD j false=f j:=by
    rw [List.getD,List.getElem?_map,List.getElem?_range hj];rfl
   rw [e] at hv
   have:=hf j hj i v hv
   rwa [Go.WideShapes.add_plain,← Nat.add_assoc] at this
def PlayIn (w:World) (a:Array Value):Prop:=∃ (y:Yv) (L:List Ln) (T:List Tk) (M:List Ln) (K:List Bool),a=ycs y∧(0≤y.rt∧y.rt≤255)∧Pgok (y.p.pg L T M)∧RvM w y.p L T M∧BoL w y.kp y.kn y.kc K
theorem play_trod {fuel:Nat} {cs:List Value} {d:DataW H × List MemPlace} (hf:DataW.trod enc Tryz.prog w base (fun _=>true) held fuel 29 cs=some d):∃ (y:Yv) (L:List Ln) (T:List Tk) (M:List Ln) (K:List Bool),cs=(ycs y).toList∧(0≤y.rt∧y.rt≤255)∧Pgok (y.p.pg L T M)∧RvM w y.p L T M∧BoL w y.kp y.kn y.kc K:=by
 obtain⟨xs,n,_,_,hlen,hxl,hg⟩:=DataW.trod_struct Tryz.underlying29 hf
 rw [playCells12] at hlen
 have h3:xs.length=3:=hxl
 obtain⟨v0,v1,v2,v3,v4,v5,v6,v7,v8,v9,v10,v11,rfl⟩:∃ v0 v1 v2 v3 v4 v5 v6 v7 v8 v9 v10 v11,cs=[v0,v1,v2,v3,v4,v5,v6,v7,v8,v9,v10,v11]:=by
  match cs,hlen with
  | [a0,a1,a2,a3,a4,a5,a6,a7,a8,a9,a10,a11],_=>exact⟨a0,a1,a2,a3,a4,a5,a6,a7,a8,a9,a10,a11,rfl⟩
 have t0:=hg 0 _ rfl
 have t1:=hg 1 _ rfl
 have t2:=hg 2 _ rfl
 rw [List.getElem?_eq_getElem (by omega)] at t0 t1 t2
 have e0:DataW.trod enc Tryz.prog w base (fun _=>true) held n 26 [v0,v1,v2,v3,v4,v5,v6,v7,v8,v9]=some (xs[0]'(by omega)):=t0
 have e1:DataW.trod enc Tryz.prog w base (fun _=>true) held n 5 [v10]=some (xs[1]'(by omega)):=t1
 have e2:DataW.trod enc Tryz.prog w base (fun _=>true) held n 27 [v11]=some (xs[2]'(by omega)):=t2
 obtain⟨z1,hv1,_,wf1⟩:=DataW.trod_int Tryz.underlying5 e1
 obtain⟨k,od,po,lp,ln,lcp,tp,tn,tcp,wp,wn,wcp,sk,fr,to,q,L,T,M,hpe,hpok,hpm⟩:=prog_trod e0
 simp at hv1
 simp only [List.cons.injEq,and_true] at hpe
 obtain⟨g0,g1,g2,g3,g4,g5,g6,g7,g8,g9⟩:=hpe
 subst hv1 g0 g1 g2 g3 g4 g5 g6 g7 g8 g9
 obtain⟨kp,kn,kc,rfl⟩:=z5c Tryz.underlying27 e2
 obtain⟨K,hK⟩:=open_bools e2
 exact⟨⟨⟨0,0,0,0,false,0,0,0,0,0,k,od,po,lp,ln,lcp,tp,tn,tcp,wp,wn,wcp,sk,fr,to,q⟩,z1,kp,kn,kc⟩,L,T,M,K,rfl,bounds_u8 wf1,hpok,hpm,hK⟩
end
theorem open_play {H:Type} {enc:TypeId × Value→H} {w:World} {base b0:Nat} {held:Bool} {r:Reach} {v:Value} {d:DataW H} {p:List MemPlace}
 (hv:Value.okWide Tryz.prog w r b0 29 v) (h:DataW.Trod enc Tryz.prog w base (fun _=>true) held 29 v d p):∃ c,v=.agg c∧PlayIn w c:=by
 obtain⟨c,rfl,hsz⟩:=okWide_struct Tryz.underlying29 hv
 obtain⟨fuel,hf⟩:=h
 obtain⟨y,L,T,M,K,hcs,h1,h2,h3,h4⟩:=play_trod hf
 exact⟨c,rfl,y,L,T,M,K,Array.ext' hcs,h1,h2,h3,h4⟩
end Go.Proofs.YtclbkfpbdidaiaaGreatDoor
namespace Go.Proofs.YtclbkfpbdidaiaaGreatDoor
open Go.Lib (hid)
set_option maxHeartbeats 8000000
open Go.RowKit Go.ChangeShapes Go.WideShapes
set_option linter.unusedVariables false
set_option linter.unusedSimpArgs false
set_option maxRecDepth 10000
def fitB (c:Tc) (k:Int) (key:K) (d:Int):Bool:=if k=3 then !c.dd && decide ((c.dn.length:Int)<6) else if k=4∨k=5 then !c.dd else if k=6 then (z2r c).2 && decide ((z2r c).1=(key,d)) else if k=7 then decide ((c.dn.length:Int)=0) else false
theorem z4u (a b:Int) (h0:0≤a) (h1:0≤b) (h2:a+b≤9223372036854775807) (W:World):Calls Tryz.prog 124 #[.int .i64 a,.int .i64 b] W fun e w'=>e=.returned (.int .i64 (a+b))∧w'=W:=by
 have t1:¬ 9223372036854775807-b<a:=by omega
 go_enter Tryz.func124,Tryz.ntmps124
 go_wp2_with fail
 go_ret
 exact⟨rfl,rfl⟩
theorem jfits_any (t:Tv) (r:Rv) (W:World) (hM:TvM W t) (hx:∀ o∈t.c.dn,Ook o) (hn:t.n≤100) (hk:3≤r.k∧r.k≤7) :
 Calls Tryz.prog 94 #[.agg #[.int .u32 t.c.id,.int .u32 t.c.sg,.int .u8 t.c.st,.bool t.c.cp,.bool t.c.dd,.slice t.p t.n t.m,.int .i64 t.c.fs,.int .i64 t.c.sz],.agg (rcs r)] W fun e w'=>e=.returned (.bool (fitB t.c r.k (r.ka,r.kb,r.kc) r.d))∧Below W.heap.size W w':=by
 obtain⟨hb0,hx0,hy0⟩:=ttwo W #[.int .u32 t.c.id,.int .u32 t.c.sg,.int .u8 t.c.st,.bool t.c.cp,.bool t.c.dd,.slice t.p t.n t.m,.int .i64 t.c.fs,.int .i64 t.c.sz] (rcs r) 46 42
 have HB0:=hid hb0
 have HX:=hid hx0
 have HY:Hid (RB _ (W.heap.size+1) r):=hid hy0
 have HL:=hid fun w' (hb:Below W.heap.size W w')=>jlast_any t w' (hM.later hb) hx (by omega)
 have HLN:=hid hM.len
 have HN:=hid hn
 obtain⟨X,hX⟩:∃ X,W.heap.size=X:=⟨_,rfl⟩
 rw [hX] at HX HY
 have HXW:=hid hX
 clear hb0 hx0 hy0 hM hx hn
 go_enter Tryz.func94,Tryz.ntmps94
 go_upto_region 1 with (fail)
 clear hX
 generalize (W.alloc (.cells #[.int .u32 t.c.id,.int .u32 t.c.sg,.int .u8 t.c.st,.bool t.c.cp,.bool t.c.dd,.slice t.p t.n t.m,.int .i64 t.c.fs,.int .i64 t.c.sz] 46)).alloc (.cells (rcs r) 42)=V0 at *
 generalize X+1=Y at *
 obtain⟨x0,x1,x2,x3,x4,x5,x6,x7⟩:=z0i HX.out
 have hr0:=z0a (j:=0) HY.out (v:=.int .u8 r.k) rfl
 have y5:=z0a (j:=5) HY.out (v:=.int .u8 r.ka) rfl
 have y6:=z0a (j:=6) HY.out (v:=.int .u8 r.kb) rfl
 have y7:=z0a (j:=7) HY.out (v:=.int .u8 r.kc) rfl
 have y8:=z0a (j:=8) HY.out (v:=.int .i64 r.d) rfl
 have hkk:r.k=3∨r.k=4∨r.k=5∨r.k=6∨r.k=7:=by omega
 clear hk
 rcases hkk with hk | hk | hk | hk | hk
 · have HF:Hid (fitB t.c r.k (r.ka,r.kb,r.kc) r.d=(!t.c.dd && decide ((t.n:Int)<6))):=hid (by unfold fitB;rw [if_pos hk,HLN.out])
   rw [hk] at hr0
   clear hk
   obtain⟨q,hq⟩:∃ q,decide ((t.n:Int)<6)=q:=⟨_,rfl⟩
   rw [hq] at HF
   have HNN:=HN.out
   generalize t.c.dd=dd at *
   cases dd with
   | false =>
    go_wp2_with fail
    go_ret
    exact⟨by rw [HF.out];rfl,HB0.out⟩
   | true =>
    go_wp2_with fail
    go_ret
    exact⟨by rw [HF.out];rfl,HB0.out⟩
 · have HF:Hid (fitB t.c r.k (r.ka,r.kb,r.kc) r.d=!t.c.dd):=hid (by unfold fitB;rw [if_neg (by omega),if_pos (by omega)])
   rw [hk] at hr0
   clear hk
   go_wp2_with fail
   go_ret
   exact⟨by rw [HF.out];rfl,HB0.out⟩
 · have HF:Hid (fitB t.c r.k (r.ka,r.kb,r.kc) r.d=!t.c.dd):=hid (by unfold fitB;rw [if_neg (by omega),if_pos (by omega)])
   rw [hk] at hr0
   clear hk
   go_wp2_with fail
   go_ret
   exact⟨by rw [HF.out];rfl,HB0.out⟩
 · have HF:Hid (fitB t.c r.k (r.ka,r.kb,r.kc) r.d=((z2r t.c).2 && decide ((z2r t.c).1=((r.ka,r.kb,r.kc),r.d)))):=hid (by unfold fitB;rw [if_neg (by omega),if_neg (by omega),if_pos hk])
   rw [hk] at hr0
   clear hk
   obtain⟨⟨⟨⟨k1,k2,k3⟩,dl⟩,q⟩,hz⟩:∃ z,z2r t.c=z:=⟨_,rfl⟩
   rw [hz] at HF HL
   clear hz
   dsimp only at HF HL
   have hop:=fun w=>op_eql k1 k2 k3 dl r.ka r.kb r.kc r.d w
   go_wp2_with fail
   refine (HL.out _ HB0.out).mono ?_
   rintro e w2 ⟨rfl,hb2⟩
   have HB2:=hid (HB0.out.trans ((hb2.trans (((Below.refl w2.heap.size w2).alloc (Nat.le_refl _) (.cells #[.int .u8 k1,.int .u8 k2,.int .u8 k3,.int .i64 dl] 105)).mono hb2.size)).mono HB0.out.size))
   have HT:=hid (z0c w2 (.cells #[.int .u8 k1,.int .u8 k2,.int .u8 k3,.int .i64 dl] 105))
   have HY2:=hid ((HY.out.later hb2).later ((Below.refl w2.heap.size w2).alloc (Nat.le_refl _) (.cells #[.int .u8 k1,.int .u8 k2,.int .u8 k3,.int .i64 dl] 105)))
   clear hb2 HL x0 x1 x2 x3 x4 x5 x6 x7 hr0 y5 y6 y7 y8
   go_upto_region 9 with (fail)
   obtain⟨T,hT⟩:∃ T,w2.heap.size=T:=⟨_,rfl⟩
   rw [hT] at HT
   rw [hT]
   clear hT
   generalize w2.alloc (.cells #[.int .u8 k1,.int .u8 k2,.int .u8 k3,.int .i64 dl] 105)=W3 at *
   obtain⟨t0,t1,t2,t3⟩:=z8l HT.out
   have y5:=z0a (j:=5) HY2.out (v:=.int .u8 r.ka) rfl
   have y6:=z0a (j:=6) HY2.out (v:=.int .u8 r.kb) rfl
   have y7:=z0a (j:=7) HY2.out (v:=.int .u8 r.kc) rfl
   have y8:=z0a (j:=8) HY2.out (v:=.int .i64 r.d) rfl
   cases q with
   | false =>
    go_wp2_with fail
    go_ret
    exact⟨by rw [HF.out];rfl,HB2.out⟩
   | true =>
    obtain⟨z,hz⟩:∃ z,decide ((((k1,k2,k3),dl):O)=((r.ka,r.kb,r.kc),r.d))=z:=⟨_,rfl⟩
    rw [hz] at HF
    simp only [hz] at hop
    clear hz
    go_wp2_with fail
    go_ret
    exact⟨by rw [HF.out];rfl,HB2.out⟩
 · have HF:Hid (fitB t.c r.k (r.ka,r.kb,r.kc) r.d=decide ((t.n:Int)=0)):=hid (by unfold fitB;rw [if_neg (by omega),if_neg (by omega),if_neg (by omega),if_pos hk,HLN.out])
   rw [hk] at hr0
   clear hk
   have HQ:Hid (((t.n:Int)==0)=decide ((t.n:Int)=0)):=hid (by
    by_cases h:(t.n:Int)=0
    · rw [decide_eq_true h];simpa using h
    · rw [decide_eq_false h];simpa using h)
   obtain⟨q,hq⟩:∃ q,((t.n:Int)==0)=q:=⟨_,rfl⟩
   have HNN:=HN.out
   go_wp2_with fail
   go_ret
   exact⟨by rw [HF.out,← HQ.out,hq];rfl,HB0.out⟩
end Go.Proofs.YtclbkfpbdidaiaaGreatDoor
