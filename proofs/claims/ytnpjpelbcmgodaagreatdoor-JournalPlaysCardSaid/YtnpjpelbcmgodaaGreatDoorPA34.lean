import Derived.Test.YtnpjpelbcmgodaaGreatDoorPA33
import Derived.Test.YtnpjpelbcmgodaaGreatDoorPA05
import Derived.Test.YtnpjpelbcmgodaaGreatDoorPA38
namespace Go.Proofs.YtnpjpelbcmgodaaGreatDoor
open Go.Lib (hid)
set_option maxHeartbeats 16000000
open Go.RowKit Go.ChangeShapes Go.WideShapes
set_option linter.unusedVariables false
set_option linter.unusedSimpArgs false
set_option maxRecDepth 10000
def z9r (W:World) (X:Rx) (e:Ending) (w':World):Prop:=Below W.heap.size W w'∧if z0v X=true then ∃ p c,e=.returned (.tuple #[.slice p (z0o X).length c,.int .i64 0])∧Sl w' p (z0o X).length c (z0o X) else e=.returned (.tuple #[.slice none 0 0,.int .i64 1])
theorem rec_write_any (r:Rv) (L:List Ln) (T:List Tk) (M:List Ln) (W:World) (hok:Rxok (r.x L T M)) (hk:kOk r.k=true) (hw:Words W) (hP:RvM W r L T M) (h1:r.ln≤400∧r.tn≤400∧r.wn≤400) (hg:r.k=1→z0w 4 4 (r.pg L T M)=true):Calls Tryz.prog 105 #[.agg (rcs r)] W (z3k W (z0o (r.x L T M))):=by
 rcases z4s hk with h | h | h | h | h | h | h | h | h
 · exact rec_write1 r L T M W hok h hw hP h1 (hg h)
 · exact rec_write2 r L T M W hok h
 · exact rec_write3 r L T M W hok h
 · exact rec_write4 r L T M W hok h
 · exact rec_write5 r L T M W hok h
 · exact rec_write6 r L T M W hok h
 · exact rec_write7 r L T M W hok h
 · exact rec_write8 r L T M W hok h
 · exact rec_write9 r L T M W hok h
theorem rec_encode (r:Rv) (L:List Ln) (T:List Tk) (M:List Ln) (W:World) (hw:Words W) (hP:RvM W r L T M) (hok:Rxok (r.x L T M)) (h1:r.ln≤400∧r.tn≤400∧r.wn≤400):Calls Tryz.prog 81 #[.agg (rcs r)] W (z9r W (r.x L T M)):=by
 obtain⟨W1,hW1,hb1⟩:∃ W1,W.alloc (.cells (rcs r) 40)=W1∧Below W.heap.size W W1:=⟨_,rfl,(Below.refl _ _).alloc (Nat.le_refl _) _⟩
 obtain⟨B,hB⟩:∃ B,W.heap.size=B:=⟨_,rfl⟩
 have hrb:=RB.new W r
 rw [hW1,hB] at hrb
 have HX1:=hid hrb
 have HW1:=hid hW1
 have HB1:=hid hb1
 have HRE:=hid hB
 clear hW1 hb1 hB hrb
 have hgd:=rec_good r L T M W1 (hw.later HB1.out) (hP.later HB1.out) hok h1
 have HWR:=hid (fun (h:z0v (r.x L T M)=true) W' (hb:Below W.heap.size W W')=>rec_write_any r L T M W' hok (z6u h) (hw.later hb) (hP.later hb) h1 (fun hk=>by have:=z5u h;rw [show (r.x L T M).k=1 from hk] at this;exact this))
 clear hw hP hok h1
 cases hg:z0v (r.x L T M) with
 | false =>
  rw [hg] at hgd
  have HG:=hid hg
  clear hg
  go_enter Tryz.func81,Tryz.ntmps81
  go_upto_region 1 with (fail)
  rw [HW1.out,HRE.out]
  go_wp2_with ((with_reducible refine z0n HX1.out ?_ ?_);rfl)
  refine hgd.mono ?_
  rintro e w2 ⟨rfl,h2⟩
  have HF:Hid (z9r W (r.x L T M) (.returned (.tuple #[.slice none 0 0,.int .i64 1])) w2):=hid ⟨HB1.out.trans (h2.mono HB1.out.size),by rw [HG.out,if_neg (by decide)]⟩
  clear h2 hgd
  go_wp2_with fail
  go_ret2
  exact HF.out
 | true =>
  rw [hg] at hgd
  have HG:=hid hg
  clear hg
  go_enter Tryz.func81,Tryz.ntmps81
  go_upto_region 1 with (fail)
  rw [HW1.out,HRE.out]
  go_wp2_with ((with_reducible refine z0n HX1.out ?_ ?_);rfl)
  refine hgd.mono ?_
  rintro e w2 ⟨rfl,h2⟩
  have HB2:=hid (HB1.out.trans (h2.mono HB1.out.size))
  have HX2:=hid (HX1.out.later h2)
  clear h2 hgd
  go_wp2_with ((with_reducible refine z0n HX2.out ?_ ?_);rfl)
  refine (HWR.out HG.out w2 HB2.out).mono ?_
  rintro e w3 ⟨p3,c3,rfl,hs3,hb3⟩
  have HF:Hid (z9r W (r.x L T M) (.returned (.tuple #[.slice p3 (z0o (r.x L T M)).length c3,.int .i64 0])) w3):=hid ⟨HB2.out.trans (hb3.mono HB2.out.size),by rw [HG.out,if_pos rfl];exact⟨p3,c3,rfl,hs3⟩⟩
  clear hs3 hb3
  generalize (z0o (r.x L T M)).length=n at *
  go_wp2_with fail
  go_ret2
  exact HF.out
def z1h (X:Rx):Int:=if z0v X=true then 6+((z0o X).length:Int) else 0
theorem z8z {X:Rx} (h:z0v X=true):5≤(z0o X).length∧(z0o X).length≤407:=by
 have hk:=z6u h
 have hp:=z5u h
 rw [bytes_len hk]
 rcases z4s hk with h | h | h | h | h | h | h | h | h <;> rw [h]
 · rw [h] at hp
   have hp':z0w 4 4 X.pg=true:=hp
   have:=q0m hp'
   simp [lenK];omega
 all_goals simp [lenK]
theorem z9x (r:Rv) (L:List Ln) (T:List Tk) (M:List Ln) (W:World) (hw:Words W) (hP:RvM W r L T M) (hok:Rxok (r.x L T M)) (h1:r.ln≤400∧r.tn≤400∧r.wn≤400):Calls Tryz.prog 56 #[.agg (rcs r)] W fun e w'=>e=.returned (.int .i64 (z1h (r.x L T M)))∧Below W.heap.size W w':=by
 obtain⟨W1,hW1,hb1⟩:∃ W1,W.alloc (.cells (rcs r) 40)=W1∧Below W.heap.size W W1:=⟨_,rfl,(Below.refl _ _).alloc (Nat.le_refl _) _⟩
 obtain⟨B,hB⟩:∃ B,W.heap.size=B:=⟨_,rfl⟩
 have hrb:=RB.new W r
 rw [hW1,hB] at hrb
 have HX1:=hid hrb
 have HW1:=hid hW1
 have HB1:=hid hb1
 have HRE:=hid hB
 clear hW1 hb1 hB hrb
 have hen:=rec_encode r L T M W1 (hw.later HB1.out) (hP.later HB1.out) hok h1
 clear hw hP hok h1
 cases hg:z0v (r.x L T M) with
 | false =>
  have HG:Hid (z1h (r.x L T M)=0):=hid (by unfold z1h;rw [hg];rfl)
  have HGD:=hid hg
  clear hg
  go_enter Tryz.func56,Tryz.ntmps56
  go_upto_region 1 with (fail)
  rw [HW1.out,HRE.out]
  go_wp2_with ((with_reducible refine z0n HX1.out ?_ ?_);rfl)
  refine hen.mono ?_
  rintro e w2 ⟨hb2,hy⟩
  rw [HGD.out,if_neg (by decide)] at hy
  subst hy
  have HB2:=hid (HB1.out.trans (hb2.mono HB1.out.size))
  clear hb2 hen
  go_wp2_with fail
  refine (fsize_any _ _).mono ?_
  rintro e w3 ⟨rfl,rfl⟩
  go_wp2_with fail
  go_ret
  exact⟨by rw [HG.out];rfl,HB2.out⟩
 | true =>
  have hl:=z8z hg
  have HG:Hid (z1h (r.x L T M)=6+((z0o (r.x L T M)).length:Int)):=hid (if_pos hg)
  have HGD:=hid hg
  clear hg
  go_enter Tryz.func56,Tryz.ntmps56
  go_upto_region 1 with (fail)
  rw [HW1.out,HRE.out]
  go_wp2_with ((with_reducible refine z0n HX1.out ?_ ?_);rfl)
  refine hen.mono ?_
  rintro e w2 ⟨hb2,hy⟩
  rw [HGD.out,if_pos rfl] at hy
  obtain⟨p2,c2,rfl,_⟩:=hy
  have HB2:=hid (HB1.out.trans (hb2.mono HB1.out.size))
  clear hb2 hen
  generalize (z0o (r.x L T M)).length=n at *
  have HL:=hid hl
  clear hl
  go_wp2_with fail
  refine (fsize_any _ _).mono ?_
  rintro e w3 ⟨rfl,rfl⟩
  rw [show q0l (n:Int)=6+(n:Int) from if_neg (by have:=HL.out;omega)]
  go_wp2_with fail
  go_ret
  exact⟨by rw [HG.out];rfl,HB2.out⟩
def appC (M:List Tc) (at_:Int) (X:Rx):List Tc × Int :=
 if z0v X=false∨X.k<2∨7<X.k then (M,1)
 else if X.k=2 then
  if (getT Tc.id M X.tx).isSome=true∨(getT Tc.sg M X.sg).isSome=true then (M,11)
  else (z1q Tc.id M ⟨X.tx,X.sg,X.st,X.cp,false,[],at_,z1h X⟩,0)
 else match getT Tc.id M X.tx with
  | none=>(M,10)
  | some t =>
   if X.k=3 then (if t.dd=true∨6≤t.dn.length then (M,12) else (z1q Tc.id M { t with dn:=t.dn ++ [(X.key,X.d)],sz:=t.sz+z1h X },0))
   else if X.k=4 then (if t.dd=true then (M,12) else (z1x Tc.id M X.tx,0))
   else if X.k=5 then (if t.dd=true then (M,12) else (z1q Tc.id M { t with dd:=true,sz:=t.sz+z1h X },0))
   else if X.k=6 then (if z1v t=((X.key,X.d),true) then (z1q Tc.id M { t with dn:=t.dn.dropLast,dd:=true,sz:=t.sz+z1h X },0) else (M,12))
   else (if t.dn=[] then (z1x Tc.id M X.tx,0) else (M,12))
theorem z1t {a:Act} {w:World} {dst:Option Tmp} {x:Operand} {ty:TypeId} {pos:String} {after:Array Edge} {gd:Option (Nat × Bool)} {B:Nat} {r:Rv} (hx:a.eval x=.pointer (some ⟨B,0,none⟩)) (hC:RB w B r) :
 (execOp a.eval (Oper.mk dst (.load 40 x) ty pos after gd)).run Tryz.prog w=.ok (.value (.agg (rcs r))) w:=by
 unfold execOp
 simp only [hx,Instr.loadAt,Instr.sureAddr,Sem.run_bind,Sem.run_pure,Result.andThen_ok,run_loadVar_row w B 40 40 (rcs r) (0,0) _ hC Tryz.underlying40 rfl (by kernel_rfl)]
abbrev zr:Array Value:=#[.int .u8 0,.int .u32 0,.int .u32 0,.int .u8 0,.bool false,.int .u8 0,.int .u8 0,.int .u8 0,.int .i64 0,.int .u8 0,.int .u8 0,.int .u32 0,.int .u8 0,.slice none 0 0,.slice none 0 0,.slice none 0 0,.int .u8 0,.int .u8 0,.int .u8 0,.int .i64 0]
theorem no_lists {r:Rv} (h:r.lp=none∧r.ln=0∧r.lcp=0∧r.tp=none∧r.tn=0∧r.tcp=0∧r.wp=none∧r.wn=0∧r.wcp=0) (w:World):RvM w r [] [] []:=by
 obtain⟨e1,e2,e3,e4,e5,e6,e7,e8,e9⟩:=h
 unfold RvM
 rw [e1,e2,e3,e4,e5,e6,e7,e8,e9]
 exact⟨SlG.empty _,SlG.empty _,SlG.empty _⟩
def rm (k sg tx st:Int) (cp:Bool) (ka kb kc d o:Int):Rv:=⟨k,sg,tx,st,cp,ka,kb,kc,d,o,0,0,0,none,0,0,none,0,0,none,0,0,0,0,0,0⟩
theorem z4g (k sg tx st:Int) (cp:Bool) (ka kb kc d o:Int) (w:World):RvM w (rm k sg tx st cp ka kb kc d o) [] [] []:=no_lists ⟨rfl,rfl,rfl,rfl,rfl,rfl,rfl,rfl,rfl⟩ w
theorem put_ky (r:Rv) (a b c:Int):z8k (rcs r) 5 [.int .u8 a,.int .u8 b,.int .u8 c]=rcs { r with ka:=a,kb:=b,kc:=c }:=by simp [z8k,rcs]
theorem wpList_store_ky (a b c:Int) {ops:Array Oper} {rest:List Oper} {ac:Act} {w:World} {Q:Exit→Act→World→Prop} {dst:Option Tmp} {x y:Operand} {ty:TypeId} {pos:String} {after:Array Edge} {B:Nat} {r:Rv} (hB:RB w B r)
 (hx:ac.eval x=.pointer (some ⟨B,5,none⟩)) (hy:ac.eval y=.agg #[.int .u8 a,.int .u8 b,.int .u8 c])
 (h:wpList Tryz.prog ops Q rest (ac.put dst undef) (w.setRow B (rcs { r with ka:=a,kb:=b,kc:=c }))):wpList Tryz.prog ops Q (Oper.mk dst (.store 34 x y) ty pos after none::rest) ac w :=
 wpList_store_part rfl 34 x y rfl B 5 #[.int .u8 a,.int .u8 b,.int .u8 c] hx hy 40 (rcs r) hB (by kernel_rfl) (by show 5+3≤20;omega) (by simp [Value.oneCell']) (by rw [show (#[.int .u8 a,.int .u8 b,.int .u8 c]:Array Value).toList=[.int .u8 a,.int .u8 b,.int .u8 c] from rfl,put_ky];exact h)
theorem two_recs (W:World) (r r':Rv):∃ W1,(W.alloc (.cells (rcs r) 40)).alloc (.cells (rcs r') 40)=W1∧RB W1 W.heap.size r∧RB W1 (W.heap.size+1) r'∧Below W.heap.size W W1:=by
 refine⟨_,rfl,?_,?_,((Below.refl _ _).alloc (Nat.le_refl _) _).alloc (by simp) _⟩
 · exact (Below.heap_alloc _ _ _ (by simp)).trans (z0c W _)
 · have:=z0c (W.alloc (.cells (rcs r) 40)) (.cells (rcs r') 40)
   rw [World.size_alloc] at this
   exact this
theorem rx_eq (r r':Rv) (L:List Ln) (T:List Tk) (M:List Ln) (L':List Ln) (T':List Tk) (M':List Ln):decide (r.x L T M=r'.x L' T' M')=(r.k==r'.k && r.sg==r'.sg && r.tx==r'.tx && r.st==r'.st && r.cp==r'.cp && decide (((r.ka,r.kb,r.kc):K)=(r'.ka,r'.kb,r'.kc)) && r.d==r'.d && r.o==r'.o && decide (r.pg L T M=r'.pg L' T' M')):=by
 rw [Bool.eq_iff_iff]
 simp only [decide_eq_true_eq,Bool.and_eq_true,beq_iff_eq]
 constructor
 · intro h
   refine⟨⟨⟨⟨⟨⟨⟨⟨?_,?_⟩,?_⟩,?_⟩,?_⟩,?_⟩,?_⟩,?_⟩,?_⟩
   · exact congrArg Rx.k h
   · exact congrArg Rx.sg h
   · exact congrArg Rx.tx h
   · exact congrArg Rx.st h
   · exact congrArg Rx.cp h
   · exact congrArg Rx.key h
   · exact congrArg Rx.d h
   · exact congrArg Rx.o h
   · exact congrArg Rx.pg h
 · rintro ⟨⟨⟨⟨⟨⟨⟨⟨h1,h2⟩,h3⟩,h4⟩,h5⟩,h6⟩,h7⟩,h8⟩,h9⟩
   unfold Rv.x
   rw [h1,h2,h3,h4,h5,h6,h7,h8,h9]
theorem z3e (r r':Rv) (L:List Ln) (T:List Tk) (M:List Ln) (L':List Ln) (T':List Tk) (M':List Ln) (W:World) (hP:RvM W r L T M) (hP':RvM W r' L' T' M') (h1:r.ln≤1000∧r.tn≤1000∧r.wn≤1000) (h2:r'.ln≤1000∧r'.tn≤1000∧r'.wn≤1000):Calls Tryz.prog 49 #[.agg (rcs r),.agg (rcs r')] W fun e w'=>e=.returned (.bool (decide (r.x L T M=r'.x L' T' M')))∧Below W.heap.size W w':=by
 obtain⟨W1,hW1,hx,hx',hb1⟩:=two_recs W r r'
 have HP:=hid (hP.later hb1)
 have HP':=hid (hP'.later hb1)
 have hpp:=z6c r.pk r.od r.po r.lp r.ln r.lcp r.tp r.tn r.tcp r.wp r.wn r.wcp r.sk r.fr r.to r.q r'.pk r'.od r'.po r'.lp r'.ln r'.lcp r'.tp r'.tn r'.tcp r'.wp r'.wn r'.wcp r'.sk r'.fr r'.to r'.q L T M L' T' M' W1 HP.out HP'.out h1 h2
 have hkk:=fun w=>key_eql r.ka r.kb r.kc r'.ka r'.kb r'.kc w
 obtain⟨y,hy⟩:∃ y,decide (((r.ka,r.kb,r.kc):K)=(r'.ka,r'.kb,r'.kc))=y:=⟨_,rfl⟩
 obtain⟨z,hz⟩:∃ z,decide (r.pg L T M=r'.pg L' T' M')=z:=⟨_,rfl⟩
 have hz':decide ((⟨r.pk,r.od,r.po,L,T,M,r.sk,r.fr,r.to,r.q⟩:Pg)=⟨r'.pk,r'.od,r'.po,L',T',M',r'.sk,r'.fr,r'.to,r'.q⟩)=z:=hz
 rw [hz'] at hpp
 rw [hy] at hkk
 have HA:=hid (rx_eq r r' L T M L' T' M')
 rw [hy,hz] at HA
 have HX:=hid hx
 have HX':=hid hx'
 have HW1:=hid hW1
 have HB1:=hid hb1
 have c0:W1.cell? ⟨W.heap.size,0,none⟩=some (.int .u8 r.k):=z0a hx rfl
 have d0:W1.cell? ⟨W.heap.size+1,0,none⟩=some (.int .u8 r'.k):=z0a hx' rfl
 have c1:W1.cell? ⟨W.heap.size,1,none⟩=some (.int .u32 r.sg):=z0a hx rfl
 have d1:W1.cell? ⟨W.heap.size+1,1,none⟩=some (.int .u32 r'.sg):=z0a hx' rfl
 have c2:W1.cell? ⟨W.heap.size,2,none⟩=some (.int .u32 r.tx):=z0a hx rfl
 have d2:W1.cell? ⟨W.heap.size+1,2,none⟩=some (.int .u32 r'.tx):=z0a hx' rfl
 have c3:W1.cell? ⟨W.heap.size,3,none⟩=some (.int .u8 r.st):=z0a hx rfl
 have d3:W1.cell? ⟨W.heap.size+1,3,none⟩=some (.int .u8 r'.st):=z0a hx' rfl
 have c4:W1.cell? ⟨W.heap.size,4,none⟩=some (.bool r.cp):=z0a hx rfl
 have d4:W1.cell? ⟨W.heap.size+1,4,none⟩=some (.bool r'.cp):=z0a hx' rfl
 have c8:W1.cell? ⟨W.heap.size,8,none⟩=some (.int .i64 r.d):=z0a hx rfl
 have d8:W1.cell? ⟨W.heap.size+1,8,none⟩=some (.int .i64 r'.d):=z0a hx' rfl
 have c9:W1.cell? ⟨W.heap.size,9,none⟩=some (.int .u8 r.o):=z0a hx rfl
 have d9:W1.cell? ⟨W.heap.size+1,9,none⟩=some (.int .u8 r'.o):=z0a hx' rfl
 clear hW1 hx hx' hb1 hP hP' h1 h2 hy hz hz'
 cases qk:(r.k==r'.k)
 case false =>
  go_enter Tryz.func49,Tryz.ntmps49
  go_upto_region 1 with (fail)
  rw [HW1.out]
  go_wp2_with (first | ((with_reducible refine z0f HX.out ?_ ?_ ?_);rfl;rfl) | ((with_reducible refine z0f HX'.out ?_ ?_ ?_);rfl;rfl) | ((with_reducible refine z0e HX.out ?_ ?_ ?_);rfl;rfl) | ((with_reducible refine z0e HX'.out ?_ ?_ ?_);rfl;rfl))
  go_ret
  exact⟨by rw [HA.out,qk];rfl,HB1.out⟩
 cases qsg:(r.sg==r'.sg)
 case false =>
  go_enter Tryz.func49,Tryz.ntmps49
  go_upto_region 1 with (fail)
  rw [HW1.out]
  go_wp2_with (first | ((with_reducible refine z0f HX.out ?_ ?_ ?_);rfl;rfl) | ((with_reducible refine z0f HX'.out ?_ ?_ ?_);rfl;rfl) | ((with_reducible refine z0e HX.out ?_ ?_ ?_);rfl;rfl) | ((with_reducible refine z0e HX'.out ?_ ?_ ?_);rfl;rfl))
  go_ret
  exact⟨by rw [HA.out,qk,qsg];rfl,HB1.out⟩
 cases qtx:(r.tx==r'.tx)
 case false =>
  go_enter Tryz.func49,Tryz.ntmps49
  go_upto_region 1 with (fail)
  rw [HW1.out]
  go_wp2_with (first | ((with_reducible refine z0f HX.out ?_ ?_ ?_);rfl;rfl) | ((with_reducible refine z0f HX'.out ?_ ?_ ?_);rfl;rfl) | ((with_reducible refine z0e HX.out ?_ ?_ ?_);rfl;rfl) | ((with_reducible refine z0e HX'.out ?_ ?_ ?_);rfl;rfl))
  go_ret
  exact⟨by rw [HA.out,qk,qsg,qtx];rfl,HB1.out⟩
 cases qst:(r.st==r'.st)
 case false =>
  go_enter Tryz.func49,Tryz.ntmps49
  go_upto_region 1 with (fail)
  rw [HW1.out]
  go_wp2_with (first | ((with_reducible refine z0f HX.out ?_ ?_ ?_);rfl;rfl) | ((with_reducible refine z0f HX'.out ?_ ?_ ?_);rfl;rfl) | ((with_reducible refine z0e HX.out ?_ ?_ ?_);rfl;rfl) | ((with_reducible refine z0e HX'.out ?_ ?_ ?_);rfl;rfl))
  go_ret
  exact⟨by rw [HA.out,qk,qsg,qtx,qst];rfl,HB1.out⟩
 cases qcp:(r.cp==r'.cp)
 case false =>
  go_enter Tryz.func49,Tryz.ntmps49
  go_upto_region 1 with (fail)
  rw [HW1.out]
  go_wp2_with (first | ((with_reducible refine z0f HX.out ?_ ?_ ?_);rfl;rfl) | ((with_reducible refine z0f HX'.out ?_ ?_ ?_);rfl;rfl) | ((with_reducible refine z0e HX.out ?_ ?_ ?_);rfl;rfl) | ((with_reducible refine z0e HX'.out ?_ ?_ ?_);rfl;rfl))
  go_ret
  exact⟨by rw [HA.out,qk,qsg,qtx,qst,qcp];rfl,HB1.out⟩
 cases y
 case false =>
  go_enter Tryz.func49,Tryz.ntmps49
  go_upto_region 1 with (fail)
  rw [HW1.out]
  go_wp2_with (first | ((with_reducible refine z0f HX.out ?_ ?_ ?_);rfl;rfl) | ((with_reducible refine z0f HX'.out ?_ ?_ ?_);rfl;rfl) | ((with_reducible refine z0e HX.out ?_ ?_ ?_);rfl;rfl) | ((with_reducible refine z0e HX'.out ?_ ?_ ?_);rfl;rfl))
  go_ret
  exact⟨by rw [HA.out,qk,qsg,qtx,qst,qcp];rfl,HB1.out⟩
 cases qd:(r.d==r'.d)
 case false =>
  go_enter Tryz.func49,Tryz.ntmps49
  go_upto_region 1 with (fail)
  rw [HW1.out]
  go_wp2_with (first | ((with_reducible refine z0f HX.out ?_ ?_ ?_);rfl;rfl) | ((with_reducible refine z0f HX'.out ?_ ?_ ?_);rfl;rfl) | ((with_reducible refine z0e HX.out ?_ ?_ ?_);rfl;rfl) | ((with_reducible refine z0e HX'.out ?_ ?_ ?_);rfl;rfl))
  go_ret
  exact⟨by rw [HA.out,qk,qsg,qtx,qst,qcp,qd];rfl,HB1.out⟩
 cases qo:(r.o==r'.o)
 case false =>
  go_enter Tryz.func49,Tryz.ntmps49
  go_upto_region 1 with (fail)
  rw [HW1.out]
  go_wp2_with (first | ((with_reducible refine z0f HX.out ?_ ?_ ?_);rfl;rfl) | ((with_reducible refine z0f HX'.out ?_ ?_ ?_);rfl;rfl) | ((with_reducible refine z0e HX.out ?_ ?_ ?_);rfl;rfl) | ((with_reducible refine z0e HX'.out ?_ ?_ ?_);rfl;rfl))
  go_ret
  exact⟨by rw [HA.out,qk,qsg,qtx,qst,qcp,qd,qo];rfl,HB1.out⟩
 go_enter Tryz.func49,Tryz.ntmps49
 go_upto_region 1 with (fail)
 rw [HW1.out]
 go_wp2_with (first | ((with_reducible refine z0f HX.out ?_ ?_ ?_);rfl;rfl) | ((with_reducible refine z0f HX'.out ?_ ?_ ?_);rfl;rfl) | ((with_reducible refine z0e HX.out ?_ ?_ ?_);rfl;rfl) | ((with_reducible refine z0e HX'.out ?_ ?_ ?_);rfl;rfl))
 refine hpp.mono ?_
 rintro e w2 ⟨rfl,h2⟩
 have HB2:=hid (HB1.out.trans (h2.mono HB1.out.size))
 clear h2 hpp c0 d0 c1 d1 c2 d2 c3 d3 c4 d4 c8 d8 c9 d9
 go_wp2_with fail
 go_ret
 exact⟨by rw [HA.out,qk,qsg,qtx,qst,qcp,qd,qo];rfl,HB2.out⟩
theorem gk1 (sg tx st:Int) (cp:Bool) (key:K) (d o:Int) (pg:Pg):z0v ⟨1,sg,tx,st,cp,key,d,o,pg⟩=((sg != 0) && z0w 4 4 pg && decide ((⟨1,sg,tx,st,cp,key,d,o,pg⟩:Rx)=⟨1,sg,0,0,false,(0,0,0),0,0,pg⟩)):=by
 rw [Bool.eq_iff_iff]
 simp [z0v,kOk,kS,kT,kB,kA,kO,kP,z7a,addB,outB,z7o]
 grind
theorem gk2 (sg tx st:Int) (cp:Bool) (key:K) (d o:Int) (pg:Pg):z0v ⟨2,sg,tx,st,cp,key,d,o,pg⟩=((sg != 0) && (tx != 0) && decide (st<5) && decide ((⟨2,sg,tx,st,cp,key,d,o,pg⟩:Rx)=⟨2,sg,tx,st,cp,(0,0,0),0,0,noP⟩)):=by
 rw [Bool.eq_iff_iff]
 simp [z0v,kOk,kS,kT,kB,kA,kO,kP,z7a,addB,outB,z7o]
 grind
theorem gk3 (sg tx st:Int) (cp:Bool) (key:K) (d o:Int) (pg:Pg) (hd:In64 d):z0v ⟨3,sg,tx,st,cp,key,d,o,pg⟩=((tx != 0) && z3x 4 4 key.1 key.2.1 key.2.2 && (d != 0) && decide (-9223372036854775807≤d) && decide ((⟨3,sg,tx,st,cp,key,d,o,pg⟩:Rx)=⟨3,0,tx,0,false,key,d,0,noP⟩)):=by
 have h1:=hd.1
 have h2:(d != -9223372036854775808)=decide (-9223372036854775807≤d):=by
  rw [Bool.eq_iff_iff];simp;omega
 rw [Bool.eq_iff_iff]
 simp [z0v,kOk,kS,kT,kB,kA,kO,kP,z7a,addB,outB,z7o,h2]
 grind
theorem gk6 (sg tx st:Int) (cp:Bool) (key:K) (d o:Int) (pg:Pg) (hd:In64 d):z0v ⟨6,sg,tx,st,cp,key,d,o,pg⟩=((tx != 0) && z3x 4 4 key.1 key.2.1 key.2.2 && (d != 0) && decide (-9223372036854775807≤d) && decide ((⟨6,sg,tx,st,cp,key,d,o,pg⟩:Rx)=⟨6,0,tx,0,false,key,d,0,noP⟩)):=by
 have h1:=hd.1
 have h2:(d != -9223372036854775808)=decide (-9223372036854775807≤d):=by
  rw [Bool.eq_iff_iff];simp;omega
 rw [Bool.eq_iff_iff]
 simp [z0v,kOk,kS,kT,kB,kA,kO,kP,z7a,addB,outB,z7o,h2]
 grind
theorem gk4 (k sg tx st:Int) (cp:Bool) (key:K) (d o:Int) (pg:Pg) (hk:k=4∨k=5∨k=7):z0v ⟨k,sg,tx,st,cp,key,d,o,pg⟩=((tx != 0) && decide ((⟨k,sg,tx,st,cp,key,d,o,pg⟩:Rx)=⟨k,0,tx,0,false,(0,0,0),0,0,noP⟩)):=by
 rw [Bool.eq_iff_iff]
 rcases hk with rfl | rfl | rfl <;> simp [z0v,kOk,kS,kT,kB,kA,kO,kP,z7a,addB,outB,z7o] <;> grind
theorem gk8 (sg tx st:Int) (cp:Bool) (key:K) (d o:Int) (pg:Pg):z0v ⟨8,sg,tx,st,cp,key,d,o,pg⟩=((sg != 0) && decide ((⟨8,sg,tx,st,cp,key,d,o,pg⟩:Rx)=⟨8,sg,0,0,false,(0,0,0),0,0,noP⟩)):=by
 rw [Bool.eq_iff_iff]
 simp [z0v,kOk,kS,kT,kB,kA,kO,kP,z7a,addB,outB,z7o]
 grind
theorem gk9 (sg tx st:Int) (cp:Bool) (key:K) (d o:Int) (pg:Pg):z0v ⟨9,sg,tx,st,cp,key,d,o,pg⟩=((sg != 0) && ((o==1) || (o==2)) && decide ((⟨9,sg,tx,st,cp,key,d,o,pg⟩:Rx)=⟨9,sg,0,0,false,(0,0,0),0,o,noP⟩)):=by
 rw [Bool.eq_iff_iff]
 simp [z0v,kOk,kS,kT,kB,kA,kO,kP,z7a,addB,outB,z7o]
 grind
structure Gz (W w:World) (B Y:Nat) (r q:Rv):Prop where
 x:RB w B r
 y:RB w Y q
 below:Below W.heap.size W w
 ord:W.heap.size≤B∧B<Y
theorem Gz.later {W w w':World} {B Y:Nat} {r q:Rv} (h:Gz W w B Y r q) (hb:Below w.heap.size w w'):Gz W w' B Y r q:=⟨h.x.later hb,h.y.later hb,h.below.trans (hb.mono h.below.size),h.ord⟩
theorem Gz.put {W w:World} {B Y:Nat} {r q:Rv} (h:Gz W w B Y r q) (j:Nat) (v:Value) (q':Rv) (he:(rcs q).setIfInBounds j v=rcs q'):Gz W (w.setCell ⟨Y,j,none⟩ v) B Y r q':=by
 have ho:=h.ord
 have hc:Chg (fun k=>k=Y) w (w.setCell ⟨Y,j,none⟩ v):=(Chg.refl _ _).setCell ⟨Y,j,none⟩ _ fun _=>rfl
 exact⟨h.x.chg hc (by omega),h.y.put j v q' he,Chg.below h.below h.below.size hc fun k hk=>by omega,h.ord⟩
theorem Gz.set {W w:World} {B Y:Nat} {r q:Rv} (h:Gz W w B Y r q) (q':Rv):Gz W (w.setRow Y (rcs q')) B Y r q':=by
 have ho:=h.ord
 have hc:Chg (fun k=>k=Y) w (w.setRow Y (rcs q')):=⟨rfl,rfl,rfl,by simp [World.setRow],fun k _ hn=>setRow_other _ _ _ _ hn⟩
 exact⟨h.x.chg hc (by omega),h.y.set q',Chg.below h.below h.below.size hc fun k hk=>by omega,h.ord⟩
theorem Gz.cy {W w:World} {B Y:Nat} {r q:Rv} (h:Gz W w B Y r q) {j:Nat} {v:Value} (hj:(rcs q)[j]?=some v):w.cell? ⟨Y,j,none⟩=some v∧w.frozen? ⟨Y,j,none⟩=false:=⟨z0a h.y hj,z0m j h.y⟩
theorem Gz.cx {W w:World} {B Y:Nat} {r q:Rv} (h:Gz W w B Y r q) {j:Nat} {v:Value} (hj:(rcs r)[j]?=some v):w.cell? ⟨B,j,none⟩=some v:=z0a h.x hj
theorem rrec_good1 (r:Rv) (L:List Ln) (T:List Tk) (M:List Ln) (W:World) (hP:RvM W r L T M) (hok:Rxok (r.x L T M)) (h1:r.ln≤1000∧r.tn≤1000∧r.wn≤1000) (hk:r.k=1):Calls Tryz.prog 22 #[.agg (rcs r)] W fun e w'=>e=.returned (.bool (z0v (r.x L T M)))∧Below W.heap.size W w':=by
 have HOK:=hid hok
 have HP:=hid hP
 have HH:=hid h1
 clear hok hP h1
 obtain⟨W1,hW1,hb1⟩:∃ W1,W.alloc (.cells (rcs r) 40)=W1∧Below W.heap.size W W1:=⟨_,rfl,(Below.refl _ _).alloc (Nat.le_refl _) _⟩
 obtain⟨B,hB⟩:∃ B,W.heap.size=B:=⟨_,rfl⟩
 have hrb:=RB.new W r
 rw [hW1,hB] at hrb
 obtain⟨Y,hY⟩:∃ Y,W1.heap.size=Y:=⟨_,rfl⟩
 have hBY:B<Y:=by have:=hrb.lt;omega
 obtain⟨w1,hw1,hx1,hb1a⟩:∃ w1,W1.alloc (.cells zr 40)=w1∧RB w1 Y rz∧Below W1.heap.size W1 w1:=⟨_,rfl,by rw [← hY];exact z0c W1 _,(Below.refl _ _).alloc (Nat.le_refl _) _⟩
 have hG1:Gz W w1 B Y r rz:=⟨hrb.later hb1a,hx1,hb1.trans (hb1a.mono hb1.size),by omega,hBY⟩
 obtain⟨w2,hw2,hG2⟩:∃ w2,w1.setRow Y (rcs (rm 1 0 0 0 false 0 0 0 0 0))=w2∧Gz W w2 B Y r (rm 1 0 0 0 false 0 0 0 0 0):=⟨_,rfl,hG1.set _⟩
 have HX1:=hid hrb
 have HW1:=hid hW1
 have HRE:=hid hB
 have HYE:=hid hY
 have HW1a:=hid hw1
 have HXZ:=hid hx1
 have HW2:=hid hw2
 have HG2:=hid hG2
 have c0:W1.cell? ⟨B,0,none⟩=some (.int .u8 r.k):=z0a hrb rfl
 rw [hk] at c0
 clear hW1 hB hY hBY hw1 hx1 hb1a hG1 hw2 hG2 hb1 hrb
 have HHK:=hid hk
 go_enter Tryz.func22,Tryz.ntmps22
 go_upto_region 1 with (fail)
 rw [HW1.out,HRE.out]
 go_upto_region 2 with ((try rw [HYE.out]);(try rw [HW1a.out]);(with_reducible refine z1c (rm 1 0 0 0 false 0 0 0 0 0) HXZ.out ?_ ?_ ?_);rfl;rfl;rw [HW2.out])
 clear c0 HX1 HW1 HRE HYE HW1a HXZ HW2
 have c0:=HG2.out.cx (j:=0) (v:=.int .u8 r.k) rfl
 have c1:=HG2.out.cx (j:=1) (v:=.int .u32 r.sg) rfl
 have c2:=HG2.out.cx (j:=2) (v:=.int .u32 r.tx) rfl
 have c3:=HG2.out.cx (j:=3) (v:=.int .u8 r.st) rfl
 have c4:=HG2.out.cx (j:=4) (v:=.bool r.cp) rfl
 have c8:=HG2.out.cx (j:=8) (v:=.int .i64 r.d) rfl
 have c9:=HG2.out.cx (j:=9) (v:=.int .u8 r.o) rfl
 rw [hk] at c0
 obtain⟨cy,cf⟩:=HG2.out.cy (j:=1) (v:=.int .u32 0) rfl
 go_upto_region 7 with (fail)
 clear cy cf
 have hq:=HG2.out.put 1 (.int .u32 r.sg) (rm 1 r.sg 0 0 false 0 0 0 0 0) rfl
 generalize w2.setCell ⟨Y,1,none⟩ (.int .u32 r.sg)=w3 at *
 have HG3:=hid hq
 clear hq HG2
 clear c0 c1 c2 c3 c4 c8 c9
 have c0:=HG3.out.cx (j:=0) (v:=.int .u8 r.k) rfl
 have c1:=HG3.out.cx (j:=1) (v:=.int .u32 r.sg) rfl
 have c2:=HG3.out.cx (j:=2) (v:=.int .u32 r.tx) rfl
 have c3:=HG3.out.cx (j:=3) (v:=.int .u8 r.st) rfl
 have c4:=HG3.out.cx (j:=4) (v:=.bool r.cp) rfl
 have c8:=HG3.out.cx (j:=8) (v:=.int .i64 r.d) rfl
 have c9:=HG3.out.cx (j:=9) (v:=.int .u8 r.o) rfl
 rw [hk] at c0
 obtain⟨w4,hgen,hq⟩:∃ w4,w3.setRow Y (rcs (Rv.withP (rm 1 r.sg 0 0 false 0 0 0 0 0) r))=w4∧Gz W w4 B Y r (Rv.withP (rm 1 r.sg 0 0 false 0 0 0 0 0) r):=⟨_,rfl,HG3.out.set _⟩
 have HGEN:=hid hgen
 have HG4:=hid hq
 clear hgen hq
 go_upto_region 8 with (first | ((with_reducible refine z2r HG3.out.x ?_ ?_);rfl) | ((with_reducible refine wpList_store_pr r HG3.out.y ?_ ?_ ?_);rfl;rfl;rw [HGEN.out]))
 clear HGEN HG3
 clear c0 c1 c2 c3 c4 c8 c9
 have c0:=HG4.out.cx (j:=0) (v:=.int .u8 r.k) rfl
 have c1:=HG4.out.cx (j:=1) (v:=.int .u32 r.sg) rfl
 have c2:=HG4.out.cx (j:=2) (v:=.int .u32 r.tx) rfl
 have c3:=HG4.out.cx (j:=3) (v:=.int .u8 r.st) rfl
 have c4:=HG4.out.cx (j:=4) (v:=.bool r.cp) rfl
 have c8:=HG4.out.cx (j:=8) (v:=.int .i64 r.d) rfl
 have c9:=HG4.out.cx (j:=9) (v:=.int .u8 r.o) rfl
 rw [hk] at c0
 have HA:Hid (z0v (r.x L T M)=((r.sg != 0) && z0w 4 4 (r.pg L T M) && decide (r.x L T M=(Rv.x (Rv.withP (rm 1 r.sg 0 0 false 0 0 0 0 0) r) L T M)))):=hid (by
  have e:r.x L T M=⟨1,r.sg,r.tx,r.st,r.cp,(r.ka,r.kb,r.kc),r.d,r.o,r.pg L T M⟩:=by unfold Rv.x;rw [hk]
  rw [e,gk1 _ _ _ _ _ _ _ _]
  rfl)
 obtain⟨z,hz⟩:∃ z,decide (r.x L T M=(Rv.x (Rv.withP (rm 1 r.sg 0 0 false 0 0 0 0 0) r) L T M))=z:=⟨_,rfl⟩
 rw [hz] at HA
 have HSM:=hid (fun w (h:Gz W w B Y r (Rv.withP (rm 1 r.sg 0 0 false 0 0 0 0 0) r))=>z3e r (Rv.withP (rm 1 r.sg 0 0 false 0 0 0 0 0) r) L T M L T M w (HP.out.later h.below) (HP.out.later h.below) HH.out HH.out)
 rw [hz] at HSM
 clear hz hk
 have HGX:=HG4
 clear HG4
 cases qsg:(r.sg != 0)
 case false =>
  go_wp2_with (first | ((with_reducible refine z0d HGX.out.x ?_ ?_ ?_);rfl;rfl) | ((with_reducible refine z0d HGX.out.y ?_ ?_ ?_);rfl;rfl) | ((with_reducible refine z0e HGX.out.x ?_ ?_ ?_);rfl;rfl) | ((with_reducible refine z0f HGX.out.x ?_ ?_ ?_);rfl;rfl))
  go_ret
  exact⟨by rw [HA.out,qsg];rfl,HGX.out.below⟩
 go_wp2_with (first | ((with_reducible refine z0d HGX.out.x ?_ ?_ ?_);rfl;rfl) | ((with_reducible refine z0d HGX.out.y ?_ ?_ ?_);rfl;rfl) | ((with_reducible refine z0e HGX.out.x ?_ ?_ ?_);rfl;rfl) | ((with_reducible refine z0f HGX.out.x ?_ ?_ ?_);rfl;rfl))
 refine (rgood_p 4 4 r.pk r.od r.po r.lp r.ln r.lcp r.tp r.tn r.tcp r.wp r.wn r.wcp r.sk r.fr r.to r.q L T M w4 (HP.out.later HGX.out.below) HOK.out.pg HH.out).mono ?_
 rintro e w5 ⟨rfl,hcb⟩
 have hgp:z0w 4 4 ⟨r.pk,r.od,r.po,L,T,M,r.sk,r.fr,r.to,r.q⟩=z0w 4 4 (r.pg L T M):=rfl
 rw [hgp]
 clear hgp
 have HGX:=hid (HGX.out.later hcb)
 clear hcb
 clear c0 c1 c2 c3 c4 c8 c9
 have c0:=HGX.out.cx (j:=0) (v:=.int .u8 r.k) rfl
 have c1:=HGX.out.cx (j:=1) (v:=.int .u32 r.sg) rfl
 have c2:=HGX.out.cx (j:=2) (v:=.int .u32 r.tx) rfl
 have c3:=HGX.out.cx (j:=3) (v:=.int .u8 r.st) rfl
 have c4:=HGX.out.cx (j:=4) (v:=.bool r.cp) rfl
 have c8:=HGX.out.cx (j:=8) (v:=.int .i64 r.d) rfl
 have c9:=HGX.out.cx (j:=9) (v:=.int .u8 r.o) rfl
 rw [HHK.out] at c0
 cases qCP:z0w 4 4 (r.pg L T M)
 case false =>
  go_wp2_with (first | ((with_reducible refine z0d HGX.out.x ?_ ?_ ?_);rfl;rfl) | ((with_reducible refine z0d HGX.out.y ?_ ?_ ?_);rfl;rfl) | ((with_reducible refine z0e HGX.out.x ?_ ?_ ?_);rfl;rfl) | ((with_reducible refine z0f HGX.out.x ?_ ?_ ?_);rfl;rfl))
  go_ret
  exact⟨by rw [HA.out,qsg,qCP];rfl,HGX.out.below⟩
 go_wp2_with (first | ((with_reducible refine z0d HGX.out.x ?_ ?_ ?_);rfl;rfl) | ((with_reducible refine z0d HGX.out.y ?_ ?_ ?_);rfl;rfl) | ((with_reducible refine z0e HGX.out.x ?_ ?_ ?_);rfl;rfl) | ((with_reducible refine z0f HGX.out.x ?_ ?_ ?_);rfl;rfl))
 refine (HSM.out w5 HGX.out).mono ?_
 rintro e w6 ⟨rfl,hcb⟩
 have HB9:=hid (HGX.out.below.trans (hcb.mono HGX.out.below.size))
 clear hcb
 clear c0 c1 c2 c3 c4 c8 c9
 go_wp2_with fail
 go_ret
 exact⟨by rw [HA.out,qsg,qCP];rfl,HB9.out⟩
theorem rrec_good2 (r:Rv) (L:List Ln) (T:List Tk) (M:List Ln) (W:World) (hP:RvM W r L T M) (hok:Rxok (r.x L T M)) (h1:r.ln≤1000∧r.tn≤1000∧r.wn≤1000) (hk:r.k=2):Calls Tryz.prog 22 #[.agg (rcs r)] W fun e w'=>e=.returned (.bool (z0v (r.x L T M)))∧Below W.heap.size W w':=by
 have HOK:=hid hok
 have HP:=hid hP
 have HH:=hid h1
 clear hok hP h1
 obtain⟨W1,hW1,hb1⟩:∃ W1,W.alloc (.cells (rcs r) 40)=W1∧Below W.heap.size W W1:=⟨_,rfl,(Below.refl _ _).alloc (Nat.le_refl _) _⟩
 obtain⟨B,hB⟩:∃ B,W.heap.size=B:=⟨_,rfl⟩
 have hrb:=RB.new W r
 rw [hW1,hB] at hrb
 obtain⟨Y,hY⟩:∃ Y,W1.heap.size=Y:=⟨_,rfl⟩
 have hBY:B<Y:=by have:=hrb.lt;omega
 obtain⟨w1,hw1,hx1,hb1a⟩:∃ w1,W1.alloc (.cells zr 40)=w1∧RB w1 Y rz∧Below W1.heap.size W1 w1:=⟨_,rfl,by rw [← hY];exact z0c W1 _,(Below.refl _ _).alloc (Nat.le_refl _) _⟩
 have hG1:Gz W w1 B Y r rz:=⟨hrb.later hb1a,hx1,hb1.trans (hb1a.mono hb1.size),by omega,hBY⟩
 obtain⟨w2,hw2,hG2⟩:∃ w2,w1.setRow Y (rcs (rm 2 0 0 0 false 0 0 0 0 0))=w2∧Gz W w2 B Y r (rm 2 0 0 0 false 0 0 0 0 0):=⟨_,rfl,hG1.set _⟩
 have HX1:=hid hrb
 have HW1:=hid hW1
 have HRE:=hid hB
 have HYE:=hid hY
 have HW1a:=hid hw1
 have HXZ:=hid hx1
 have HW2:=hid hw2
 have HG2:=hid hG2
 have c0:W1.cell? ⟨B,0,none⟩=some (.int .u8 r.k):=z0a hrb rfl
 rw [hk] at c0
 clear hW1 hB hY hBY hw1 hx1 hb1a hG1 hw2 hG2 hb1 hrb
 have HHK:=hid hk
 go_enter Tryz.func22,Tryz.ntmps22
 go_upto_region 1 with (fail)
 rw [HW1.out,HRE.out]
 go_upto_region 2 with ((try rw [HYE.out]);(try rw [HW1a.out]);(with_reducible refine z1c (rm 2 0 0 0 false 0 0 0 0 0) HXZ.out ?_ ?_ ?_);rfl;rfl;rw [HW2.out])
 clear c0 HX1 HW1 HRE HYE HW1a HXZ HW2
 have c0:=HG2.out.cx (j:=0) (v:=.int .u8 r.k) rfl
 have c1:=HG2.out.cx (j:=1) (v:=.int .u32 r.sg) rfl
 have c2:=HG2.out.cx (j:=2) (v:=.int .u32 r.tx) rfl
 have c3:=HG2.out.cx (j:=3) (v:=.int .u8 r.st) rfl
 have c4:=HG2.out.cx (j:=4) (v:=.bool r.cp) rfl
 have c8:=HG2.out.cx (j:=8) (v:=.int .i64 r.d) rfl
 have c9:=HG2.out.cx (j:=9) (v:=.int .u8 r.o) rfl
 rw [hk] at c0
 obtain⟨cy,cf⟩:=HG2.out.cy (j:=1) (v:=.int .u32 0) rfl
 go_upto_region 11 with (fail)
 clear cy cf
 have hq:=HG2.out.put 1 (.int .u32 r.sg) (rm 2 r.sg 0 0 false 0 0 0 0 0) rfl
 generalize w2.setCell ⟨Y,1,none⟩ (.int .u32 r.sg)=w3 at *
 have HG3:=hid hq
 clear hq HG2
 clear c0 c1 c2 c3 c4 c8 c9
 have c0:=HG3.out.cx (j:=0) (v:=.int .u8 r.k) rfl
 have c1:=HG3.out.cx (j:=1) (v:=.int .u32 r.sg) rfl
 have c2:=HG3.out.cx (j:=2) (v:=.int .u32 r.tx) rfl
 have c3:=HG3.out.cx (j:=3) (v:=.int .u8 r.st) rfl
 have c4:=HG3.out.cx (j:=4) (v:=.bool r.cp) rfl
 have c8:=HG3.out.cx (j:=8) (v:=.int .i64 r.d) rfl
 have c9:=HG3.out.cx (j:=9) (v:=.int .u8 r.o) rfl
 rw [hk] at c0
 obtain⟨cy,cf⟩:=HG3.out.cy (j:=2) (v:=.int .u32 0) rfl
 go_upto_region 12 with (fail)
 clear cy cf
 have hq:=HG3.out.put 2 (.int .u32 r.tx) (rm 2 r.sg r.tx 0 false 0 0 0 0 0) rfl
 generalize w3.setCell ⟨Y,2,none⟩ (.int .u32 r.tx)=w4 at *
 have HG4:=hid hq
 clear hq HG3
 clear c0 c1 c2 c3 c4 c8 c9
 have c0:=HG4.out.cx (j:=0) (v:=.int .u8 r.k) rfl
 have c1:=HG4.out.cx (j:=1) (v:=.int .u32 r.sg) rfl
 have c2:=HG4.out.cx (j:=2) (v:=.int .u32 r.tx) rfl
 have c3:=HG4.out.cx (j:=3) (v:=.int .u8 r.st) rfl
 have c4:=HG4.out.cx (j:=4) (v:=.bool r.cp) rfl
 have c8:=HG4.out.cx (j:=8) (v:=.int .i64 r.d) rfl
 have c9:=HG4.out.cx (j:=9) (v:=.int .u8 r.o) rfl
 rw [hk] at c0
 obtain⟨cy,cf⟩:=HG4.out.cy (j:=3) (v:=.int .u8 0) rfl
 go_upto_region 13 with (fail)
 clear cy cf
 have hq:=HG4.out.put 3 (.int .u8 r.st) (rm 2 r.sg r.tx r.st false 0 0 0 0 0) rfl
 generalize w4.setCell ⟨Y,3,none⟩ (.int .u8 r.st)=w5 at *
 have HG5:=hid hq
 clear hq HG4
 clear c0 c1 c2 c3 c4 c8 c9
 have c0:=HG5.out.cx (j:=0) (v:=.int .u8 r.k) rfl
 have c1:=HG5.out.cx (j:=1) (v:=.int .u32 r.sg) rfl
 have c2:=HG5.out.cx (j:=2) (v:=.int .u32 r.tx) rfl
 have c3:=HG5.out.cx (j:=3) (v:=.int .u8 r.st) rfl
 have c4:=HG5.out.cx (j:=4) (v:=.bool r.cp) rfl
 have c8:=HG5.out.cx (j:=8) (v:=.int .i64 r.d) rfl
 have c9:=HG5.out.cx (j:=9) (v:=.int .u8 r.o) rfl
 rw [hk] at c0
 obtain⟨cy,cf⟩:=HG5.out.cy (j:=4) (v:=.bool false) rfl
 go_upto_region 14 with (fail)
 clear cy cf
 have hq:=HG5.out.put 4 (.bool r.cp) (rm 2 r.sg r.tx r.st r.cp 0 0 0 0 0) rfl
 generalize w5.setCell ⟨Y,4,none⟩ (.bool r.cp)=w6 at *
 have HG6:=hid hq
 clear hq HG5
 clear c0 c1 c2 c3 c4 c8 c9
 have c0:=HG6.out.cx (j:=0) (v:=.int .u8 r.k) rfl
 have c1:=HG6.out.cx (j:=1) (v:=.int .u32 r.sg) rfl
 have c2:=HG6.out.cx (j:=2) (v:=.int .u32 r.tx) rfl
 have c3:=HG6.out.cx (j:=3) (v:=.int .u8 r.st) rfl
 have c4:=HG6.out.cx (j:=4) (v:=.bool r.cp) rfl
 have c8:=HG6.out.cx (j:=8) (v:=.int .i64 r.d) rfl
 have c9:=HG6.out.cx (j:=9) (v:=.int .u8 r.o) rfl
 rw [hk] at c0
 have HA:Hid (z0v (r.x L T M)=((r.sg != 0) && (r.tx != 0) && decide (r.st<5) && decide (r.x L T M=(Rv.x (rm 2 r.sg r.tx r.st r.cp 0 0 0 0 0) [] [] [])))):=hid (by
  have e:r.x L T M=⟨2,r.sg,r.tx,r.st,r.cp,(r.ka,r.kb,r.kc),r.d,r.o,r.pg L T M⟩:=by unfold Rv.x;rw [hk]
  rw [e,gk2 _ _ _ _ _ _ _ _]
  rfl)
 obtain⟨z,hz⟩:∃ z,decide (r.x L T M=(Rv.x (rm 2 r.sg r.tx r.st r.cp 0 0 0 0 0) [] [] []))=z:=⟨_,rfl⟩
 rw [hz] at HA
 have HSM:=hid (fun w (h:Gz W w B Y r (rm 2 r.sg r.tx r.st r.cp 0 0 0 0 0))=>z3e r (rm 2 r.sg r.tx r.st r.cp 0 0 0 0 0) L T M [] [] [] w (HP.out.later h.below) (z4g _ _ _ _ _ _ _ _ _ _ _) HH.out ⟨Nat.zero_le _,Nat.zero_le _,Nat.zero_le _⟩)
 rw [hz] at HSM
 clear hz hk
 have HGX:=HG6
 clear HG6
 cases qsg:(r.sg != 0)
 case false =>
  go_wp2_with (first | ((with_reducible refine z0d HGX.out.x ?_ ?_ ?_);rfl;rfl) | ((with_reducible refine z0d HGX.out.y ?_ ?_ ?_);rfl;rfl) | ((with_reducible refine z0e HGX.out.x ?_ ?_ ?_);rfl;rfl) | ((with_reducible refine z0f HGX.out.x ?_ ?_ ?_);rfl;rfl))
  go_ret
  exact⟨by rw [HA.out,qsg];rfl,HGX.out.below⟩
 cases qtx:(r.tx != 0)
 case false =>
  go_wp2_with (first | ((with_reducible refine z0d HGX.out.x ?_ ?_ ?_);rfl;rfl) | ((with_reducible refine z0d HGX.out.y ?_ ?_ ?_);rfl;rfl) | ((with_reducible refine z0e HGX.out.x ?_ ?_ ?_);rfl;rfl) | ((with_reducible refine z0f HGX.out.x ?_ ?_ ?_);rfl;rfl))
  go_ret
  exact⟨by rw [HA.out,qsg,qtx];rfl,HGX.out.below⟩
 cases qLT:decide (r.st<5)
 case false =>
  go_wp2_with (first | ((with_reducible refine z0d HGX.out.x ?_ ?_ ?_);rfl;rfl) | ((with_reducible refine z0d HGX.out.y ?_ ?_ ?_);rfl;rfl) | ((with_reducible refine z0e HGX.out.x ?_ ?_ ?_);rfl;rfl) | ((with_reducible refine z0f HGX.out.x ?_ ?_ ?_);rfl;rfl))
  go_ret
  exact⟨by rw [HA.out,qsg,qtx,qLT];rfl,HGX.out.below⟩
 go_wp2_with (first | ((with_reducible refine z0d HGX.out.x ?_ ?_ ?_);rfl;rfl) | ((with_reducible refine z0d HGX.out.y ?_ ?_ ?_);rfl;rfl) | ((with_reducible refine z0e HGX.out.x ?_ ?_ ?_);rfl;rfl) | ((with_reducible refine z0f HGX.out.x ?_ ?_ ?_);rfl;rfl))
 refine (HSM.out w6 HGX.out).mono ?_
 rintro e w7 ⟨rfl,hcb⟩
 have HB9:=hid (HGX.out.below.trans (hcb.mono HGX.out.below.size))
 clear hcb
 clear c0 c1 c2 c3 c4 c8 c9
 go_wp2_with fail
 go_ret
 exact⟨by rw [HA.out,qsg,qtx,qLT];rfl,HB9.out⟩
theorem rrec_good3 (r:Rv) (L:List Ln) (T:List Tk) (M:List Ln) (W:World) (hP:RvM W r L T M) (hok:Rxok (r.x L T M)) (h1:r.ln≤1000∧r.tn≤1000∧r.wn≤1000) (hk:r.k=3):Calls Tryz.prog 22 #[.agg (rcs r)] W fun e w'=>e=.returned (.bool (z0v (r.x L T M)))∧Below W.heap.size W w':=by
 have HOK:=hid hok
 have HP:=hid hP
 have HH:=hid h1
 clear hok hP h1
 obtain⟨W1,hW1,hb1⟩:∃ W1,W.alloc (.cells (rcs r) 40)=W1∧Below W.heap.size W W1:=⟨_,rfl,(Below.refl _ _).alloc (Nat.le_refl _) _⟩
 obtain⟨B,hB⟩:∃ B,W.heap.size=B:=⟨_,rfl⟩
 have hrb:=RB.new W r
 rw [hW1,hB] at hrb
 obtain⟨Y,hY⟩:∃ Y,W1.heap.size=Y:=⟨_,rfl⟩
 have hBY:B<Y:=by have:=hrb.lt;omega
 obtain⟨w1,hw1,hx1,hb1a⟩:∃ w1,W1.alloc (.cells zr 40)=w1∧RB w1 Y rz∧Below W1.heap.size W1 w1:=⟨_,rfl,by rw [← hY];exact z0c W1 _,(Below.refl _ _).alloc (Nat.le_refl _) _⟩
 have hG1:Gz W w1 B Y r rz:=⟨hrb.later hb1a,hx1,hb1.trans (hb1a.mono hb1.size),by omega,hBY⟩
 obtain⟨w2,hw2,hG2⟩:∃ w2,w1.setRow Y (rcs (rm 3 0 0 0 false 0 0 0 0 0))=w2∧Gz W w2 B Y r (rm 3 0 0 0 false 0 0 0 0 0):=⟨_,rfl,hG1.set _⟩
 have HX1:=hid hrb
 have HW1:=hid hW1
 have HRE:=hid hB
 have HYE:=hid hY
 have HW1a:=hid hw1
 have HXZ:=hid hx1
 have HW2:=hid hw2
 have HG2:=hid hG2
 have c0:W1.cell? ⟨B,0,none⟩=some (.int .u8 r.k):=z0a hrb rfl
 rw [hk] at c0
 clear hW1 hB hY hBY hw1 hx1 hb1a hG1 hw2 hG2 hb1 hrb
 have HHK:=hid hk
 go_enter Tryz.func22,Tryz.ntmps22
 go_upto_region 1 with (fail)
 rw [HW1.out,HRE.out]
 go_upto_region 2 with ((try rw [HYE.out]);(try rw [HW1a.out]);(with_reducible refine z1c (rm 3 0 0 0 false 0 0 0 0 0) HXZ.out ?_ ?_ ?_);rfl;rfl;rw [HW2.out])
 clear c0 HX1 HW1 HRE HYE HW1a HXZ HW2
 have c0:=HG2.out.cx (j:=0) (v:=.int .u8 r.k) rfl
 have c1:=HG2.out.cx (j:=1) (v:=.int .u32 r.sg) rfl
 have c2:=HG2.out.cx (j:=2) (v:=.int .u32 r.tx) rfl
 have c3:=HG2.out.cx (j:=3) (v:=.int .u8 r.st) rfl
 have c4:=HG2.out.cx (j:=4) (v:=.bool r.cp) rfl
 have c8:=HG2.out.cx (j:=8) (v:=.int .i64 r.d) rfl
 have c9:=HG2.out.cx (j:=9) (v:=.int .u8 r.o) rfl
 rw [hk] at c0
 obtain⟨cy,cf⟩:=HG2.out.cy (j:=2) (v:=.int .u32 0) rfl
 go_upto_region 18 with (fail)
 clear cy cf
 have hq:=HG2.out.put 2 (.int .u32 r.tx) (rm 3 0 r.tx 0 false 0 0 0 0 0) rfl
 generalize w2.setCell ⟨Y,2,none⟩ (.int .u32 r.tx)=w3 at *
 have HG3:=hid hq
 clear hq HG2
 clear c0 c1 c2 c3 c4 c8 c9
 have c0:=HG3.out.cx (j:=0) (v:=.int .u8 r.k) rfl
 have c1:=HG3.out.cx (j:=1) (v:=.int .u32 r.sg) rfl
 have c2:=HG3.out.cx (j:=2) (v:=.int .u32 r.tx) rfl
 have c3:=HG3.out.cx (j:=3) (v:=.int .u8 r.st) rfl
 have c4:=HG3.out.cx (j:=4) (v:=.bool r.cp) rfl
 have c8:=HG3.out.cx (j:=8) (v:=.int .i64 r.d) rfl
 have c9:=HG3.out.cx (j:=9) (v:=.int .u8 r.o) rfl
 rw [hk] at c0
 obtain⟨w4,hgen,hq⟩:∃ w4,w3.setRow Y (rcs { (rm 3 0 r.tx 0 false 0 0 0 0 0) with ka:=r.ka,kb:=r.kb,kc:=r.kc })=w4∧Gz W w4 B Y r (rm 3 0 r.tx 0 false r.ka r.kb r.kc 0 0):=⟨_,rfl,HG3.out.set (rm 3 0 r.tx 0 false r.ka r.kb r.kc 0 0)⟩
 have HGEN:=hid hgen
 have HG4:=hid hq
 clear hgen hq
 go_upto_region 19 with (first | ((with_reducible refine z2b HG3.out.x ?_ ?_);rfl) | ((with_reducible refine wpList_store_ky r.ka r.kb r.kc HG3.out.y ?_ ?_ ?_);rfl;rfl;rw [HGEN.out]))
 clear HGEN HG3
 clear c0 c1 c2 c3 c4 c8 c9
 have c0:=HG4.out.cx (j:=0) (v:=.int .u8 r.k) rfl
 have c1:=HG4.out.cx (j:=1) (v:=.int .u32 r.sg) rfl
 have c2:=HG4.out.cx (j:=2) (v:=.int .u32 r.tx) rfl
 have c3:=HG4.out.cx (j:=3) (v:=.int .u8 r.st) rfl
 have c4:=HG4.out.cx (j:=4) (v:=.bool r.cp) rfl
 have c8:=HG4.out.cx (j:=8) (v:=.int .i64 r.d) rfl
 have c9:=HG4.out.cx (j:=9) (v:=.int .u8 r.o) rfl
 rw [hk] at c0
 obtain⟨cy,cf⟩:=HG4.out.cy (j:=8) (v:=.int .i64 0) rfl
 go_upto_region 20 with (fail)
 clear cy cf
 have hq:=HG4.out.put 8 (.int .i64 r.d) (rm 3 0 r.tx 0 false r.ka r.kb r.kc r.d 0) rfl
 generalize w4.setCell ⟨Y,8,none⟩ (.int .i64 r.d)=w5 at *
 have HG5:=hid hq
 clear hq HG4
 clear c0 c1 c2 c3 c4 c8 c9
 have c0:=HG5.out.cx (j:=0) (v:=.int .u8 r.k) rfl
 have c1:=HG5.out.cx (j:=1) (v:=.int .u32 r.sg) rfl
 have c2:=HG5.out.cx (j:=2) (v:=.int .u32 r.tx) rfl
 have c3:=HG5.out.cx (j:=3) (v:=.int .u8 r.st) rfl
 have c4:=HG5.out.cx (j:=4) (v:=.bool r.cp) rfl
 have c8:=HG5.out.cx (j:=8) (v:=.int .i64 r.d) rfl
 have c9:=HG5.out.cx (j:=9) (v:=.int .u8 r.o) rfl
 rw [hk] at c0
 have HA:Hid (z0v (r.x L T M)=((r.tx != 0) && z3x 4 4 r.ka r.kb r.kc && (r.d != 0) && decide (-9223372036854775807≤r.d) && decide (r.x L T M=(Rv.x (rm 3 0 r.tx 0 false r.ka r.kb r.kc r.d 0) [] [] [])))):=hid (by
  have e:r.x L T M=⟨3,r.sg,r.tx,r.st,r.cp,(r.ka,r.kb,r.kc),r.d,r.o,r.pg L T M⟩:=by unfold Rv.x;rw [hk]
  rw [e,gk3 _ _ _ _ _ _ _ _ (show In64 r.d from HOK.out.d)]
  rfl)
 obtain⟨z,hz⟩:∃ z,decide (r.x L T M=(Rv.x (rm 3 0 r.tx 0 false r.ka r.kb r.kc r.d 0) [] [] []))=z:=⟨_,rfl⟩
 rw [hz] at HA
 have HSM:=hid (fun w (h:Gz W w B Y r (rm 3 0 r.tx 0 false r.ka r.kb r.kc r.d 0))=>z3e r (rm 3 0 r.tx 0 false r.ka r.kb r.kc r.d 0) L T M [] [] [] w (HP.out.later h.below) (z4g _ _ _ _ _ _ _ _ _ _ _) HH.out ⟨Nat.zero_le _,Nat.zero_le _,Nat.zero_le _⟩)
 rw [hz] at HSM
 clear hz hk
 have HGX:=HG5
 clear HG5
 cases qtx:(r.tx != 0)
 case false =>
  go_wp2_with (first | ((with_reducible refine z0d HGX.out.x ?_ ?_ ?_);rfl;rfl) | ((with_reducible refine z0d HGX.out.y ?_ ?_ ?_);rfl;rfl) | ((with_reducible refine z0e HGX.out.x ?_ ?_ ?_);rfl;rfl) | ((with_reducible refine z0f HGX.out.x ?_ ?_ ?_);rfl;rfl))
  go_ret
  exact⟨by rw [HA.out,qtx];rfl,HGX.out.below⟩
 go_wp2_with (first | ((with_reducible refine z0d HGX.out.x ?_ ?_ ?_);rfl;rfl) | ((with_reducible refine z0d HGX.out.y ?_ ?_ ?_);rfl;rfl) | ((with_reducible refine z0e HGX.out.x ?_ ?_ ?_);rfl;rfl) | ((with_reducible refine z0f HGX.out.x ?_ ?_ ?_);rfl;rfl))
 refine (refgood_any 4 4 r.ka r.kb r.kc HOK.out.key.2.1 HOK.out.key.2.2 w5).mono ?_
 rintro e w6 ⟨rfl,hgr⟩
 have hcb:=hgr.below
 clear hgr
 have HGX:=hid (HGX.out.later hcb)
 clear hcb
 clear c0 c1 c2 c3 c4 c8 c9
 have c0:=HGX.out.cx (j:=0) (v:=.int .u8 r.k) rfl
 have c1:=HGX.out.cx (j:=1) (v:=.int .u32 r.sg) rfl
 have c2:=HGX.out.cx (j:=2) (v:=.int .u32 r.tx) rfl
 have c3:=HGX.out.cx (j:=3) (v:=.int .u8 r.st) rfl
 have c4:=HGX.out.cx (j:=4) (v:=.bool r.cp) rfl
 have c8:=HGX.out.cx (j:=8) (v:=.int .i64 r.d) rfl
 have c9:=HGX.out.cx (j:=9) (v:=.int .u8 r.o) rfl
 rw [HHK.out] at c0
 cases qCK:z3x 4 4 r.ka r.kb r.kc
 case false =>
  go_wp2_with (first | ((with_reducible refine z0d HGX.out.x ?_ ?_ ?_);rfl;rfl) | ((with_reducible refine z0d HGX.out.y ?_ ?_ ?_);rfl;rfl) | ((with_reducible refine z0e HGX.out.x ?_ ?_ ?_);rfl;rfl) | ((with_reducible refine z0f HGX.out.x ?_ ?_ ?_);rfl;rfl))
  go_ret
  exact⟨by rw [HA.out,qtx,qCK];rfl,HGX.out.below⟩
 cases qdn:(r.d != 0)
 case false =>
  go_wp2_with (first | ((with_reducible refine z0d HGX.out.x ?_ ?_ ?_);rfl;rfl) | ((with_reducible refine z0d HGX.out.y ?_ ?_ ?_);rfl;rfl) | ((with_reducible refine z0e HGX.out.x ?_ ?_ ?_);rfl;rfl) | ((with_reducible refine z0f HGX.out.x ?_ ?_ ?_);rfl;rfl))
  go_ret
  exact⟨by rw [HA.out,qtx,qCK,qdn];rfl,HGX.out.below⟩
 cases qdg:decide (-9223372036854775807≤r.d)
 case false =>
  go_wp2_with (first | ((with_reducible refine z0d HGX.out.x ?_ ?_ ?_);rfl;rfl) | ((with_reducible refine z0d HGX.out.y ?_ ?_ ?_);rfl;rfl) | ((with_reducible refine z0e HGX.out.x ?_ ?_ ?_);rfl;rfl) | ((with_reducible refine z0f HGX.out.x ?_ ?_ ?_);rfl;rfl))
  go_ret
  exact⟨by rw [HA.out,qtx,qCK,qdn,qdg];rfl,HGX.out.below⟩
 go_wp2_with (first | ((with_reducible refine z0d HGX.out.x ?_ ?_ ?_);rfl;rfl) | ((with_reducible refine z0d HGX.out.y ?_ ?_ ?_);rfl;rfl) | ((with_reducible refine z0e HGX.out.x ?_ ?_ ?_);rfl;rfl) | ((with_reducible refine z0f HGX.out.x ?_ ?_ ?_);rfl;rfl))
 refine (HSM.out w6 HGX.out).mono ?_
 rintro e w7 ⟨rfl,hcb⟩
 have HB9:=hid (HGX.out.below.trans (hcb.mono HGX.out.below.size))
 clear hcb
 clear c0 c1 c2 c3 c4 c8 c9
 go_wp2_with fail
 go_ret
 exact⟨by rw [HA.out,qtx,qCK,qdn,qdg];rfl,HB9.out⟩
theorem rrec_good4 (r:Rv) (L:List Ln) (T:List Tk) (M:List Ln) (W:World) (hP:RvM W r L T M) (hok:Rxok (r.x L T M)) (h1:r.ln≤1000∧r.tn≤1000∧r.wn≤1000) (hk:r.k=4):Calls Tryz.prog 22 #[.agg (rcs r)] W fun e w'=>e=.returned (.bool (z0v (r.x L T M)))∧Below W.heap.size W w':=by
 have HOK:=hid hok
 have HP:=hid hP
 have HH:=hid h1
 clear hok hP h1
 obtain⟨W1,hW1,hb1⟩:∃ W1,W.alloc (.cells (rcs r) 40)=W1∧Below W.heap.size W W1:=⟨_,rfl,(Below.refl _ _).alloc (Nat.le_refl _) _⟩
 obtain⟨B,hB⟩:∃ B,W.heap.size=B:=⟨_,rfl⟩
 have hrb:=RB.new W r
 rw [hW1,hB] at hrb
 obtain⟨Y,hY⟩:∃ Y,W1.heap.size=Y:=⟨_,rfl⟩
 have hBY:B<Y:=by have:=hrb.lt;omega
 obtain⟨w1,hw1,hx1,hb1a⟩:∃ w1,W1.alloc (.cells zr 40)=w1∧RB w1 Y rz∧Below W1.heap.size W1 w1:=⟨_,rfl,by rw [← hY];exact z0c W1 _,(Below.refl _ _).alloc (Nat.le_refl _) _⟩
 have hG1:Gz W w1 B Y r rz:=⟨hrb.later hb1a,hx1,hb1.trans (hb1a.mono hb1.size),by omega,hBY⟩
 obtain⟨w2,hw2,hG2⟩:∃ w2,w1.setRow Y (rcs (rm 4 0 0 0 false 0 0 0 0 0))=w2∧Gz W w2 B Y r (rm 4 0 0 0 false 0 0 0 0 0):=⟨_,rfl,hG1.set _⟩
 have HX1:=hid hrb
 have HW1:=hid hW1
 have HRE:=hid hB
 have HYE:=hid hY
 have HW1a:=hid hw1
 have HXZ:=hid hx1
 have HW2:=hid hw2
 have HG2:=hid hG2
 have c0:W1.cell? ⟨B,0,none⟩=some (.int .u8 r.k):=z0a hrb rfl
 rw [hk] at c0
 clear hW1 hB hY hBY hw1 hx1 hb1a hG1 hw2 hG2 hb1 hrb
 have HHK:=hid hk
 go_enter Tryz.func22,Tryz.ntmps22
 go_upto_region 1 with (fail)
 rw [HW1.out,HRE.out]
 go_upto_region 2 with ((try rw [HYE.out]);(try rw [HW1a.out]);(with_reducible refine z1c (rm 4 0 0 0 false 0 0 0 0 0) HXZ.out ?_ ?_ ?_);rfl;rfl;rw [HW2.out])
 clear c0 HX1 HW1 HRE HYE HW1a HXZ HW2
 have c0:=HG2.out.cx (j:=0) (v:=.int .u8 r.k) rfl
 have c1:=HG2.out.cx (j:=1) (v:=.int .u32 r.sg) rfl
 have c2:=HG2.out.cx (j:=2) (v:=.int .u32 r.tx) rfl
 have c3:=HG2.out.cx (j:=3) (v:=.int .u8 r.st) rfl
 have c4:=HG2.out.cx (j:=4) (v:=.bool r.cp) rfl
 have c8:=HG2.out.cx (j:=8) (v:=.int .i64 r.d) rfl
 have c9:=HG2.out.cx (j:=9) (v:=.int .u8 r.o) rfl
 rw [hk] at c0
 obtain⟨cy,cf⟩:=HG2.out.cy (j:=2) (v:=.int .u32 0) rfl
 go_upto_region 25 with (fail)
 clear cy cf
 have hq:=HG2.out.put 2 (.int .u32 r.tx) (rm 4 0 r.tx 0 false 0 0 0 0 0) rfl
 generalize w2.setCell ⟨Y,2,none⟩ (.int .u32 r.tx)=w3 at *
 have HG3:=hid hq
 clear hq HG2
 clear c0 c1 c2 c3 c4 c8 c9
 have c0:=HG3.out.cx (j:=0) (v:=.int .u8 r.k) rfl
 have c1:=HG3.out.cx (j:=1) (v:=.int .u32 r.sg) rfl
 have c2:=HG3.out.cx (j:=2) (v:=.int .u32 r.tx) rfl
 have c3:=HG3.out.cx (j:=3) (v:=.int .u8 r.st) rfl
 have c4:=HG3.out.cx (j:=4) (v:=.bool r.cp) rfl
 have c8:=HG3.out.cx (j:=8) (v:=.int .i64 r.d) rfl
 have c9:=HG3.out.cx (j:=9) (v:=.int .u8 r.o) rfl
 rw [hk] at c0
 have HA:Hid (z0v (r.x L T M)=((r.tx != 0) && decide (r.x L T M=(Rv.x (rm 4 0 r.tx 0 false 0 0 0 0 0) [] [] [])))):=hid (by
  have e:r.x L T M=⟨4,r.sg,r.tx,r.st,r.cp,(r.ka,r.kb,r.kc),r.d,r.o,r.pg L T M⟩:=by unfold Rv.x;rw [hk]
  rw [e,gk4 _ _ _ _ _ _ _ _ _ (Or.inl rfl)]
  rfl)
 obtain⟨z,hz⟩:∃ z,decide (r.x L T M=(Rv.x (rm 4 0 r.tx 0 false 0 0 0 0 0) [] [] []))=z:=⟨_,rfl⟩
 rw [hz] at HA
 have HSM:=hid (fun w (h:Gz W w B Y r (rm 4 0 r.tx 0 false 0 0 0 0 0))=>z3e r (rm 4 0 r.tx 0 false 0 0 0 0 0) L T M [] [] [] w (HP.out.later h.below) (z4g _ _ _ _ _ _ _ _ _ _ _) HH.out ⟨Nat.zero_le _,Nat.zero_le _,Nat.zero_le _⟩)
 rw [hz] at HSM
 clear hz hk
 have HGX:=HG3
 clear HG3
 cases qtx:(r.tx != 0)
 case false =>
  go_wp2_with (first | ((with_reducible refine z0d HGX.out.x ?_ ?_ ?_);rfl;rfl) | ((with_reducible refine z0d HGX.out.y ?_ ?_ ?_);rfl;rfl) | ((with_reducible refine z0e HGX.out.x ?_ ?_ ?_);rfl;rfl) | ((with_reducible refine z0f HGX.out.x ?_ ?_ ?_);rfl;rfl))
  go_ret
  exact⟨by rw [HA.out,qtx];rfl,HGX.out.below⟩
 go_wp2_with (first | ((with_reducible refine z0d HGX.out.x ?_ ?_ ?_);rfl;rfl) | ((with_reducible refine z0d HGX.out.y ?_ ?_ ?_);rfl;rfl) | ((with_reducible refine z0e HGX.out.x ?_ ?_ ?_);rfl;rfl) | ((with_reducible refine z0f HGX.out.x ?_ ?_ ?_);rfl;rfl))
 refine (HSM.out w3 HGX.out).mono ?_
 rintro e w4 ⟨rfl,hcb⟩
 have HB9:=hid (HGX.out.below.trans (hcb.mono HGX.out.below.size))
 clear hcb
 clear c0 c1 c2 c3 c4 c8 c9
 go_wp2_with fail
 go_ret
 exact⟨by rw [HA.out,qtx];rfl,HB9.out⟩
theorem rrec_good5 (r:Rv) (L:List Ln) (T:List Tk) (M:List Ln) (W:World) (hP:RvM W r L T M) (hok:Rxok (r.x L T M)) (h1:r.ln≤1000∧r.tn≤1000∧r.wn≤1000) (hk:r.k=5):Calls Tryz.prog 22 #[.agg (rcs r)] W fun e w'=>e=.returned (.bool (z0v (r.x L T M)))∧Below W.heap.size W w':=by
 have HOK:=hid hok
 have HP:=hid hP
 have HH:=hid h1
 clear hok hP h1
 obtain⟨W1,hW1,hb1⟩:∃ W1,W.alloc (.cells (rcs r) 40)=W1∧Below W.heap.size W W1:=⟨_,rfl,(Below.refl _ _).alloc (Nat.le_refl _) _⟩
 obtain⟨B,hB⟩:∃ B,W.heap.size=B:=⟨_,rfl⟩
 have hrb:=RB.new W r
 rw [hW1,hB] at hrb
 obtain⟨Y,hY⟩:∃ Y,W1.heap.size=Y:=⟨_,rfl⟩
 have hBY:B<Y:=by have:=hrb.lt;omega
 obtain⟨w1,hw1,hx1,hb1a⟩:∃ w1,W1.alloc (.cells zr 40)=w1∧RB w1 Y rz∧Below W1.heap.size W1 w1:=⟨_,rfl,by rw [← hY];exact z0c W1 _,(Below.refl _ _).alloc (Nat.le_refl _) _⟩
 have hG1:Gz W w1 B Y r rz:=⟨hrb.later hb1a,hx1,hb1.trans (hb1a.mono hb1.size),by omega,hBY⟩
 obtain⟨w2,hw2,hG2⟩:∃ w2,w1.setRow Y (rcs (rm 5 0 0 0 false 0 0 0 0 0))=w2∧Gz W w2 B Y r (rm 5 0 0 0 false 0 0 0 0 0):=⟨_,rfl,hG1.set _⟩
 have HX1:=hid hrb
 have HW1:=hid hW1
 have HRE:=hid hB
 have HYE:=hid hY
 have HW1a:=hid hw1
 have HXZ:=hid hx1
 have HW2:=hid hw2
 have HG2:=hid hG2
 have c0:W1.cell? ⟨B,0,none⟩=some (.int .u8 r.k):=z0a hrb rfl
 rw [hk] at c0
 clear hW1 hB hY hBY hw1 hx1 hb1a hG1 hw2 hG2 hb1 hrb
 have HHK:=hid hk
 go_enter Tryz.func22,Tryz.ntmps22
 go_upto_region 1 with (fail)
 rw [HW1.out,HRE.out]
 go_upto_region 2 with ((try rw [HYE.out]);(try rw [HW1a.out]);(with_reducible refine z1c (rm 5 0 0 0 false 0 0 0 0 0) HXZ.out ?_ ?_ ?_);rfl;rfl;rw [HW2.out])
 clear c0 HX1 HW1 HRE HYE HW1a HXZ HW2
 have c0:=HG2.out.cx (j:=0) (v:=.int .u8 r.k) rfl
 have c1:=HG2.out.cx (j:=1) (v:=.int .u32 r.sg) rfl
 have c2:=HG2.out.cx (j:=2) (v:=.int .u32 r.tx) rfl
 have c3:=HG2.out.cx (j:=3) (v:=.int .u8 r.st) rfl
 have c4:=HG2.out.cx (j:=4) (v:=.bool r.cp) rfl
 have c8:=HG2.out.cx (j:=8) (v:=.int .i64 r.d) rfl
 have c9:=HG2.out.cx (j:=9) (v:=.int .u8 r.o) rfl
 rw [hk] at c0
 obtain⟨cy,cf⟩:=HG2.out.cy (j:=2) (v:=.int .u32 0) rfl
 go_upto_region 25 with (fail)
 clear cy cf
 have hq:=HG2.out.put 2 (.int .u32 r.tx) (rm 5 0 r.tx 0 false 0 0 0 0 0) rfl
 generalize w2.setCell ⟨Y,2,none⟩ (.int .u32 r.tx)=w3 at *
 have HG3:=hid hq
 clear hq HG2
 clear c0 c1 c2 c3 c4 c8 c9
 have c0:=HG3.out.cx (j:=0) (v:=.int .u8 r.k) rfl
 have c1:=HG3.out.cx (j:=1) (v:=.int .u32 r.sg) rfl
 have c2:=HG3.out.cx (j:=2) (v:=.int .u32 r.tx) rfl
 have c3:=HG3.out.cx (j:=3) (v:=.int .u8 r.st) rfl
 have c4:=HG3.out.cx (j:=4) (v:=.bool r.cp) rfl
 have c8:=HG3.out.cx (j:=8) (v:=.int .i64 r.d) rfl
 have c9:=HG3.out.cx (j:=9) (v:=.int .u8 r.o) rfl
 rw [hk] at c0
 have HA:Hid (z0v (r.x L T M)=((r.tx != 0) && decide (r.x L T M=(Rv.x (rm 5 0 r.tx 0 false 0 0 0 0 0) [] [] [])))):=hid (by
  have e:r.x L T M=⟨5,r.sg,r.tx,r.st,r.cp,(r.ka,r.kb,r.kc),r.d,r.o,r.pg L T M⟩:=by unfold Rv.x;rw [hk]
  rw [e,gk4 _ _ _ _ _ _ _ _ _ (Or.inr (Or.inl rfl))]
  rfl)
 obtain⟨z,hz⟩:∃ z,decide (r.x L T M=(Rv.x (rm 5 0 r.tx 0 false 0 0 0 0 0) [] [] []))=z:=⟨_,rfl⟩
 rw [hz] at HA
 have HSM:=hid (fun w (h:Gz W w B Y r (rm 5 0 r.tx 0 false 0 0 0 0 0))=>z3e r (rm 5 0 r.tx 0 false 0 0 0 0 0) L T M [] [] [] w (HP.out.later h.below) (z4g _ _ _ _ _ _ _ _ _ _ _) HH.out ⟨Nat.zero_le _,Nat.zero_le _,Nat.zero_le _⟩)
 rw [hz] at HSM
 clear hz hk
 have HGX:=HG3
 clear HG3
 cases qtx:(r.tx != 0)
 case false =>
  go_wp2_with (first | ((with_reducible refine z0d HGX.out.x ?_ ?_ ?_);rfl;rfl) | ((with_reducible refine z0d HGX.out.y ?_ ?_ ?_);rfl;rfl) | ((with_reducible refine z0e HGX.out.x ?_ ?_ ?_);rfl;rfl) | ((with_reducible refine z0f HGX.out.x ?_ ?_ ?_);rfl;rfl))
  go_ret
  exact⟨by rw [HA.out,qtx];rfl,HGX.out.below⟩
 go_wp2_with (first | ((with_reducible refine z0d HGX.out.x ?_ ?_ ?_);rfl;rfl) | ((with_reducible refine z0d HGX.out.y ?_ ?_ ?_);rfl;rfl) | ((with_reducible refine z0e HGX.out.x ?_ ?_ ?_);rfl;rfl) | ((with_reducible refine z0f HGX.out.x ?_ ?_ ?_);rfl;rfl))
 refine (HSM.out w3 HGX.out).mono ?_
 rintro e w4 ⟨rfl,hcb⟩
 have HB9:=hid (HGX.out.below.trans (hcb.mono HGX.out.below.size))
 clear hcb
 clear c0 c1 c2 c3 c4 c8 c9
 go_wp2_with fail
 go_ret
 exact⟨by rw [HA.out,qtx];rfl,HB9.out⟩
theorem rrec_good6 (r:Rv) (L:List Ln) (T:List Tk) (M:List Ln) (W:World) (hP:RvM W r L T M) (hok:Rxok (r.x L T M)) (h1:r.ln≤1000∧r.tn≤1000∧r.wn≤1000) (hk:r.k=6):Calls Tryz.prog 22 #[.agg (rcs r)] W fun e w'=>e=.returned (.bool (z0v (r.x L T M)))∧Below W.heap.size W w':=by
 have HOK:=hid hok
 have HP:=hid hP
 have HH:=hid h1
 clear hok hP h1
 obtain⟨W1,hW1,hb1⟩:∃ W1,W.alloc (.cells (rcs r) 40)=W1∧Below W.heap.size W W1:=⟨_,rfl,(Below.refl _ _).alloc (Nat.le_refl _) _⟩
 obtain⟨B,hB⟩:∃ B,W.heap.size=B:=⟨_,rfl⟩
 have hrb:=RB.new W r
 rw [hW1,hB] at hrb
 obtain⟨Y,hY⟩:∃ Y,W1.heap.size=Y:=⟨_,rfl⟩
 have hBY:B<Y:=by have:=hrb.lt;omega
 obtain⟨w1,hw1,hx1,hb1a⟩:∃ w1,W1.alloc (.cells zr 40)=w1∧RB w1 Y rz∧Below W1.heap.size W1 w1:=⟨_,rfl,by rw [← hY];exact z0c W1 _,(Below.refl _ _).alloc (Nat.le_refl _) _⟩
 have hG1:Gz W w1 B Y r rz:=⟨hrb.later hb1a,hx1,hb1.trans (hb1a.mono hb1.size),by omega,hBY⟩
 obtain⟨w2,hw2,hG2⟩:∃ w2,w1.setRow Y (rcs (rm 6 0 0 0 false 0 0 0 0 0))=w2∧Gz W w2 B Y r (rm 6 0 0 0 false 0 0 0 0 0):=⟨_,rfl,hG1.set _⟩
 have HX1:=hid hrb
 have HW1:=hid hW1
 have HRE:=hid hB
 have HYE:=hid hY
 have HW1a:=hid hw1
 have HXZ:=hid hx1
 have HW2:=hid hw2
 have HG2:=hid hG2
 have c0:W1.cell? ⟨B,0,none⟩=some (.int .u8 r.k):=z0a hrb rfl
 rw [hk] at c0
 clear hW1 hB hY hBY hw1 hx1 hb1a hG1 hw2 hG2 hb1 hrb
 have HHK:=hid hk
 go_enter Tryz.func22,Tryz.ntmps22
 go_upto_region 1 with (fail)
 rw [HW1.out,HRE.out]
 go_upto_region 2 with ((try rw [HYE.out]);(try rw [HW1a.out]);(with_reducible refine z1c (rm 6 0 0 0 false 0 0 0 0 0) HXZ.out ?_ ?_ ?_);rfl;rfl;rw [HW2.out])
 clear c0 HX1 HW1 HRE HYE HW1a HXZ HW2
 have c0:=HG2.out.cx (j:=0) (v:=.int .u8 r.k) rfl
 have c1:=HG2.out.cx (j:=1) (v:=.int .u32 r.sg) rfl
 have c2:=HG2.out.cx (j:=2) (v:=.int .u32 r.tx) rfl
 have c3:=HG2.out.cx (j:=3) (v:=.int .u8 r.st) rfl
 have c4:=HG2.out.cx (j:=4) (v:=.bool r.cp) rfl
 have c8:=HG2.out.cx (j:=8) (v:=.int .i64 r.d) rfl
 have c9:=HG2.out.cx (j:=9) (v:=.int .u8 r.o) rfl
 rw [hk] at c0
 obtain⟨cy,cf⟩:=HG2.out.cy (j:=2) (v:=.int .u32 0) rfl
 go_upto_region 18 with (fail)
 clear cy cf
 have hq:=HG2.out.put 2 (.int .u32 r.tx) (rm 6 0 r.tx 0 false 0 0 0 0 0) rfl
 generalize w2.setCell ⟨Y,2,none⟩ (.int .u32 r.tx)=w3 at *
 have HG3:=hid hq
 clear hq HG2
 clear c0 c1 c2 c3 c4 c8 c9
 have c0:=HG3.out.cx (j:=0) (v:=.int .u8 r.k) rfl
 have c1:=HG3.out.cx (j:=1) (v:=.int .u32 r.sg) rfl
 have c2:=HG3.out.cx (j:=2) (v:=.int .u32 r.tx) rfl
 have c3:=HG3.out.cx (j:=3) (v:=.int .u8 r.st) rfl
 have c4:=HG3.out.cx (j:=4) (v:=.bool r.cp) rfl
 have c8:=HG3.out.cx (j:=8) (v:=.int .i64 r.d) rfl
 have c9:=HG3.out.cx (j:=9) (v:=.int .u8 r.o) rfl
 rw [hk] at c0
 obtain⟨w4,hgen,hq⟩:∃ w4,w3.setRow Y (rcs { (rm 6 0 r.tx 0 false 0 0 0 0 0) with ka:=r.ka,kb:=r.kb,kc:=r.kc })=w4∧Gz W w4 B Y r (rm 6 0 r.tx 0 false r.ka r.kb r.kc 0 0):=⟨_,rfl,HG3.out.set (rm 6 0 r.tx 0 false r.ka r.kb r.kc 0 0)⟩
 have HGEN:=hid hgen
 have HG4:=hid hq
 clear hgen hq
 go_upto_region 19 with (first | ((with_reducible refine z2b HG3.out.x ?_ ?_);rfl) | ((with_reducible refine wpList_store_ky r.ka r.kb r.kc HG3.out.y ?_ ?_ ?_);rfl;rfl;rw [HGEN.out]))
 clear HGEN HG3
 clear c0 c1 c2 c3 c4 c8 c9
 have c0:=HG4.out.cx (j:=0) (v:=.int .u8 r.k) rfl
 have c1:=HG4.out.cx (j:=1) (v:=.int .u32 r.sg) rfl
 have c2:=HG4.out.cx (j:=2) (v:=.int .u32 r.tx) rfl
 have c3:=HG4.out.cx (j:=3) (v:=.int .u8 r.st) rfl
 have c4:=HG4.out.cx (j:=4) (v:=.bool r.cp) rfl
 have c8:=HG4.out.cx (j:=8) (v:=.int .i64 r.d) rfl
 have c9:=HG4.out.cx (j:=9) (v:=.int .u8 r.o) rfl
 rw [hk] at c0
 obtain⟨cy,cf⟩:=HG4.out.cy (j:=8) (v:=.int .i64 0) rfl
 go_upto_region 20 with (fail)
 clear cy cf
 have hq:=HG4.out.put 8 (.int .i64 r.d) (rm 6 0 r.tx 0 false r.ka r.kb r.kc r.d 0) rfl
 generalize w4.setCell ⟨Y,8,none⟩ (.int .i64 r.d)=w5 at *
 have HG5:=hid hq
 clear hq HG4
 clear c0 c1 c2 c3 c4 c8 c9
 have c0:=HG5.out.cx (j:=0) (v:=.int .u8 r.k) rfl
 have c1:=HG5.out.cx (j:=1) (v:=.int .u32 r.sg) rfl
 have c2:=HG5.out.cx (j:=2) (v:=.int .u32 r.tx) rfl
 have c3:=HG5.out.cx (j:=3) (v:=.int .u8 r.st) rfl
 have c4:=HG5.out.cx (j:=4) (v:=.bool r.cp) rfl
 have c8:=HG5.out.cx (j:=8) (v:=.int .i64 r.d) rfl
 have c9:=HG5.out.cx (j:=9) (v:=.int .u8 r.o) rfl
 rw [hk] at c0
 have HA:Hid (z0v (r.x L T M)=((r.tx != 0) && z3x 4 4 r.ka r.kb r.kc && (r.d != 0) && decide (-9223372036854775807≤r.d) && decide (r.x L T M=(Rv.x (rm 6 0 r.tx 0 false r.ka r.kb r.kc r.d 0) [] [] [])))):=hid (by
  have e:r.x L T M=⟨6,r.sg,r.tx,r.st,r.cp,(r.ka,r.kb,r.kc),r.d,r.o,r.pg L T M⟩:=by unfold Rv.x;rw [hk]
  rw [e,gk6 _ _ _ _ _ _ _ _ (show In64 r.d from HOK.out.d)]
  rfl)
 obtain⟨z,hz⟩:∃ z,decide (r.x L T M=(Rv.x (rm 6 0 r.tx 0 false r.ka r.kb r.kc r.d 0) [] [] []))=z:=⟨_,rfl⟩
 rw [hz] at HA
 have HSM:=hid (fun w (h:Gz W w B Y r (rm 6 0 r.tx 0 false r.ka r.kb r.kc r.d 0))=>z3e r (rm 6 0 r.tx 0 false r.ka r.kb r.kc r.d 0) L T M [] [] [] w (HP.out.later h.below) (z4g _ _ _ _ _ _ _ _ _ _ _) HH.out ⟨Nat.zero_le _,Nat.zero_le _,Nat.zero_le _⟩)
 rw [hz] at HSM
 clear hz hk
 have HGX:=HG5
 clear HG5
 cases qtx:(r.tx != 0)
 case false =>
  go_wp2_with (first | ((with_reducible refine z0d HGX.out.x ?_ ?_ ?_);rfl;rfl) | ((with_reducible refine z0d HGX.out.y ?_ ?_ ?_);rfl;rfl) | ((with_reducible refine z0e HGX.out.x ?_ ?_ ?_);rfl;rfl) | ((with_reducible refine z0f HGX.out.x ?_ ?_ ?_);rfl;rfl))
  go_ret
  exact⟨by rw [HA.out,qtx];rfl,HGX.out.below⟩
 go_wp2_with (first | ((with_reducible refine z0d HGX.out.x ?_ ?_ ?_);rfl;rfl) | ((with_reducible refine z0d HGX.out.y ?_ ?_ ?_);rfl;rfl) | ((with_reducible refine z0e HGX.out.x ?_ ?_ ?_);rfl;rfl) | ((with_reducible refine z0f HGX.out.x ?_ ?_ ?_);rfl;rfl))
 refine (refgood_any 4 4 r.ka r.kb r.kc HOK.out.key.2.1 HOK.out.key.2.2 w5).mono ?_
 rintro e w6 ⟨rfl,hgr⟩
 have hcb:=hgr.below
 clear hgr
 have HGX:=hid (HGX.out.later hcb)
 clear hcb
 clear c0 c1 c2 c3 c4 c8 c9
 have c0:=HGX.out.cx (j:=0) (v:=.int .u8 r.k) rfl
 have c1:=HGX.out.cx (j:=1) (v:=.int .u32 r.sg) rfl
 have c2:=HGX.out.cx (j:=2) (v:=.int .u32 r.tx) rfl
 have c3:=HGX.out.cx (j:=3) (v:=.int .u8 r.st) rfl
 have c4:=HGX.out.cx (j:=4) (v:=.bool r.cp) rfl
 have c8:=HGX.out.cx (j:=8) (v:=.int .i64 r.d) rfl
 have c9:=HGX.out.cx (j:=9) (v:=.int .u8 r.o) rfl
 rw [HHK.out] at c0
 cases qCK:z3x 4 4 r.ka r.kb r.kc
 case false =>
  go_wp2_with (first | ((with_reducible refine z0d HGX.out.x ?_ ?_ ?_);rfl;rfl) | ((with_reducible refine z0d HGX.out.y ?_ ?_ ?_);rfl;rfl) | ((with_reducible refine z0e HGX.out.x ?_ ?_ ?_);rfl;rfl) | ((with_reducible refine z0f HGX.out.x ?_ ?_ ?_);rfl;rfl))
  go_ret
  exact⟨by rw [HA.out,qtx,qCK];rfl,HGX.out.below⟩
 cases qdn:(r.d != 0)
 case false =>
  go_wp2_with (first | ((with_reducible refine z0d HGX.out.x ?_ ?_ ?_);rfl;rfl) | ((with_reducible refine z0d HGX.out.y ?_ ?_ ?_);rfl;rfl) | ((with_reducible refine z0e HGX.out.x ?_ ?_ ?_);rfl;rfl) | ((with_reducible refine z0f HGX.out.x ?_ ?_ ?_);rfl;rfl))
  go_ret
  exact⟨by rw [HA.out,qtx,qCK,qdn];rfl,HGX.out.below⟩
 cases qdg:decide (-9223372036854775807≤r.d)
 case false =>
  go_wp2_with (first | ((with_reducible refine z0d HGX.out.x ?_ ?_ ?_);rfl;rfl) | ((with_reducible refine z0d HGX.out.y ?_ ?_ ?_);rfl;rfl) | ((with_reducible refine z0e HGX.out.x ?_ ?_ ?_);rfl;rfl) | ((with_reducible refine z0f HGX.out.x ?_ ?_ ?_);rfl;rfl))
  go_ret
  exact⟨by rw [HA.out,qtx,qCK,qdn,qdg];rfl,HGX.out.below⟩
 go_wp2_with (first | ((with_reducible refine z0d HGX.out.x ?_ ?_ ?_);rfl;rfl) | ((with_reducible refine z0d HGX.out.y ?_ ?_ ?_);rfl;rfl) | ((with_reducible refine z0e HGX.out.x ?_ ?_ ?_);rfl;rfl) | ((with_reducible refine z0f HGX.out.x ?_ ?_ ?_);rfl;rfl))
 refine (HSM.out w6 HGX.out).mono ?_
 rintro e w7 ⟨rfl,hcb⟩
 have HB9:=hid (HGX.out.below.trans (hcb.mono HGX.out.below.size))
 clear hcb
 clear c0 c1 c2 c3 c4 c8 c9
 go_wp2_with fail
 go_ret
 exact⟨by rw [HA.out,qtx,qCK,qdn,qdg];rfl,HB9.out⟩
theorem rrec_good7 (r:Rv) (L:List Ln) (T:List Tk) (M:List Ln) (W:World) (hP:RvM W r L T M) (hok:Rxok (r.x L T M)) (h1:r.ln≤1000∧r.tn≤1000∧r.wn≤1000) (hk:r.k=7):Calls Tryz.prog 22 #[.agg (rcs r)] W fun e w'=>e=.returned (.bool (z0v (r.x L T M)))∧Below W.heap.size W w':=by
 have HOK:=hid hok
 have HP:=hid hP
 have HH:=hid h1
 clear hok hP h1
 obtain⟨W1,hW1,hb1⟩:∃ W1,W.alloc (.cells (rcs r) 40)=W1∧Below W.heap.size W W1:=⟨_,rfl,(Below.refl _ _).alloc (Nat.le_refl _) _⟩
 obtain⟨B,hB⟩:∃ B,W.heap.size=B:=⟨_,rfl⟩
 have hrb:=RB.new W r
 rw [hW1,hB] at hrb
 obtain⟨Y,hY⟩:∃ Y,W1.heap.size=Y:=⟨_,rfl⟩
 have hBY:B<Y:=by have:=hrb.lt;omega
 obtain⟨w1,hw1,hx1,hb1a⟩:∃ w1,W1.alloc (.cells zr 40)=w1∧RB w1 Y rz∧Below W1.heap.size W1 w1:=⟨_,rfl,by rw [← hY];exact z0c W1 _,(Below.refl _ _).alloc (Nat.le_refl _) _⟩
 have hG1:Gz W w1 B Y r rz:=⟨hrb.later hb1a,hx1,hb1.trans (hb1a.mono hb1.size),by omega,hBY⟩
 obtain⟨w2,hw2,hG2⟩:∃ w2,w1.setRow Y (rcs (rm 7 0 0 0 false 0 0 0 0 0))=w2∧Gz W w2 B Y r (rm 7 0 0 0 false 0 0 0 0 0):=⟨_,rfl,hG1.set _⟩
 have HX1:=hid hrb
 have HW1:=hid hW1
 have HRE:=hid hB
 have HYE:=hid hY
 have HW1a:=hid hw1
 have HXZ:=hid hx1
 have HW2:=hid hw2
 have HG2:=hid hG2
 have c0:W1.cell? ⟨B,0,none⟩=some (.int .u8 r.k):=z0a hrb rfl
 rw [hk] at c0
 clear hW1 hB hY hBY hw1 hx1 hb1a hG1 hw2 hG2 hb1 hrb
 have HHK:=hid hk
 go_enter Tryz.func22,Tryz.ntmps22
 go_upto_region 1 with (fail)
 rw [HW1.out,HRE.out]
 go_upto_region 2 with ((try rw [HYE.out]);(try rw [HW1a.out]);(with_reducible refine z1c (rm 7 0 0 0 false 0 0 0 0 0) HXZ.out ?_ ?_ ?_);rfl;rfl;rw [HW2.out])
 clear c0 HX1 HW1 HRE HYE HW1a HXZ HW2
 have c0:=HG2.out.cx (j:=0) (v:=.int .u8 r.k) rfl
 have c1:=HG2.out.cx (j:=1) (v:=.int .u32 r.sg) rfl
 have c2:=HG2.out.cx (j:=2) (v:=.int .u32 r.tx) rfl
 have c3:=HG2.out.cx (j:=3) (v:=.int .u8 r.st) rfl
 have c4:=HG2.out.cx (j:=4) (v:=.bool r.cp) rfl
 have c8:=HG2.out.cx (j:=8) (v:=.int .i64 r.d) rfl
 have c9:=HG2.out.cx (j:=9) (v:=.int .u8 r.o) rfl
 rw [hk] at c0
 obtain⟨cy,cf⟩:=HG2.out.cy (j:=2) (v:=.int .u32 0) rfl
 go_upto_region 25 with (fail)
 clear cy cf
 have hq:=HG2.out.put 2 (.int .u32 r.tx) (rm 7 0 r.tx 0 false 0 0 0 0 0) rfl
 generalize w2.setCell ⟨Y,2,none⟩ (.int .u32 r.tx)=w3 at *
 have HG3:=hid hq
 clear hq HG2
 clear c0 c1 c2 c3 c4 c8 c9
 have c0:=HG3.out.cx (j:=0) (v:=.int .u8 r.k) rfl
 have c1:=HG3.out.cx (j:=1) (v:=.int .u32 r.sg) rfl
 have c2:=HG3.out.cx (j:=2) (v:=.int .u32 r.tx) rfl
 have c3:=HG3.out.cx (j:=3) (v:=.int .u8 r.st) rfl
 have c4:=HG3.out.cx (j:=4) (v:=.bool r.cp) rfl
 have c8:=HG3.out.cx (j:=8) (v:=.int .i64 r.d) rfl
 have c9:=HG3.out.cx (j:=9) (v:=.int .u8 r.o) rfl
 rw [hk] at c0
 have HA:Hid (z0v (r.x L T M)=((r.tx != 0) && decide (r.x L T M=(Rv.x (rm 7 0 r.tx 0 false 0 0 0 0 0) [] [] [])))):=hid (by
  have e:r.x L T M=⟨7,r.sg,r.tx,r.st,r.cp,(r.ka,r.kb,r.kc),r.d,r.o,r.pg L T M⟩:=by unfold Rv.x;rw [hk]
  rw [e,gk4 _ _ _ _ _ _ _ _ _ (Or.inr (Or.inr rfl))]
  rfl)
 obtain⟨z,hz⟩:∃ z,decide (r.x L T M=(Rv.x (rm 7 0 r.tx 0 false 0 0 0 0 0) [] [] []))=z:=⟨_,rfl⟩
 rw [hz] at HA
 have HSM:=hid (fun w (h:Gz W w B Y r (rm 7 0 r.tx 0 false 0 0 0 0 0))=>z3e r (rm 7 0 r.tx 0 false 0 0 0 0 0) L T M [] [] [] w (HP.out.later h.below) (z4g _ _ _ _ _ _ _ _ _ _ _) HH.out ⟨Nat.zero_le _,Nat.zero_le _,Nat.zero_le _⟩)
 rw [hz] at HSM
 clear hz hk
 have HGX:=HG3
 clear HG3
 cases qtx:(r.tx != 0)
 case false =>
  go_wp2_with (first | ((with_reducible refine z0d HGX.out.x ?_ ?_ ?_);rfl;rfl) | ((with_reducible refine z0d HGX.out.y ?_ ?_ ?_);rfl;rfl) | ((with_reducible refine z0e HGX.out.x ?_ ?_ ?_);rfl;rfl) | ((with_reducible refine z0f HGX.out.x ?_ ?_ ?_);rfl;rfl))
  go_ret
  exact⟨by rw [HA.out,qtx];rfl,HGX.out.below⟩
 go_wp2_with (first | ((with_reducible refine z0d HGX.out.x ?_ ?_ ?_);rfl;rfl) | ((with_reducible refine z0d HGX.out.y ?_ ?_ ?_);rfl;rfl) | ((with_reducible refine z0e HGX.out.x ?_ ?_ ?_);rfl;rfl) | ((with_reducible refine z0f HGX.out.x ?_ ?_ ?_);rfl;rfl))
 refine (HSM.out w3 HGX.out).mono ?_
 rintro e w4 ⟨rfl,hcb⟩
 have HB9:=hid (HGX.out.below.trans (hcb.mono HGX.out.below.size))
 clear hcb
 clear c0 c1 c2 c3 c4 c8 c9
 go_wp2_with fail
 go_ret
 exact⟨by rw [HA.out,qtx];rfl,HB9.out⟩
theorem rrec_good8 (r:Rv) (L:List Ln) (T:List Tk) (M:List Ln) (W:World) (hP:RvM W r L T M) (hok:Rxok (r.x L T M)) (h1:r.ln≤1000∧r.tn≤1000∧r.wn≤1000) (hk:r.k=8):Calls Tryz.prog 22 #[.agg (rcs r)] W fun e w'=>e=.returned (.bool (z0v (r.x L T M)))∧Below W.heap.size W w':=by
 have HOK:=hid hok
 have HP:=hid hP
 have HH:=hid h1
 clear hok hP h1
 obtain⟨W1,hW1,hb1⟩:∃ W1,W.alloc (.cells (rcs r) 40)=W1∧Below W.heap.size W W1:=⟨_,rfl,(Below.refl _ _).alloc (Nat.le_refl _) _⟩
 obtain⟨B,hB⟩:∃ B,W.heap.size=B:=⟨_,rfl⟩
 have hrb:=RB.new W r
 rw [hW1,hB] at hrb
 obtain⟨Y,hY⟩:∃ Y,W1.heap.size=Y:=⟨_,rfl⟩
 have hBY:B<Y:=by have:=hrb.lt;omega
 obtain⟨w1,hw1,hx1,hb1a⟩:∃ w1,W1.alloc (.cells zr 40)=w1∧RB w1 Y rz∧Below W1.heap.size W1 w1:=⟨_,rfl,by rw [← hY];exact z0c W1 _,(Below.refl _ _).alloc (Nat.le_refl _) _⟩
 have hG1:Gz W w1 B Y r rz:=⟨hrb.later hb1a,hx1,hb1.trans (hb1a.mono hb1.size),by omega,hBY⟩
 obtain⟨w2,hw2,hG2⟩:∃ w2,w1.setRow Y (rcs (rm 8 0 0 0 false 0 0 0 0 0))=w2∧Gz W w2 B Y r (rm 8 0 0 0 false 0 0 0 0 0):=⟨_,rfl,hG1.set _⟩
 have HX1:=hid hrb
 have HW1:=hid hW1
 have HRE:=hid hB
 have HYE:=hid hY
 have HW1a:=hid hw1
 have HXZ:=hid hx1
 have HW2:=hid hw2
 have HG2:=hid hG2
 have c0:W1.cell? ⟨B,0,none⟩=some (.int .u8 r.k):=z0a hrb rfl
 rw [hk] at c0
 clear hW1 hB hY hBY hw1 hx1 hb1a hG1 hw2 hG2 hb1 hrb
 have HHK:=hid hk
 go_enter Tryz.func22,Tryz.ntmps22
 go_upto_region 1 with (fail)
 rw [HW1.out,HRE.out]
 go_upto_region 2 with ((try rw [HYE.out]);(try rw [HW1a.out]);(with_reducible refine z1c (rm 8 0 0 0 false 0 0 0 0 0) HXZ.out ?_ ?_ ?_);rfl;rfl;rw [HW2.out])
 clear c0 HX1 HW1 HRE HYE HW1a HXZ HW2
 have c0:=HG2.out.cx (j:=0) (v:=.int .u8 r.k) rfl
 have c1:=HG2.out.cx (j:=1) (v:=.int .u32 r.sg) rfl
 have c2:=HG2.out.cx (j:=2) (v:=.int .u32 r.tx) rfl
 have c3:=HG2.out.cx (j:=3) (v:=.int .u8 r.st) rfl
 have c4:=HG2.out.cx (j:=4) (v:=.bool r.cp) rfl
 have c8:=HG2.out.cx (j:=8) (v:=.int .i64 r.d) rfl
 have c9:=HG2.out.cx (j:=9) (v:=.int .u8 r.o) rfl
 rw [hk] at c0
 obtain⟨cy,cf⟩:=HG2.out.cy (j:=1) (v:=.int .u32 0) rfl
 go_upto_region 28 with (fail)
 clear cy cf
 have hq:=HG2.out.put 1 (.int .u32 r.sg) (rm 8 r.sg 0 0 false 0 0 0 0 0) rfl
 generalize w2.setCell ⟨Y,1,none⟩ (.int .u32 r.sg)=w3 at *
 have HG3:=hid hq
 clear hq HG2
 clear c0 c1 c2 c3 c4 c8 c9
 have c0:=HG3.out.cx (j:=0) (v:=.int .u8 r.k) rfl
 have c1:=HG3.out.cx (j:=1) (v:=.int .u32 r.sg) rfl
 have c2:=HG3.out.cx (j:=2) (v:=.int .u32 r.tx) rfl
 have c3:=HG3.out.cx (j:=3) (v:=.int .u8 r.st) rfl
 have c4:=HG3.out.cx (j:=4) (v:=.bool r.cp) rfl
 have c8:=HG3.out.cx (j:=8) (v:=.int .i64 r.d) rfl
 have c9:=HG3.out.cx (j:=9) (v:=.int .u8 r.o) rfl
 rw [hk] at c0
 have HA:Hid (z0v (r.x L T M)=((r.sg != 0) && decide (r.x L T M=(Rv.x (rm 8 r.sg 0 0 false 0 0 0 0 0) [] [] [])))):=hid (by
  have e:r.x L T M=⟨8,r.sg,r.tx,r.st,r.cp,(r.ka,r.kb,r.kc),r.d,r.o,r.pg L T M⟩:=by unfold Rv.x;rw [hk]
  rw [e,gk8 _ _ _ _ _ _ _ _]
  rfl)
 obtain⟨z,hz⟩:∃ z,decide (r.x L T M=(Rv.x (rm 8 r.sg 0 0 false 0 0 0 0 0) [] [] []))=z:=⟨_,rfl⟩
 rw [hz] at HA
 have HSM:=hid (fun w (h:Gz W w B Y r (rm 8 r.sg 0 0 false 0 0 0 0 0))=>z3e r (rm 8 r.sg 0 0 false 0 0 0 0 0) L T M [] [] [] w (HP.out.later h.below) (z4g _ _ _ _ _ _ _ _ _ _ _) HH.out ⟨Nat.zero_le _,Nat.zero_le _,Nat.zero_le _⟩)
 rw [hz] at HSM
 clear hz hk
 have HGX:=HG3
 clear HG3
 cases qsg:(r.sg != 0)
 case false =>
  go_wp2_with (first | ((with_reducible refine z0d HGX.out.x ?_ ?_ ?_);rfl;rfl) | ((with_reducible refine z0d HGX.out.y ?_ ?_ ?_);rfl;rfl) | ((with_reducible refine z0e HGX.out.x ?_ ?_ ?_);rfl;rfl) | ((with_reducible refine z0f HGX.out.x ?_ ?_ ?_);rfl;rfl))
  go_ret
  exact⟨by rw [HA.out,qsg];rfl,HGX.out.below⟩
 go_wp2_with (first | ((with_reducible refine z0d HGX.out.x ?_ ?_ ?_);rfl;rfl) | ((with_reducible refine z0d HGX.out.y ?_ ?_ ?_);rfl;rfl) | ((with_reducible refine z0e HGX.out.x ?_ ?_ ?_);rfl;rfl) | ((with_reducible refine z0f HGX.out.x ?_ ?_ ?_);rfl;rfl))
 refine (HSM.out w3 HGX.out).mono ?_
 rintro e w4 ⟨rfl,hcb⟩
 have HB9:=hid (HGX.out.below.trans (hcb.mono HGX.out.below.size))
 clear hcb
 clear c0 c1 c2 c3 c4 c8 c9
 go_wp2_with fail
 go_ret
 exact⟨by rw [HA.out,qsg];rfl,HB9.out⟩
theorem rrec_good9 (r:Rv) (L:List Ln) (T:List Tk) (M:List Ln) (W:World) (hP:RvM W r L T M) (hok:Rxok (r.x L T M)) (h1:r.ln≤1000∧r.tn≤1000∧r.wn≤1000) (hk:r.k=9):Calls Tryz.prog 22 #[.agg (rcs r)] W fun e w'=>e=.returned (.bool (z0v (r.x L T M)))∧Below W.heap.size W w':=by
 have HOK:=hid hok
 have HP:=hid hP
 have HH:=hid h1
 clear hok hP h1
 obtain⟨W1,hW1,hb1⟩:∃ W1,W.alloc (.cells (rcs r) 40)=W1∧Below W.heap.size W W1:=⟨_,rfl,(Below.refl _ _).alloc (Nat.le_refl _) _⟩
 obtain⟨B,hB⟩:∃ B,W.heap.size=B:=⟨_,rfl⟩
 have hrb:=RB.new W r
 rw [hW1,hB] at hrb
 obtain⟨Y,hY⟩:∃ Y,W1.heap.size=Y:=⟨_,rfl⟩
 have hBY:B<Y:=by have:=hrb.lt;omega
 obtain⟨w1,hw1,hx1,hb1a⟩:∃ w1,W1.alloc (.cells zr 40)=w1∧RB w1 Y rz∧Below W1.heap.size W1 w1:=⟨_,rfl,by rw [← hY];exact z0c W1 _,(Below.refl _ _).alloc (Nat.le_refl _) _⟩
 have hG1:Gz W w1 B Y r rz:=⟨hrb.later hb1a,hx1,hb1.trans (hb1a.mono hb1.size),by omega,hBY⟩
 obtain⟨w2,hw2,hG2⟩:∃ w2,w1.setRow Y (rcs (rm 9 0 0 0 false 0 0 0 0 0))=w2∧Gz W w2 B Y r (rm 9 0 0 0 false 0 0 0 0 0):=⟨_,rfl,hG1.set _⟩
 have HX1:=hid hrb
 have HW1:=hid hW1
 have HRE:=hid hB
 have HYE:=hid hY
 have HW1a:=hid hw1
 have HXZ:=hid hx1
 have HW2:=hid hw2
 have HG2:=hid hG2
 have c0:W1.cell? ⟨B,0,none⟩=some (.int .u8 r.k):=z0a hrb rfl
 rw [hk] at c0
 clear hW1 hB hY hBY hw1 hx1 hb1a hG1 hw2 hG2 hb1 hrb
 have HHK:=hid hk
 go_enter Tryz.func22,Tryz.ntmps22
 go_upto_region 1 with (fail)
 rw [HW1.out,HRE.out]
 go_upto_region 2 with ((try rw [HYE.out]);(try rw [HW1a.out]);(with_reducible refine z1c (rm 9 0 0 0 false 0 0 0 0 0) HXZ.out ?_ ?_ ?_);rfl;rfl;rw [HW2.out])
 clear c0 HX1 HW1 HRE HYE HW1a HXZ HW2
 have c0:=HG2.out.cx (j:=0) (v:=.int .u8 r.k) rfl
 have c1:=HG2.out.cx (j:=1) (v:=.int .u32 r.sg) rfl
 have c2:=HG2.out.cx (j:=2) (v:=.int .u32 r.tx) rfl
 have c3:=HG2.out.cx (j:=3) (v:=.int .u8 r.st) rfl
 have c4:=HG2.out.cx (j:=4) (v:=.bool r.cp) rfl
 have c8:=HG2.out.cx (j:=8) (v:=.int .i64 r.d) rfl
 have c9:=HG2.out.cx (j:=9) (v:=.int .u8 r.o) rfl
 rw [hk] at c0
 obtain⟨cy,cf⟩:=HG2.out.cy (j:=1) (v:=.int .u32 0) rfl
 go_upto_region 31 with (fail)
 clear cy cf
 have hq:=HG2.out.put 1 (.int .u32 r.sg) (rm 9 r.sg 0 0 false 0 0 0 0 0) rfl
 generalize w2.setCell ⟨Y,1,none⟩ (.int .u32 r.sg)=w3 at *
 have HG3:=hid hq
 clear hq HG2
 clear c0 c1 c2 c3 c4 c8 c9
 have c0:=HG3.out.cx (j:=0) (v:=.int .u8 r.k) rfl
 have c1:=HG3.out.cx (j:=1) (v:=.int .u32 r.sg) rfl
 have c2:=HG3.out.cx (j:=2) (v:=.int .u32 r.tx) rfl
 have c3:=HG3.out.cx (j:=3) (v:=.int .u8 r.st) rfl
 have c4:=HG3.out.cx (j:=4) (v:=.bool r.cp) rfl
 have c8:=HG3.out.cx (j:=8) (v:=.int .i64 r.d) rfl
 have c9:=HG3.out.cx (j:=9) (v:=.int .u8 r.o) rfl
 rw [hk] at c0
 obtain⟨cy,cf⟩:=HG3.out.cy (j:=9) (v:=.int .u8 0) rfl
 go_upto_region 32 with (fail)
 clear cy cf
 have hq:=HG3.out.put 9 (.int .u8 r.o) (rm 9 r.sg 0 0 false 0 0 0 0 r.o) rfl
 generalize w3.setCell ⟨Y,9,none⟩ (.int .u8 r.o)=w4 at *
 have HG4:=hid hq
 clear hq HG3
 clear c0 c1 c2 c3 c4 c8 c9
 have c0:=HG4.out.cx (j:=0) (v:=.int .u8 r.k) rfl
 have c1:=HG4.out.cx (j:=1) (v:=.int .u32 r.sg) rfl
 have c2:=HG4.out.cx (j:=2) (v:=.int .u32 r.tx) rfl
 have c3:=HG4.out.cx (j:=3) (v:=.int .u8 r.st) rfl
 have c4:=HG4.out.cx (j:=4) (v:=.bool r.cp) rfl
 have c8:=HG4.out.cx (j:=8) (v:=.int .i64 r.d) rfl
 have c9:=HG4.out.cx (j:=9) (v:=.int .u8 r.o) rfl
 rw [hk] at c0
 have HA:Hid (z0v (r.x L T M)=((r.sg != 0) && ((r.o==1) || (r.o==2)) && decide (r.x L T M=(Rv.x (rm 9 r.sg 0 0 false 0 0 0 0 r.o) [] [] [])))):=hid (by
  have e:r.x L T M=⟨9,r.sg,r.tx,r.st,r.cp,(r.ka,r.kb,r.kc),r.d,r.o,r.pg L T M⟩:=by unfold Rv.x;rw [hk]
  rw [e,gk9 _ _ _ _ _ _ _ _]
  rfl)
 obtain⟨z,hz⟩:∃ z,decide (r.x L T M=(Rv.x (rm 9 r.sg 0 0 false 0 0 0 0 r.o) [] [] []))=z:=⟨_,rfl⟩
 rw [hz] at HA
 have HSM:=hid (fun w (h:Gz W w B Y r (rm 9 r.sg 0 0 false 0 0 0 0 r.o))=>z3e r (rm 9 r.sg 0 0 false 0 0 0 0 r.o) L T M [] [] [] w (HP.out.later h.below) (z4g _ _ _ _ _ _ _ _ _ _ _) HH.out ⟨Nat.zero_le _,Nat.zero_le _,Nat.zero_le _⟩)
 rw [hz] at HSM
 clear hz hk
 have HGX:=HG4
 clear HG4
 cases qsg:(r.sg != 0)
 case false =>
  go_wp2_with (first | ((with_reducible refine z0d HGX.out.x ?_ ?_ ?_);rfl;rfl) | ((with_reducible refine z0d HGX.out.y ?_ ?_ ?_);rfl;rfl) | ((with_reducible refine z0e HGX.out.x ?_ ?_ ?_);rfl;rfl) | ((with_reducible refine z0f HGX.out.x ?_ ?_ ?_);rfl;rfl))
  go_ret
  exact⟨by rw [HA.out,qsg];rfl,HGX.out.below⟩
 cases qo1:(r.o==1)
 case false =>
  cases qo2:(r.o==2)
  case false =>
   go_wp2_with (first | ((with_reducible refine z0d HGX.out.x ?_ ?_ ?_);rfl;rfl) | ((with_reducible refine z0d HGX.out.y ?_ ?_ ?_);rfl;rfl) | ((with_reducible refine z0e HGX.out.x ?_ ?_ ?_);rfl;rfl) | ((with_reducible refine z0f HGX.out.x ?_ ?_ ?_);rfl;rfl))
   go_ret
   exact⟨by rw [HA.out,qsg,qo1,qo2];rfl,HGX.out.below⟩
  go_wp2_with (first | ((with_reducible refine z0d HGX.out.x ?_ ?_ ?_);rfl;rfl) | ((with_reducible refine z0d HGX.out.y ?_ ?_ ?_);rfl;rfl) | ((with_reducible refine z0e HGX.out.x ?_ ?_ ?_);rfl;rfl) | ((with_reducible refine z0f HGX.out.x ?_ ?_ ?_);rfl;rfl))
  refine (HSM.out w4 HGX.out).mono ?_
  rintro e w5 ⟨rfl,hcb⟩
  have HB9:=hid (HGX.out.below.trans (hcb.mono HGX.out.below.size))
  clear hcb
  clear c0 c1 c2 c3 c4 c8 c9
  go_wp2_with fail
  go_ret
  exact⟨by rw [HA.out,qsg,qo1,qo2];rfl,HB9.out⟩
 go_wp2_with (first | ((with_reducible refine z0d HGX.out.x ?_ ?_ ?_);rfl;rfl) | ((with_reducible refine z0d HGX.out.y ?_ ?_ ?_);rfl;rfl) | ((with_reducible refine z0e HGX.out.x ?_ ?_ ?_);rfl;rfl) | ((with_reducible refine z0f HGX.out.x ?_ ?_ ?_);rfl;rfl))
 refine (HSM.out w4 HGX.out).mono ?_
 rintro e w5 ⟨rfl,hcb⟩
 have HB9:=hid (HGX.out.below.trans (hcb.mono HGX.out.below.size))
 clear hcb
 clear c0 c1 c2 c3 c4 c8 c9
 go_wp2_with fail
 go_ret
 exact⟨by rw [HA.out,qsg,qo1];rfl,HB9.out⟩
theorem rrec_goodx (r:Rv) (L:List Ln) (T:List Tk) (M:List Ln) (W:World) (hP:RvM W r L T M) (hok:Rxok (r.x L T M)) (h1:r.ln≤1000∧r.tn≤1000∧r.wn≤1000) (hk:kOk r.k=false):Calls Tryz.prog 22 #[.agg (rcs r)] W fun e w'=>e=.returned (.bool (z0v (r.x L T M)))∧Below W.heap.size W w':=by
 have HOK:=hid hok
 have HA:Hid (z0v (r.x L T M)=false):=hid (by unfold z0v;rw [show kOk (r.x L T M).k=false from hk];rfl)
 obtain⟨n1,n2,n3,n4,n5,n6,n7,n8,n9⟩:=not_kOk hk
 have e1:(r.k==1)=false:=by simpa using n1
 have e2:(r.k==2)=false:=by simpa using n2
 have e3:(r.k==3)=false:=by simpa using n3
 have e4:(r.k==4)=false:=by simpa using n4
 have e5:(r.k==5)=false:=by simpa using n5
 have e6:(r.k==6)=false:=by simpa using n6
 have e7:(r.k==7)=false:=by simpa using n7
 have e8:(r.k==8)=false:=by simpa using n8
 have e9:(r.k==9)=false:=by simpa using n9
 clear hok hP h1 n1 n2 n3 n4 n5 n6 n7 n8 n9
 obtain⟨W1,hW1,hb1⟩:∃ W1,W.alloc (.cells (rcs r) 40)=W1∧Below W.heap.size W W1:=⟨_,rfl,(Below.refl _ _).alloc (Nat.le_refl _) _⟩
 obtain⟨B,hB⟩:∃ B,W.heap.size=B:=⟨_,rfl⟩
 have hrb:=RB.new W r
 rw [hW1,hB] at hrb
 obtain⟨Y,hY⟩:∃ Y,W1.heap.size=Y:=⟨_,rfl⟩
 have hBY:B<Y:=by have:=hrb.lt;omega
 obtain⟨w1,hw1,hx1,hb1a⟩:∃ w1,W1.alloc (.cells zr 40)=w1∧RB w1 Y rz∧Below W1.heap.size W1 w1:=⟨_,rfl,by rw [← hY];exact z0c W1 _,(Below.refl _ _).alloc (Nat.le_refl _) _⟩
 have hG1:Gz W w1 B Y r rz:=⟨hrb.later hb1a,hx1,hb1.trans (hb1a.mono hb1.size),by omega,hBY⟩
 obtain⟨w2,hw2,hG2⟩:∃ w2,w1.setRow Y (rcs (rm r.k 0 0 0 false 0 0 0 0 0))=w2∧Gz W w2 B Y r (rm r.k 0 0 0 false 0 0 0 0 0):=⟨_,rfl,hG1.set _⟩
 have HX1:=hid hrb
 have HW1:=hid hW1
 have HRE:=hid hB
 have HYE:=hid hY
 have HW1a:=hid hw1
 have HXZ:=hid hx1
 have HW2:=hid hw2
 have HG2:=hid hG2
 have c0:W1.cell? ⟨B,0,none⟩=some (.int .u8 r.k):=z0a hrb rfl
 clear hW1 hB hY hBY hw1 hx1 hb1a hG1 hw2 hG2 hb1 hrb
 have HHK:=hid hk
 go_enter Tryz.func22,Tryz.ntmps22
 go_upto_region 1 with (fail)
 rw [HW1.out,HRE.out]
 go_upto_region 2 with ((try rw [HYE.out]);(try rw [HW1a.out]);(with_reducible refine z1c (rm r.k 0 0 0 false 0 0 0 0 0) HXZ.out ?_ ?_ ?_);rfl;rfl;rw [HW2.out])
 clear c0 HX1 HW1 HRE HYE HW1a HXZ HW2
 have c0:=HG2.out.cx (j:=0) (v:=.int .u8 r.k) rfl
 clear hk
 go_wp2_with fail
 go_ret
 exact⟨by rw [HA.out];rfl,HG2.out.below⟩
theorem z2k (r:Rv) (L:List Ln) (T:List Tk) (M:List Ln) (W:World) (hP:RvM W r L T M) (hok:Rxok (r.x L T M)) (h1:r.ln≤1000∧r.tn≤1000∧r.wn≤1000):Calls Tryz.prog 22 #[.agg (rcs r)] W fun e w'=>e=.returned (.bool (z0v (r.x L T M)))∧Below W.heap.size W w':=by
 cases hk:kOk r.k with
 | true =>
  rcases z4s hk with h | h | h | h | h | h | h | h | h
  · exact rrec_good1 r L T M W hP hok h1 h
  · exact rrec_good2 r L T M W hP hok h1 h
  · exact rrec_good3 r L T M W hP hok h1 h
  · exact rrec_good4 r L T M W hP hok h1 h
  · exact rrec_good5 r L T M W hP hok h1 h
  · exact rrec_good6 r L T M W hP hok h1 h
  · exact rrec_good7 r L T M W hP hok h1 h
  · exact rrec_good8 r L T M W hP hok h1 h
  · exact rrec_good9 r L T M W hP hok h1 h
 | false=>exact rrec_goodx r L T M W hP hok h1 hk
theorem rn4 (x:Int) (h:0≤x∧x≤4294967295) (w:World):Calls Tryz.prog 73 #[.int .u64 x,.int .i64 4] w (z3a w 4 (le x.toNat 4)):=by
 have:=z6k x.toNat 4 w (by omega) (by omega)
 rw [Int.toNat_of_nonneg h.1] at this
 exact this
theorem vL_one1 {x:Int} (h:0≤x∧x≤255):(#[.int .u8 x]:Array Value).toList=vL [x.toNat]:=by
 simp [vL,Int.toNat_of_nonneg h.1]
theorem vL_one3 {x y z:Int} (h:0≤x∧x≤255) (g:0≤y∧y≤255) (i:0≤z∧z≤255):(#[.int .u8 x,.int .u8 y,.int .u8 z]:Array Value).toList=vL [x.toNat,y.toNat,z.toNat]:=by
 simp [vL,Int.toNat_of_nonneg h.1,Int.toNat_of_nonneg g.1,Int.toNat_of_nonneg i.1]
theorem z3m {x:Nat} (h:x<256):le x 1=[x]:=by simp [le,Nat.mod_eq_of_lt h]
theorem rrec_bytes1 (r:Rv) (L:List Ln) (T:List Tk) (M:List Ln) (W:World) (hP:RvM W r L T M) (hok:Rxok (r.x L T M)) (h1:r.ln≤20∧r.tn≤30∧r.wn≤20) (hk:r.k=1) (hg:z0w 4 4 (r.pg L T M)=true):Calls Tryz.prog 50 #[.agg (rcs r)] W (z3a W (z0o (r.x L T M)).length (z0o (r.x L T M))):=by
 obtain⟨W1,hW1,hb1⟩:∃ W1,W.alloc (.cells (rcs r) 40)=W1∧Below W.heap.size W W1:=⟨_,rfl,(Below.refl _ _).alloc (Nat.le_refl _) _⟩
 obtain⟨B,hB⟩:∃ B,W.heap.size=B:=⟨_,rfl⟩
 have hrb:=RB.new W r
 rw [hW1,hB] at hrb
 have h0:FB W1 (W1.alloc (.cells #[.int .u8 1] 5)) (.slice (some ⟨W1.heap.size,0,none⟩) 1 1) [1]:=FB.lit (m:=1) (Below.refl _ _) rfl rfl (by omega) (fun x hx=>by obtain rfl:=List.mem_singleton.1 hx;omega)
 obtain⟨w1,hw1⟩:∃ w1,W1.alloc (.cells #[.int .u8 1] 5)=w1:=⟨_,rfl⟩
 rw [hw1] at h0
 have Hw1:=hid hw1
 have H1:=hid h0
 have HX1:=hid hrb
 have HW1:=hid hW1
 have HB1:=hid hb1
 have HRE:=hid hB
 have HOK:=hid hok
 have HP:=hid hP
 have HH:=hid h1
 have u1:IntKind.u64.wrap r.sg=r.sg:=wrap_u64 hok.sg
 have u2:IntKind.u64.wrap r.tx=r.tx:=wrap_u64 hok.tx
 have HGG:=hid hg
 clear hg
 have HGX:=hid (HX1.out)
 obtain⟨c0,c1,c2,c3,c4,c5,c6,c7,c8,c9⟩:=HGX.out.at
 rw [hk] at c0
 clear hW1 hB hb1 hrb hP h0 hw1 h1 hok
 go_enter Tryz.func50,Tryz.ntmps50
 go_upto_region 1 with (fail)
 rw [HW1.out,HRE.out]
 go_upto_region 2 with (fail)
 rw [Hw1.out]
 clear c0 c1 c2 c3 c4 c5 c6 c7 c8 c9
 obtain⟨v1,hv1⟩:∃ v1,Value.slice (some ⟨W1.heap.size,0,none⟩) 1 1=v1:=⟨_,rfl⟩
 rw [hv1] at H1 ⊢
 clear hv1
 obtain⟨B1,hB1⟩:∃ B1,[1]=B1:=⟨_,rfl⟩
 obtain⟨m1,hm1⟩:∃ m1,1=m1:=⟨_,rfl⟩
 have hq1:m1≤1:=by omega
 have HL1:Hid (B1.length=m1):=hid (by rw [← hB1,← hm1];rfl)
 clear hm1
 rw [hB1] at H1
 have HBq1:=hid hB1
 clear hB1
 have HGX:=hid (HX1.out.later H1.out.below)
 obtain⟨c0,c1,c2,c3,c4,c5,c6,c7,c8,c9⟩:=HGX.out.at
 rw [hk] at c0
 go_wp2_with fail
 refine (rn4 r.sg HOK.out.sg w1).mono ?_
 rintro e xs ⟨vv,rfl,hrow,hbs,_⟩
 obtain⟨ps,cs,hv,_,hsl,_⟩:=hrow.sl
 subst hv
 have HBS:=hid hbs.size
 have HFs:=hid (H1.out.later hbs)
 have HSs:=hid hsl
 clear hrow hbs hsl
 clear c0 c1 c2 c3 c4 c5 c6 c7 c8 c9
 have HGX:=hid (HX1.out.later HFs.out.below)
 obtain⟨c0,c1,c2,c3,c4,c5,c6,c7,c8,c9⟩:=HGX.out.at
 rw [hk] at c0
 go_wp2_with fail
 refine (rn4 r.tx HOK.out.tx xs).mono ?_
 rintro e xt ⟨vv,rfl,hrow,hbt,hot⟩
 obtain⟨pt,ct,hv,_,hsl,hqt⟩:=hrow.sl
 have HPT:Hid (∀ a,pt=some a→w1.heap.size≤a.block):=hid fun a ha=>by have h1:=hot _ (hqt a ha);have h2:=HBS.out;omega
 have HV1:Hid (∀ k,v1.ownBlock=some k→k<w1.heap.size):=hid H1.out.row.bound
 clear hot hqt
 subst hv
 have HFt:=hid (HFs.out.later hbt)
 have HSt:=hid hsl
 have HSs:=hid (HSs.out.later hbt)
 clear hrow hbt hsl
 clear c0 c1 c2 c3 c4 c5 c6 c7 c8 c9
 have HGX:=hid (HX1.out.later HFt.out.below)
 obtain⟨c0,c1,c2,c3,c4,c5,c6,c7,c8,c9⟩:=HGX.out.at
 rw [hk] at c0
 go_upto_region 7 with (at_builtin;refine z0j (k:=1) (by decide) Tryz.underlying94 z1e rfl (by omega) rfl _ _ rfl v1 m1 (vL B1) rfl (by rw [← HL1.out];exact HFt.out.row.own) ps 4 cs (vL (le r.sg.toNat 4)) rfl (by rw [z1i,Nat.mul_one];exact HSs.out.len) (z2c HSs.out) (z2d HSs.out) (z1r _) (by omega) ?_;intro pn cn w3 h1 h2 h3)
 have hf:=HFt.out.app (M:=(le r.sg.toNat 4)) HSs.out.lt h1 h2 h3
 clear h1 h2 h3
 generalize hB2:B1++(le r.sg.toNat 4)=B2 at hf
 have HBq2:=hid hB2
 have HL2:Hid (B2.length=m1+4):=hid (by rw [← hB2,List.length_append,HL1.out];first | rfl | (simp only [z0r];try omega))
 generalize Value.slice pn (m1+4) cn=v2 at *
 have H2:=hid hf
 clear hf hB2
 obtain⟨m2,hm2⟩:∃ z,m1+4=z:=⟨_,rfl⟩
 have hq2:m2≤m1+4:=by omega
 rw [hm2] at HL2
 clear hm2
 obtain⟨w2,hw2x⟩:∃ x,x=w3:=⟨_,rfl⟩
 subst hw2x
 clear c0 c1 c2 c3 c4 c5 c6 c7 c8 c9
 have HGX:=hid (HX1.out.later H2.out.below)
 obtain⟨c0,c1,c2,c3,c4,c5,c6,c7,c8,c9⟩:=HGX.out.at
 rw [hk] at c0
 go_wp2_with ((with_reducible refine z2r HGX.out ?_ ?_);rfl)
 refine (rbytes_p r.pk r.od r.po r.lp r.ln r.lcp r.tp r.tn r.tcp r.wp r.wn r.wcp r.sk r.fr r.to r.q L T M w2 (HP.out.later (HB1.out.trans (H2.out.below.mono HB1.out.size))) HOK.out.pg HH.out).mono ?_
 have hpe:z2f ⟨r.pk,r.od,r.po,L,T,M,r.sk,r.fr,r.to,r.q⟩=z2f (r.pg L T M):=rfl
 rw [hpe]
 have hpf:=q0m HGG.out
 generalize hyp:z2f (r.pg L T M)=Yp at *
 have HYP:=hid hyp
 generalize hny:Yp.length=ny at *
 have HNY:=hid hny
 rintro e y2 ⟨vv,rfl,hrow,hb4,_⟩
 obtain⟨pw,cw,hv,_,hsl,_⟩:=hrow.sl
 subst hv
 have HF4:=hid (H2.out.later hb4)
 have HS4:=hid hsl
 clear hrow hb4 hsl hny hpe hyp
 clear c0 c1 c2 c3 c4 c5 c6 c7 c8 c9
 go_wp2_with fail
 refine (rbytes_any pw ny cw Yp y2 HS4.out (by omega)).mono ?_
 rintro e z2 ⟨vv,rfl,hrow,hb5,_⟩
 obtain⟨px,cx,hv,_,hsl,_⟩:=hrow.sl
 subst hv
 have HFA:=hid (HF4.out.later hb5)
 have HSL:=hid hsl
 clear hrow hb5 hsl HS4
 go_wp2_with (first | (at_builtin;refine z0j (k:=1) (by decide) Tryz.underlying94 z1e rfl (by omega) rfl _ _ rfl v2 m2 (vL B2) rfl (by rw [← HL2.out];exact HFA.out.row.own) px (2+ny) cx (vL (le ny 2++Yp)) rfl (by rw [z1i,Nat.mul_one];exact HSL.out.len) (z2c HSL.out) (z2d HSL.out) (z1r _) (by omega) ?_;intro pn cn w3 h1 h2 h3))
 have hf:=HFA.out.app (M:=(le ny 2++Yp)) HSL.out.lt h1 h2 h3
 clear h1 h2 h3
 generalize hB3:B2++(le ny 2++Yp)=B3 at hf
 have HBq3:=hid hB3
 have HL3:Hid (B3.length=m2+(2+ny)):=hid (by rw [← hB3,List.length_append,HL2.out];simp only [List.length_append,z0r];have:=HNY.out;omega)
 generalize Value.slice pn (m2+(2+ny)) cn=v3 at *
 have H3:=hid hf
 clear hf hB3
 obtain⟨m3,hm3⟩:∃ z,m2+(2+ny)=z:=⟨_,rfl⟩
 have hq3:m3≤m2+(2+ny):=by omega
 rw [hm3] at HL3
 clear hm3
 obtain⟨w3,hw3x⟩:∃ x,x=w3:=⟨_,rfl⟩
 subst hw3x
 go_ret
 have hst:le r.st.toNat 1=[r.st.toNat]:=z3m (by have e:=HOK.out.st;change 0≤r.st∧r.st≤255 at e;omega)
 have hoo:le r.o.toNat 1=[r.o.toNat]:=z3m (by have e:=HOK.out.o;change 0≤r.o∧r.o≤255 at e;omega)
 have hfin:z0o (r.x L T M)=B3:=by
  rw [← HBq3.out,← HBq2.out,← HBq1.out]
  unfold z0o
  rw [show (r.x L T M).k=1 from hk,show le (1:Int).toNat 1=[1] from rfl]
  simp [kS,kT,kB,kA,kO,kP,Rv.x,keyB,List.append_assoc,hst,hoo,HYP.out,HNY.out]
 rw [hfin]
 exact⟨_,rfl,H3.out.row,HB1.out.trans (H3.out.below.mono HB1.out.size),fun k hk=>Nat.le_trans HB1.out.size (H3.out.own k hk)⟩
theorem rrec_bytes2 (r:Rv) (L:List Ln) (T:List Tk) (M:List Ln) (W:World) (hP:RvM W r L T M) (hok:Rxok (r.x L T M)) (h1:r.ln≤20∧r.tn≤30∧r.wn≤20) (hk:r.k=2):Calls Tryz.prog 50 #[.agg (rcs r)] W (z3a W (z0o (r.x L T M)).length (z0o (r.x L T M))):=by
 obtain⟨W1,hW1,hb1⟩:∃ W1,W.alloc (.cells (rcs r) 40)=W1∧Below W.heap.size W W1:=⟨_,rfl,(Below.refl _ _).alloc (Nat.le_refl _) _⟩
 obtain⟨B,hB⟩:∃ B,W.heap.size=B:=⟨_,rfl⟩
 have hrb:=RB.new W r
 rw [hW1,hB] at hrb
 have h0:FB W1 (W1.alloc (.cells #[.int .u8 2] 5)) (.slice (some ⟨W1.heap.size,0,none⟩) 1 1) [2]:=FB.lit (m:=1) (Below.refl _ _) rfl rfl (by omega) (fun x hx=>by obtain rfl:=List.mem_singleton.1 hx;omega)
 obtain⟨w1,hw1⟩:∃ w1,W1.alloc (.cells #[.int .u8 2] 5)=w1:=⟨_,rfl⟩
 rw [hw1] at h0
 have Hw1:=hid hw1
 have H1:=hid h0
 have HX1:=hid hrb
 have HW1:=hid hW1
 have HB1:=hid hb1
 have HRE:=hid hB
 have HOK:=hid hok
 have HP:=hid hP
 have HH:=hid h1
 have u1:IntKind.u64.wrap r.sg=r.sg:=wrap_u64 hok.sg
 have u2:IntKind.u64.wrap r.tx=r.tx:=wrap_u64 hok.tx
 have HGX:=hid (HX1.out)
 obtain⟨c0,c1,c2,c3,c4,c5,c6,c7,c8,c9⟩:=HGX.out.at
 rw [hk] at c0
 clear hW1 hB hb1 hrb hP h0 hw1 h1 hok
 go_enter Tryz.func50,Tryz.ntmps50
 go_upto_region 1 with (fail)
 rw [HW1.out,HRE.out]
 go_upto_region 2 with (fail)
 rw [Hw1.out]
 clear c0 c1 c2 c3 c4 c5 c6 c7 c8 c9
 obtain⟨v1,hv1⟩:∃ v1,Value.slice (some ⟨W1.heap.size,0,none⟩) 1 1=v1:=⟨_,rfl⟩
 rw [hv1] at H1 ⊢
 clear hv1
 obtain⟨B1,hB1⟩:∃ B1,[2]=B1:=⟨_,rfl⟩
 obtain⟨m1,hm1⟩:∃ m1,1=m1:=⟨_,rfl⟩
 have hq1:m1≤1:=by omega
 have HL1:Hid (B1.length=m1):=hid (by rw [← hB1,← hm1];rfl)
 clear hm1
 rw [hB1] at H1
 have HBq1:=hid hB1
 clear hB1
 have HGX:=hid (HX1.out.later H1.out.below)
 obtain⟨c0,c1,c2,c3,c4,c5,c6,c7,c8,c9⟩:=HGX.out.at
 rw [hk] at c0
 go_wp2_with fail
 refine (rn4 r.sg HOK.out.sg w1).mono ?_
 rintro e xs ⟨vv,rfl,hrow,hbs,_⟩
 obtain⟨ps,cs,hv,_,hsl,_⟩:=hrow.sl
 subst hv
 have HBS:=hid hbs.size
 have HFs:=hid (H1.out.later hbs)
 have HSs:=hid hsl
 clear hrow hbs hsl
 clear c0 c1 c2 c3 c4 c5 c6 c7 c8 c9
 have HGX:=hid (HX1.out.later HFs.out.below)
 obtain⟨c0,c1,c2,c3,c4,c5,c6,c7,c8,c9⟩:=HGX.out.at
 rw [hk] at c0
 go_wp2_with fail
 refine (rn4 r.tx HOK.out.tx xs).mono ?_
 rintro e xt ⟨vv,rfl,hrow,hbt,hot⟩
 obtain⟨pt,ct,hv,_,hsl,hqt⟩:=hrow.sl
 have HPT:Hid (∀ a,pt=some a→w1.heap.size≤a.block):=hid fun a ha=>by have h1:=hot _ (hqt a ha);have h2:=HBS.out;omega
 have HV1:Hid (∀ k,v1.ownBlock=some k→k<w1.heap.size):=hid H1.out.row.bound
 clear hot hqt
 subst hv
 have HFt:=hid (HFs.out.later hbt)
 have HSt:=hid hsl
 have HSs:=hid (HSs.out.later hbt)
 clear hrow hbt hsl
 clear c0 c1 c2 c3 c4 c5 c6 c7 c8 c9
 have HGX:=hid (HX1.out.later HFt.out.below)
 obtain⟨c0,c1,c2,c3,c4,c5,c6,c7,c8,c9⟩:=HGX.out.at
 rw [hk] at c0
 go_upto_region 10 with (at_builtin;refine z0j (k:=1) (by decide) Tryz.underlying94 z1e rfl (by omega) rfl _ _ rfl v1 m1 (vL B1) rfl (by rw [← HL1.out];exact HFt.out.row.own) ps 4 cs (vL (le r.sg.toNat 4)) rfl (by rw [z1i,Nat.mul_one];exact HSs.out.len) (z2c HSs.out) (z2d HSs.out) (z1r _) (by omega) ?_;intro pn cn w3 h1 h2 h3)
 have hf:=HFt.out.app (M:=(le r.sg.toNat 4)) HSs.out.lt h1 h2 h3
 have HSt2:=hid (HSt.out.keep fun a ha hlt=>h2.block a.block hlt fun e=>by have:=HPT.out a ha;have:=HV1.out _ e;omega)
 clear h1 h2 h3
 generalize hB2:B1++(le r.sg.toNat 4)=B2 at hf
 have HBq2:=hid hB2
 have HL2:Hid (B2.length=m1+4):=hid (by rw [← hB2,List.length_append,HL1.out];first | rfl | (simp only [z0r];try omega))
 generalize Value.slice pn (m1+4) cn=v2 at *
 have H2:=hid hf
 clear hf hB2
 obtain⟨m2,hm2⟩:∃ z,m1+4=z:=⟨_,rfl⟩
 have hq2:m2≤m1+4:=by omega
 rw [hm2] at HL2
 clear hm2
 obtain⟨w2,hw2x⟩:∃ x,x=w3:=⟨_,rfl⟩
 subst hw2x
 clear c0 c1 c2 c3 c4 c5 c6 c7 c8 c9
 have HGX:=hid (HX1.out.later H2.out.below)
 obtain⟨c0,c1,c2,c3,c4,c5,c6,c7,c8,c9⟩:=HGX.out.at
 rw [hk] at c0
 go_upto_region 11 with (at_builtin;refine z0j (k:=1) (by decide) Tryz.underlying94 z1e rfl (by omega) rfl _ _ rfl v2 m2 (vL B2) rfl (by rw [← HL2.out];exact H2.out.row.own) pt 4 ct (vL (le r.tx.toNat 4)) rfl (by rw [z1i,Nat.mul_one];exact HSt2.out.len) (z2c HSt2.out) (z2d HSt2.out) (z1r _) (by omega) ?_;intro pn cn w3 h1 h2 h3)
 have hf:=H2.out.app (M:=(le r.tx.toNat 4)) HSt2.out.lt h1 h2 h3
 clear h1 h2 h3
 generalize hB3:B2++(le r.tx.toNat 4)=B3 at hf
 have HBq3:=hid hB3
 have HL3:Hid (B3.length=m2+4):=hid (by rw [← hB3,List.length_append,HL2.out];first | rfl | (simp only [z0r];try omega))
 generalize Value.slice pn (m2+4) cn=v3 at *
 have H3:=hid hf
 clear hf hB3
 obtain⟨m3,hm3⟩:∃ z,m2+4=z:=⟨_,rfl⟩
 have hq3:m3≤m2+4:=by omega
 rw [hm3] at HL3
 clear hm3
 obtain⟨w3,hw3x⟩:∃ x,x=w3:=⟨_,rfl⟩
 subst hw3x
 clear c0 c1 c2 c3 c4 c5 c6 c7 c8 c9
 have HGX:=hid (HX1.out.later H3.out.below)
 obtain⟨c0,c1,c2,c3,c4,c5,c6,c7,c8,c9⟩:=HGX.out.at
 rw [hk] at c0
 have HFA:=hid (H3.out.later (show Below w3.heap.size w3 (w3.alloc (.cells #[.int .u8 r.st] 5)) from (Below.refl _ _).alloc (Nat.le_refl _) _))
 go_upto_region 12 with (at_builtin;refine z0j (k:=1) (by decide) Tryz.underlying94 z1e rfl (by omega) rfl _ _ rfl v3 m3 (vL B3) rfl (by rw [← HL3.out];exact HFA.out.row.own) (some ⟨w3.heap.size,0,none⟩) 1 1 (vL [r.st.toNat]) rfl (by rw [z1i];rfl) (fun h=>by cases h) (z3j w3 #[.int .u8 r.st] [r.st.toNat] (vL_one1 HOK.out.st)) (z1r _) (by omega) ?_;intro pn cn w3 h1 h2 h3)
 have hf:=HFA.out.app (M:=[r.st.toNat]) (fun y hy=>by obtain rfl:=List.mem_singleton.1 hy;have:=HOK.out.st;change 0≤r.st∧r.st≤255 at this;omega) h1 h2 h3
 clear h1 h2 h3
 generalize hB4:B3 ++ [r.st.toNat]=B4 at hf
 have HBq4:=hid hB4
 have HL4:Hid (B4.length=m3+1):=hid (by rw [← hB4,List.length_append,HL3.out];first | rfl | (simp only [z0r];try omega))
 generalize Value.slice pn (m3+1) cn=v4 at *
 have H4:=hid hf
 clear hf hB4
 obtain⟨m4,hm4⟩:∃ z,m3+1=z:=⟨_,rfl⟩
 have hq4:m4≤m3+1:=by omega
 rw [hm4] at HL4
 clear hm4
 obtain⟨w4,hw4x⟩:∃ x,x=w3:=⟨_,rfl⟩
 subst hw4x
 clear c0 c1 c2 c3 c4 c5 c6 c7 c8 c9
 have HGX:=hid (HX1.out.later H4.out.below)
 obtain⟨c0,c1,c2,c3,c4,c5,c6,c7,c8,c9⟩:=HGX.out.at
 rw [hk] at c0
 go_wp2_with fail
 refine (rbool_any r.cp w4).mono ?_
 rintro e y4 ⟨pw,cw,rfl,hsl,hb4⟩
 have HFA:=hid (H4.out.later hb4)
 have HSL:=hid hsl
 clear hb4 hsl
 clear c0 c1 c2 c3 c4 c5 c6 c7 c8 c9
 go_wp2_with (first | (at_builtin;refine z0j (k:=1) (by decide) Tryz.underlying94 z1e rfl (by omega) rfl _ _ rfl v4 m4 (vL B4) rfl (by rw [← HL4.out];exact HFA.out.row.own) pw 1 cw (vL [bitN r.cp]) rfl (by rw [z1i,Nat.mul_one];exact HSL.out.len) (z2c HSL.out) (z2d HSL.out) (z1r _) (by omega) ?_;intro pn cn w3 h1 h2 h3))
 have hf:=HFA.out.app (M:=[bitN r.cp]) HSL.out.lt h1 h2 h3
 clear h1 h2 h3
 generalize hB5:B4 ++ [bitN r.cp]=B5 at hf
 have HBq5:=hid hB5
 have HL5:Hid (B5.length=m4+1):=hid (by rw [← hB5,List.length_append,HL4.out];first | rfl | (simp only [z0r];try omega))
 generalize Value.slice pn (m4+1) cn=v5 at *
 have H5:=hid hf
 clear hf hB5
 obtain⟨m5,hm5⟩:∃ z,m4+1=z:=⟨_,rfl⟩
 have hq5:m5≤m4+1:=by omega
 rw [hm5] at HL5
 clear hm5
 obtain⟨w5,hw5x⟩:∃ x,x=w3:=⟨_,rfl⟩
 subst hw5x
 go_ret
 have hst:le r.st.toNat 1=[r.st.toNat]:=z3m (by have e:=HOK.out.st;change 0≤r.st∧r.st≤255 at e;omega)
 have hoo:le r.o.toNat 1=[r.o.toNat]:=z3m (by have e:=HOK.out.o;change 0≤r.o∧r.o≤255 at e;omega)
 have hfin:z0o (r.x L T M)=B5:=by
  rw [← HBq5.out,← HBq4.out,← HBq3.out,← HBq2.out,← HBq1.out]
  unfold z0o
  rw [show (r.x L T M).k=2 from hk,show le (2:Int).toNat 1=[2] from rfl]
  simp [kS,kT,kB,kA,kO,kP,Rv.x,keyB,List.append_assoc,hst,hoo]
 rw [hfin]
 exact⟨_,rfl,H5.out.row,HB1.out.trans (H5.out.below.mono HB1.out.size),fun k hk=>Nat.le_trans HB1.out.size (H5.out.own k hk)⟩
theorem rrec_bytes3 (r:Rv) (L:List Ln) (T:List Tk) (M:List Ln) (W:World) (hP:RvM W r L T M) (hok:Rxok (r.x L T M)) (h1:r.ln≤20∧r.tn≤30∧r.wn≤20) (hk:r.k=3):Calls Tryz.prog 50 #[.agg (rcs r)] W (z3a W (z0o (r.x L T M)).length (z0o (r.x L T M))):=by
 obtain⟨W1,hW1,hb1⟩:∃ W1,W.alloc (.cells (rcs r) 40)=W1∧Below W.heap.size W W1:=⟨_,rfl,(Below.refl _ _).alloc (Nat.le_refl _) _⟩
 obtain⟨B,hB⟩:∃ B,W.heap.size=B:=⟨_,rfl⟩
 have hrb:=RB.new W r
 rw [hW1,hB] at hrb
 have h0:FB W1 (W1.alloc (.cells #[.int .u8 3] 5)) (.slice (some ⟨W1.heap.size,0,none⟩) 1 1) [3]:=FB.lit (m:=1) (Below.refl _ _) rfl rfl (by omega) (fun x hx=>by obtain rfl:=List.mem_singleton.1 hx;omega)
 obtain⟨w1,hw1⟩:∃ w1,W1.alloc (.cells #[.int .u8 3] 5)=w1:=⟨_,rfl⟩
 rw [hw1] at h0
 have Hw1:=hid hw1
 have H1:=hid h0
 have HX1:=hid hrb
 have HW1:=hid hW1
 have HB1:=hid hb1
 have HRE:=hid hB
 have HOK:=hid hok
 have HP:=hid hP
 have HH:=hid h1
 have u1:IntKind.u64.wrap r.sg=r.sg:=wrap_u64 hok.sg
 have u2:IntKind.u64.wrap r.tx=r.tx:=wrap_u64 hok.tx
 have HGX:=hid (HX1.out)
 obtain⟨c0,c1,c2,c3,c4,c5,c6,c7,c8,c9⟩:=HGX.out.at
 rw [hk] at c0
 clear hW1 hB hb1 hrb hP h0 hw1 h1 hok
 go_enter Tryz.func50,Tryz.ntmps50
 go_upto_region 1 with (fail)
 rw [HW1.out,HRE.out]
 go_upto_region 2 with (fail)
 rw [Hw1.out]
 clear c0 c1 c2 c3 c4 c5 c6 c7 c8 c9
 obtain⟨v1,hv1⟩:∃ v1,Value.slice (some ⟨W1.heap.size,0,none⟩) 1 1=v1:=⟨_,rfl⟩
 rw [hv1] at H1 ⊢
 clear hv1
 obtain⟨B1,hB1⟩:∃ B1,[3]=B1:=⟨_,rfl⟩
 obtain⟨m1,hm1⟩:∃ m1,1=m1:=⟨_,rfl⟩
 have hq1:m1≤1:=by omega
 have HL1:Hid (B1.length=m1):=hid (by rw [← hB1,← hm1];rfl)
 clear hm1
 rw [hB1] at H1
 have HBq1:=hid hB1
 clear hB1
 have HGX:=hid (HX1.out.later H1.out.below)
 obtain⟨c0,c1,c2,c3,c4,c5,c6,c7,c8,c9⟩:=HGX.out.at
 rw [hk] at c0
 go_wp2_with fail
 refine (rn4 r.sg HOK.out.sg w1).mono ?_
 rintro e xs ⟨vv,rfl,hrow,hbs,_⟩
 obtain⟨ps,cs,hv,_,hsl,_⟩:=hrow.sl
 subst hv
 have HBS:=hid hbs.size
 have HFs:=hid (H1.out.later hbs)
 have HSs:=hid hsl
 clear hrow hbs hsl
 clear c0 c1 c2 c3 c4 c5 c6 c7 c8 c9
 have HGX:=hid (HX1.out.later HFs.out.below)
 obtain⟨c0,c1,c2,c3,c4,c5,c6,c7,c8,c9⟩:=HGX.out.at
 rw [hk] at c0
 go_wp2_with fail
 refine (rn4 r.tx HOK.out.tx xs).mono ?_
 rintro e xt ⟨vv,rfl,hrow,hbt,hot⟩
 obtain⟨pt,ct,hv,_,hsl,hqt⟩:=hrow.sl
 have HPT:Hid (∀ a,pt=some a→w1.heap.size≤a.block):=hid fun a ha=>by have h1:=hot _ (hqt a ha);have h2:=HBS.out;omega
 have HV1:Hid (∀ k,v1.ownBlock=some k→k<w1.heap.size):=hid H1.out.row.bound
 clear hot hqt
 subst hv
 have HFt:=hid (HFs.out.later hbt)
 have HSt:=hid hsl
 have HSs:=hid (HSs.out.later hbt)
 clear hrow hbt hsl
 clear c0 c1 c2 c3 c4 c5 c6 c7 c8 c9
 have HGX:=hid (HX1.out.later HFt.out.below)
 obtain⟨c0,c1,c2,c3,c4,c5,c6,c7,c8,c9⟩:=HGX.out.at
 rw [hk] at c0
 go_upto_region 16 with (at_builtin;refine z0j (k:=1) (by decide) Tryz.underlying94 z1e rfl (by omega) rfl _ _ rfl v1 m1 (vL B1) rfl (by rw [← HL1.out];exact HFt.out.row.own) pt 4 ct (vL (le r.tx.toNat 4)) rfl (by rw [z1i,Nat.mul_one];exact HSt.out.len) (z2c HSt.out) (z2d HSt.out) (z1r _) (by omega) ?_;intro pn cn w3 h1 h2 h3)
 have hf:=HFt.out.app (M:=(le r.tx.toNat 4)) HSt.out.lt h1 h2 h3
 clear h1 h2 h3
 generalize hB2:B1++(le r.tx.toNat 4)=B2 at hf
 have HBq2:=hid hB2
 have HL2:Hid (B2.length=m1+4):=hid (by rw [← hB2,List.length_append,HL1.out];first | rfl | (simp only [z0r];try omega))
 generalize Value.slice pn (m1+4) cn=v2 at *
 have H2:=hid hf
 clear hf hB2
 obtain⟨m2,hm2⟩:∃ z,m1+4=z:=⟨_,rfl⟩
 have hq2:m2≤m1+4:=by omega
 rw [hm2] at HL2
 clear hm2
 obtain⟨w2,hw2x⟩:∃ x,x=w3:=⟨_,rfl⟩
 subst hw2x
 clear c0 c1 c2 c3 c4 c5 c6 c7 c8 c9
 have HGX:=hid (HX1.out.later H2.out.below)
 obtain⟨c0,c1,c2,c3,c4,c5,c6,c7,c8,c9⟩:=HGX.out.at
 rw [hk] at c0
 have HFA:=hid (H2.out.later (show Below w2.heap.size w2 (w2.alloc (.cells #[.int .u8 r.ka,.int .u8 r.kb,.int .u8 r.kc] 5)) from (Below.refl _ _).alloc (Nat.le_refl _) _))
 go_upto_region 17 with (at_builtin;refine z0j (k:=1) (by decide) Tryz.underlying94 z1e rfl (by omega) rfl _ _ rfl v2 m2 (vL B2) rfl (by rw [← HL2.out];exact HFA.out.row.own) (some ⟨w2.heap.size,0,none⟩) 3 3 (vL [r.ka.toNat,r.kb.toNat,r.kc.toNat]) rfl (by rw [z1i];rfl) (fun h=>by cases h) (z3j w2 #[.int .u8 r.ka,.int .u8 r.kb,.int .u8 r.kc] [r.ka.toNat,r.kb.toNat,r.kc.toNat] (vL_one3 HOK.out.key.1 HOK.out.key.2.1 HOK.out.key.2.2)) (z1r _) (by omega) ?_;intro pn cn w3 h1 h2 h3)
 have hf:=HFA.out.app (M:=[r.ka.toNat,r.kb.toNat,r.kc.toNat]) (fun y hy=>by have e1:=HOK.out.key.1;have e2:=HOK.out.key.2.1;have e3:=HOK.out.key.2.2;change 0≤r.ka∧r.ka≤255 at e1;change 0≤r.kb∧r.kb≤255 at e2;change 0≤r.kc∧r.kc≤255 at e3;simp only [List.mem_cons,List.not_mem_nil,or_false] at hy;omega) h1 h2 h3
 clear h1 h2 h3
 generalize hB3:B2 ++ [r.ka.toNat,r.kb.toNat,r.kc.toNat]=B3 at hf
 have HBq3:=hid hB3
 have HL3:Hid (B3.length=m2+3):=hid (by rw [← hB3,List.length_append,HL2.out];first | rfl | (simp only [z0r];try omega))
 generalize Value.slice pn (m2+3) cn=v3 at *
 have H3:=hid hf
 clear hf hB3
 obtain⟨m3,hm3⟩:∃ z,m2+3=z:=⟨_,rfl⟩
 have hq3:m3≤m2+3:=by omega
 rw [hm3] at HL3
 clear hm3
 obtain⟨w3,hw3x⟩:∃ x,x=w3:=⟨_,rfl⟩
 subst hw3x
 clear c0 c1 c2 c3 c4 c5 c6 c7 c8 c9
 have HGX:=hid (HX1.out.later H3.out.below)
 obtain⟨c0,c1,c2,c3,c4,c5,c6,c7,c8,c9⟩:=HGX.out.at
 rw [hk] at c0
 go_wp2_with fail
 refine (z9h r.d w3 HOK.out.d).mono ?_
 rintro e y3 ⟨vv,rfl,hrow,hb4,_⟩
 obtain⟨pw,cw,hv,_,hsl,_⟩:=hrow.sl
 subst hv
 clear hrow
 have HFA:=hid (H3.out.later hb4)
 have HSL:=hid hsl
 clear hb4 hsl
 clear c0 c1 c2 c3 c4 c5 c6 c7 c8 c9
 go_wp2_with (first | (at_builtin;refine z0j (k:=1) (by decide) Tryz.underlying94 z1e rfl (by omega) rfl _ _ rfl v3 m3 (vL B3) rfl (by rw [← HL3.out];exact HFA.out.row.own) pw 8 cw (vL (le (Go.Proofs.YtnpjpelbcmgodaaGreatDoor.u64 r.d) 8)) rfl (by rw [z1i,Nat.mul_one];exact HSL.out.len) (z2c HSL.out) (z2d HSL.out) (z1r _) (by omega) ?_;intro pn cn w3 h1 h2 h3))
 have hf:=HFA.out.app (M:=(le (Go.Proofs.YtnpjpelbcmgodaaGreatDoor.u64 r.d) 8)) HSL.out.lt h1 h2 h3
 clear h1 h2 h3
 generalize hB4:B3++(le (Go.Proofs.YtnpjpelbcmgodaaGreatDoor.u64 r.d) 8)=B4 at hf
 have HBq4:=hid hB4
 have HL4:Hid (B4.length=m3+8):=hid (by rw [← hB4,List.length_append,HL3.out];first | rfl | (simp only [z0r];try omega))
 generalize Value.slice pn (m3+8) cn=v4 at *
 have H4:=hid hf
 clear hf hB4
 obtain⟨m4,hm4⟩:∃ z,m3+8=z:=⟨_,rfl⟩
 have hq4:m4≤m3+8:=by omega
 rw [hm4] at HL4
 clear hm4
 obtain⟨w4,hw4x⟩:∃ x,x=w3:=⟨_,rfl⟩
 subst hw4x
 go_ret
 have hst:le r.st.toNat 1=[r.st.toNat]:=z3m (by have e:=HOK.out.st;change 0≤r.st∧r.st≤255 at e;omega)
 have hoo:le r.o.toNat 1=[r.o.toNat]:=z3m (by have e:=HOK.out.o;change 0≤r.o∧r.o≤255 at e;omega)
 have hfin:z0o (r.x L T M)=B4:=by
  rw [← HBq4.out,← HBq3.out,← HBq2.out,← HBq1.out]
  unfold z0o
  rw [show (r.x L T M).k=3 from hk,show le (3:Int).toNat 1=[3] from rfl]
  simp [kS,kT,kB,kA,kO,kP,Rv.x,keyB,List.append_assoc,hst,hoo]
 rw [hfin]
 exact⟨_,rfl,H4.out.row,HB1.out.trans (H4.out.below.mono HB1.out.size),fun k hk=>Nat.le_trans HB1.out.size (H4.out.own k hk)⟩
theorem rrec_bytes4 (r:Rv) (L:List Ln) (T:List Tk) (M:List Ln) (W:World) (hP:RvM W r L T M) (hok:Rxok (r.x L T M)) (h1:r.ln≤20∧r.tn≤30∧r.wn≤20) (hk:r.k=4):Calls Tryz.prog 50 #[.agg (rcs r)] W (z3a W (z0o (r.x L T M)).length (z0o (r.x L T M))):=by
 obtain⟨W1,hW1,hb1⟩:∃ W1,W.alloc (.cells (rcs r) 40)=W1∧Below W.heap.size W W1:=⟨_,rfl,(Below.refl _ _).alloc (Nat.le_refl _) _⟩
 obtain⟨B,hB⟩:∃ B,W.heap.size=B:=⟨_,rfl⟩
 have hrb:=RB.new W r
 rw [hW1,hB] at hrb
 have h0:FB W1 (W1.alloc (.cells #[.int .u8 4] 5)) (.slice (some ⟨W1.heap.size,0,none⟩) 1 1) [4]:=FB.lit (m:=1) (Below.refl _ _) rfl rfl (by omega) (fun x hx=>by obtain rfl:=List.mem_singleton.1 hx;omega)
 obtain⟨w1,hw1⟩:∃ w1,W1.alloc (.cells #[.int .u8 4] 5)=w1:=⟨_,rfl⟩
 rw [hw1] at h0
 have Hw1:=hid hw1
 have H1:=hid h0
 have HX1:=hid hrb
 have HW1:=hid hW1
 have HB1:=hid hb1
 have HRE:=hid hB
 have HOK:=hid hok
 have HP:=hid hP
 have HH:=hid h1
 have u1:IntKind.u64.wrap r.sg=r.sg:=wrap_u64 hok.sg
 have u2:IntKind.u64.wrap r.tx=r.tx:=wrap_u64 hok.tx
 have HGX:=hid (HX1.out)
 obtain⟨c0,c1,c2,c3,c4,c5,c6,c7,c8,c9⟩:=HGX.out.at
 rw [hk] at c0
 clear hW1 hB hb1 hrb hP h0 hw1 h1 hok
 go_enter Tryz.func50,Tryz.ntmps50
 go_upto_region 1 with (fail)
 rw [HW1.out,HRE.out]
 go_upto_region 2 with (fail)
 rw [Hw1.out]
 clear c0 c1 c2 c3 c4 c5 c6 c7 c8 c9
 obtain⟨v1,hv1⟩:∃ v1,Value.slice (some ⟨W1.heap.size,0,none⟩) 1 1=v1:=⟨_,rfl⟩
 rw [hv1] at H1 ⊢
 clear hv1
 obtain⟨B1,hB1⟩:∃ B1,[4]=B1:=⟨_,rfl⟩
 obtain⟨m1,hm1⟩:∃ m1,1=m1:=⟨_,rfl⟩
 have hq1:m1≤1:=by omega
 have HL1:Hid (B1.length=m1):=hid (by rw [← hB1,← hm1];rfl)
 clear hm1
 rw [hB1] at H1
 have HBq1:=hid hB1
 clear hB1
 have HGX:=hid (HX1.out.later H1.out.below)
 obtain⟨c0,c1,c2,c3,c4,c5,c6,c7,c8,c9⟩:=HGX.out.at
 rw [hk] at c0
 go_wp2_with fail
 refine (rn4 r.sg HOK.out.sg w1).mono ?_
 rintro e xs ⟨vv,rfl,hrow,hbs,_⟩
 obtain⟨ps,cs,hv,_,hsl,_⟩:=hrow.sl
 subst hv
 have HBS:=hid hbs.size
 have HFs:=hid (H1.out.later hbs)
 have HSs:=hid hsl
 clear hrow hbs hsl
 clear c0 c1 c2 c3 c4 c5 c6 c7 c8 c9
 have HGX:=hid (HX1.out.later HFs.out.below)
 obtain⟨c0,c1,c2,c3,c4,c5,c6,c7,c8,c9⟩:=HGX.out.at
 rw [hk] at c0
 go_wp2_with fail
 refine (rn4 r.tx HOK.out.tx xs).mono ?_
 rintro e xt ⟨vv,rfl,hrow,hbt,hot⟩
 obtain⟨pt,ct,hv,_,hsl,hqt⟩:=hrow.sl
 have HPT:Hid (∀ a,pt=some a→w1.heap.size≤a.block):=hid fun a ha=>by have h1:=hot _ (hqt a ha);have h2:=HBS.out;omega
 have HV1:Hid (∀ k,v1.ownBlock=some k→k<w1.heap.size):=hid H1.out.row.bound
 clear hot hqt
 subst hv
 have HFt:=hid (HFs.out.later hbt)
 have HSt:=hid hsl
 have HSs:=hid (HSs.out.later hbt)
 clear hrow hbt hsl
 clear c0 c1 c2 c3 c4 c5 c6 c7 c8 c9
 have HGX:=hid (HX1.out.later HFt.out.below)
 obtain⟨c0,c1,c2,c3,c4,c5,c6,c7,c8,c9⟩:=HGX.out.at
 rw [hk] at c0
 go_wp2_with (first | (at_builtin;refine z0j (k:=1) (by decide) Tryz.underlying94 z1e rfl (by omega) rfl _ _ rfl v1 m1 (vL B1) rfl (by rw [← HL1.out];exact HFt.out.row.own) pt 4 ct (vL (le r.tx.toNat 4)) rfl (by rw [z1i,Nat.mul_one];exact HSt.out.len) (z2c HSt.out) (z2d HSt.out) (z1r _) (by omega) ?_;intro pn cn w3 h1 h2 h3))
 have hf:=HFt.out.app (M:=(le r.tx.toNat 4)) HSt.out.lt h1 h2 h3
 clear h1 h2 h3
 generalize hB2:B1++(le r.tx.toNat 4)=B2 at hf
 have HBq2:=hid hB2
 have HL2:Hid (B2.length=m1+4):=hid (by rw [← hB2,List.length_append,HL1.out];first | rfl | (simp only [z0r];try omega))
 generalize Value.slice pn (m1+4) cn=v2 at *
 have H2:=hid hf
 clear hf hB2
 obtain⟨m2,hm2⟩:∃ z,m1+4=z:=⟨_,rfl⟩
 have hq2:m2≤m1+4:=by omega
 rw [hm2] at HL2
 clear hm2
 obtain⟨w2,hw2x⟩:∃ x,x=w3:=⟨_,rfl⟩
 subst hw2x
 clear c0 c1 c2 c3 c4 c5 c6 c7 c8 c9
 go_ret
 have hst:le r.st.toNat 1=[r.st.toNat]:=z3m (by have e:=HOK.out.st;change 0≤r.st∧r.st≤255 at e;omega)
 have hoo:le r.o.toNat 1=[r.o.toNat]:=z3m (by have e:=HOK.out.o;change 0≤r.o∧r.o≤255 at e;omega)
 have hfin:z0o (r.x L T M)=B2:=by
  rw [← HBq2.out,← HBq1.out]
  unfold z0o
  rw [show (r.x L T M).k=4 from hk,show le (4:Int).toNat 1=[4] from rfl]
  simp [kS,kT,kB,kA,kO,kP,Rv.x,keyB,List.append_assoc,hst,hoo]
 rw [hfin]
 exact⟨_,rfl,H2.out.row,HB1.out.trans (H2.out.below.mono HB1.out.size),fun k hk=>Nat.le_trans HB1.out.size (H2.out.own k hk)⟩
theorem rrec_bytes5 (r:Rv) (L:List Ln) (T:List Tk) (M:List Ln) (W:World) (hP:RvM W r L T M) (hok:Rxok (r.x L T M)) (h1:r.ln≤20∧r.tn≤30∧r.wn≤20) (hk:r.k=5):Calls Tryz.prog 50 #[.agg (rcs r)] W (z3a W (z0o (r.x L T M)).length (z0o (r.x L T M))):=by
 obtain⟨W1,hW1,hb1⟩:∃ W1,W.alloc (.cells (rcs r) 40)=W1∧Below W.heap.size W W1:=⟨_,rfl,(Below.refl _ _).alloc (Nat.le_refl _) _⟩
 obtain⟨B,hB⟩:∃ B,W.heap.size=B:=⟨_,rfl⟩
 have hrb:=RB.new W r
 rw [hW1,hB] at hrb
 have h0:FB W1 (W1.alloc (.cells #[.int .u8 5] 5)) (.slice (some ⟨W1.heap.size,0,none⟩) 1 1) [5]:=FB.lit (m:=1) (Below.refl _ _) rfl rfl (by omega) (fun x hx=>by obtain rfl:=List.mem_singleton.1 hx;omega)
 obtain⟨w1,hw1⟩:∃ w1,W1.alloc (.cells #[.int .u8 5] 5)=w1:=⟨_,rfl⟩
 rw [hw1] at h0
 have Hw1:=hid hw1
 have H1:=hid h0
 have HX1:=hid hrb
 have HW1:=hid hW1
 have HB1:=hid hb1
 have HRE:=hid hB
 have HOK:=hid hok
 have HP:=hid hP
 have HH:=hid h1
 have u1:IntKind.u64.wrap r.sg=r.sg:=wrap_u64 hok.sg
 have u2:IntKind.u64.wrap r.tx=r.tx:=wrap_u64 hok.tx
 have HGX:=hid (HX1.out)
 obtain⟨c0,c1,c2,c3,c4,c5,c6,c7,c8,c9⟩:=HGX.out.at
 rw [hk] at c0
 clear hW1 hB hb1 hrb hP h0 hw1 h1 hok
 go_enter Tryz.func50,Tryz.ntmps50
 go_upto_region 1 with (fail)
 rw [HW1.out,HRE.out]
 go_upto_region 2 with (fail)
 rw [Hw1.out]
 clear c0 c1 c2 c3 c4 c5 c6 c7 c8 c9
 obtain⟨v1,hv1⟩:∃ v1,Value.slice (some ⟨W1.heap.size,0,none⟩) 1 1=v1:=⟨_,rfl⟩
 rw [hv1] at H1 ⊢
 clear hv1
 obtain⟨B1,hB1⟩:∃ B1,[5]=B1:=⟨_,rfl⟩
 obtain⟨m1,hm1⟩:∃ m1,1=m1:=⟨_,rfl⟩
 have hq1:m1≤1:=by omega
 have HL1:Hid (B1.length=m1):=hid (by rw [← hB1,← hm1];rfl)
 clear hm1
 rw [hB1] at H1
 have HBq1:=hid hB1
 clear hB1
 have HGX:=hid (HX1.out.later H1.out.below)
 obtain⟨c0,c1,c2,c3,c4,c5,c6,c7,c8,c9⟩:=HGX.out.at
 rw [hk] at c0
 go_wp2_with fail
 refine (rn4 r.sg HOK.out.sg w1).mono ?_
 rintro e xs ⟨vv,rfl,hrow,hbs,_⟩
 obtain⟨ps,cs,hv,_,hsl,_⟩:=hrow.sl
 subst hv
 have HBS:=hid hbs.size
 have HFs:=hid (H1.out.later hbs)
 have HSs:=hid hsl
 clear hrow hbs hsl
 clear c0 c1 c2 c3 c4 c5 c6 c7 c8 c9
 have HGX:=hid (HX1.out.later HFs.out.below)
 obtain⟨c0,c1,c2,c3,c4,c5,c6,c7,c8,c9⟩:=HGX.out.at
 rw [hk] at c0
 go_wp2_with fail
 refine (rn4 r.tx HOK.out.tx xs).mono ?_
 rintro e xt ⟨vv,rfl,hrow,hbt,hot⟩
 obtain⟨pt,ct,hv,_,hsl,hqt⟩:=hrow.sl
 have HPT:Hid (∀ a,pt=some a→w1.heap.size≤a.block):=hid fun a ha=>by have h1:=hot _ (hqt a ha);have h2:=HBS.out;omega
 have HV1:Hid (∀ k,v1.ownBlock=some k→k<w1.heap.size):=hid H1.out.row.bound
 clear hot hqt
 subst hv
 have HFt:=hid (HFs.out.later hbt)
 have HSt:=hid hsl
 have HSs:=hid (HSs.out.later hbt)
 clear hrow hbt hsl
 clear c0 c1 c2 c3 c4 c5 c6 c7 c8 c9
 have HGX:=hid (HX1.out.later HFt.out.below)
 obtain⟨c0,c1,c2,c3,c4,c5,c6,c7,c8,c9⟩:=HGX.out.at
 rw [hk] at c0
 go_wp2_with (first | (at_builtin;refine z0j (k:=1) (by decide) Tryz.underlying94 z1e rfl (by omega) rfl _ _ rfl v1 m1 (vL B1) rfl (by rw [← HL1.out];exact HFt.out.row.own) pt 4 ct (vL (le r.tx.toNat 4)) rfl (by rw [z1i,Nat.mul_one];exact HSt.out.len) (z2c HSt.out) (z2d HSt.out) (z1r _) (by omega) ?_;intro pn cn w3 h1 h2 h3))
 have hf:=HFt.out.app (M:=(le r.tx.toNat 4)) HSt.out.lt h1 h2 h3
 clear h1 h2 h3
 generalize hB2:B1++(le r.tx.toNat 4)=B2 at hf
 have HBq2:=hid hB2
 have HL2:Hid (B2.length=m1+4):=hid (by rw [← hB2,List.length_append,HL1.out];first | rfl | (simp only [z0r];try omega))
 generalize Value.slice pn (m1+4) cn=v2 at *
 have H2:=hid hf
 clear hf hB2
 obtain⟨m2,hm2⟩:∃ z,m1+4=z:=⟨_,rfl⟩
 have hq2:m2≤m1+4:=by omega
 rw [hm2] at HL2
 clear hm2
 obtain⟨w2,hw2x⟩:∃ x,x=w3:=⟨_,rfl⟩
 subst hw2x
 clear c0 c1 c2 c3 c4 c5 c6 c7 c8 c9
 go_ret
 have hst:le r.st.toNat 1=[r.st.toNat]:=z3m (by have e:=HOK.out.st;change 0≤r.st∧r.st≤255 at e;omega)
 have hoo:le r.o.toNat 1=[r.o.toNat]:=z3m (by have e:=HOK.out.o;change 0≤r.o∧r.o≤255 at e;omega)
 have hfin:z0o (r.x L T M)=B2:=by
  rw [← HBq2.out,← HBq1.out]
  unfold z0o
  rw [show (r.x L T M).k=5 from hk,show le (5:Int).toNat 1=[5] from rfl]
  simp [kS,kT,kB,kA,kO,kP,Rv.x,keyB,List.append_assoc,hst,hoo]
 rw [hfin]
 exact⟨_,rfl,H2.out.row,HB1.out.trans (H2.out.below.mono HB1.out.size),fun k hk=>Nat.le_trans HB1.out.size (H2.out.own k hk)⟩
theorem rrec_bytes6 (r:Rv) (L:List Ln) (T:List Tk) (M:List Ln) (W:World) (hP:RvM W r L T M) (hok:Rxok (r.x L T M)) (h1:r.ln≤20∧r.tn≤30∧r.wn≤20) (hk:r.k=6):Calls Tryz.prog 50 #[.agg (rcs r)] W (z3a W (z0o (r.x L T M)).length (z0o (r.x L T M))):=by
 obtain⟨W1,hW1,hb1⟩:∃ W1,W.alloc (.cells (rcs r) 40)=W1∧Below W.heap.size W W1:=⟨_,rfl,(Below.refl _ _).alloc (Nat.le_refl _) _⟩
 obtain⟨B,hB⟩:∃ B,W.heap.size=B:=⟨_,rfl⟩
 have hrb:=RB.new W r
 rw [hW1,hB] at hrb
 have h0:FB W1 (W1.alloc (.cells #[.int .u8 6] 5)) (.slice (some ⟨W1.heap.size,0,none⟩) 1 1) [6]:=FB.lit (m:=1) (Below.refl _ _) rfl rfl (by omega) (fun x hx=>by obtain rfl:=List.mem_singleton.1 hx;omega)
 obtain⟨w1,hw1⟩:∃ w1,W1.alloc (.cells #[.int .u8 6] 5)=w1:=⟨_,rfl⟩
 rw [hw1] at h0
 have Hw1:=hid hw1
 have H1:=hid h0
 have HX1:=hid hrb
 have HW1:=hid hW1
 have HB1:=hid hb1
 have HRE:=hid hB
 have HOK:=hid hok
 have HP:=hid hP
 have HH:=hid h1
 have u1:IntKind.u64.wrap r.sg=r.sg:=wrap_u64 hok.sg
 have u2:IntKind.u64.wrap r.tx=r.tx:=wrap_u64 hok.tx
 have HGX:=hid (HX1.out)
 obtain⟨c0,c1,c2,c3,c4,c5,c6,c7,c8,c9⟩:=HGX.out.at
 rw [hk] at c0
 clear hW1 hB hb1 hrb hP h0 hw1 h1 hok
 go_enter Tryz.func50,Tryz.ntmps50
 go_upto_region 1 with (fail)
 rw [HW1.out,HRE.out]
 go_upto_region 2 with (fail)
 rw [Hw1.out]
 clear c0 c1 c2 c3 c4 c5 c6 c7 c8 c9
 obtain⟨v1,hv1⟩:∃ v1,Value.slice (some ⟨W1.heap.size,0,none⟩) 1 1=v1:=⟨_,rfl⟩
 rw [hv1] at H1 ⊢
 clear hv1
 obtain⟨B1,hB1⟩:∃ B1,[6]=B1:=⟨_,rfl⟩
 obtain⟨m1,hm1⟩:∃ m1,1=m1:=⟨_,rfl⟩
 have hq1:m1≤1:=by omega
 have HL1:Hid (B1.length=m1):=hid (by rw [← hB1,← hm1];rfl)
 clear hm1
 rw [hB1] at H1
 have HBq1:=hid hB1
 clear hB1
 have HGX:=hid (HX1.out.later H1.out.below)
 obtain⟨c0,c1,c2,c3,c4,c5,c6,c7,c8,c9⟩:=HGX.out.at
 rw [hk] at c0
 go_wp2_with fail
 refine (rn4 r.sg HOK.out.sg w1).mono ?_
 rintro e xs ⟨vv,rfl,hrow,hbs,_⟩
 obtain⟨ps,cs,hv,_,hsl,_⟩:=hrow.sl
 subst hv
 have HBS:=hid hbs.size
 have HFs:=hid (H1.out.later hbs)
 have HSs:=hid hsl
 clear hrow hbs hsl
 clear c0 c1 c2 c3 c4 c5 c6 c7 c8 c9
 have HGX:=hid (HX1.out.later HFs.out.below)
 obtain⟨c0,c1,c2,c3,c4,c5,c6,c7,c8,c9⟩:=HGX.out.at
 rw [hk] at c0
 go_wp2_with fail
 refine (rn4 r.tx HOK.out.tx xs).mono ?_
 rintro e xt ⟨vv,rfl,hrow,hbt,hot⟩
 obtain⟨pt,ct,hv,_,hsl,hqt⟩:=hrow.sl
 have HPT:Hid (∀ a,pt=some a→w1.heap.size≤a.block):=hid fun a ha=>by have h1:=hot _ (hqt a ha);have h2:=HBS.out;omega
 have HV1:Hid (∀ k,v1.ownBlock=some k→k<w1.heap.size):=hid H1.out.row.bound
 clear hot hqt
 subst hv
 have HFt:=hid (HFs.out.later hbt)
 have HSt:=hid hsl
 have HSs:=hid (HSs.out.later hbt)
 clear hrow hbt hsl
 clear c0 c1 c2 c3 c4 c5 c6 c7 c8 c9
 have HGX:=hid (HX1.out.later HFt.out.below)
 obtain⟨c0,c1,c2,c3,c4,c5,c6,c7,c8,c9⟩:=HGX.out.at
 rw [hk] at c0
 go_upto_region 16 with (at_builtin;refine z0j (k:=1) (by decide) Tryz.underlying94 z1e rfl (by omega) rfl _ _ rfl v1 m1 (vL B1) rfl (by rw [← HL1.out];exact HFt.out.row.own) pt 4 ct (vL (le r.tx.toNat 4)) rfl (by rw [z1i,Nat.mul_one];exact HSt.out.len) (z2c HSt.out) (z2d HSt.out) (z1r _) (by omega) ?_;intro pn cn w3 h1 h2 h3)
 have hf:=HFt.out.app (M:=(le r.tx.toNat 4)) HSt.out.lt h1 h2 h3
 clear h1 h2 h3
 generalize hB2:B1++(le r.tx.toNat 4)=B2 at hf
 have HBq2:=hid hB2
 have HL2:Hid (B2.length=m1+4):=hid (by rw [← hB2,List.length_append,HL1.out];first | rfl | (simp only [z0r];try omega))
 generalize Value.slice pn (m1+4) cn=v2 at *
 have H2:=hid hf
 clear hf hB2
 obtain⟨m2,hm2⟩:∃ z,m1+4=z:=⟨_,rfl⟩
 have hq2:m2≤m1+4:=by omega
 rw [hm2] at HL2
 clear hm2
 obtain⟨w2,hw2x⟩:∃ x,x=w3:=⟨_,rfl⟩
 subst hw2x
 clear c0 c1 c2 c3 c4 c5 c6 c7 c8 c9
 have HGX:=hid (HX1.out.later H2.out.below)
 obtain⟨c0,c1,c2,c3,c4,c5,c6,c7,c8,c9⟩:=HGX.out.at
 rw [hk] at c0
 have HFA:=hid (H2.out.later (show Below w2.heap.size w2 (w2.alloc (.cells #[.int .u8 r.ka,.int .u8 r.kb,.int .u8 r.kc] 5)) from (Below.refl _ _).alloc (Nat.le_refl _) _))
 go_upto_region 17 with (at_builtin;refine z0j (k:=1) (by decide) Tryz.underlying94 z1e rfl (by omega) rfl _ _ rfl v2 m2 (vL B2) rfl (by rw [← HL2.out];exact HFA.out.row.own) (some ⟨w2.heap.size,0,none⟩) 3 3 (vL [r.ka.toNat,r.kb.toNat,r.kc.toNat]) rfl (by rw [z1i];rfl) (fun h=>by cases h) (z3j w2 #[.int .u8 r.ka,.int .u8 r.kb,.int .u8 r.kc] [r.ka.toNat,r.kb.toNat,r.kc.toNat] (vL_one3 HOK.out.key.1 HOK.out.key.2.1 HOK.out.key.2.2)) (z1r _) (by omega) ?_;intro pn cn w3 h1 h2 h3)
 have hf:=HFA.out.app (M:=[r.ka.toNat,r.kb.toNat,r.kc.toNat]) (fun y hy=>by have e1:=HOK.out.key.1;have e2:=HOK.out.key.2.1;have e3:=HOK.out.key.2.2;change 0≤r.ka∧r.ka≤255 at e1;change 0≤r.kb∧r.kb≤255 at e2;change 0≤r.kc∧r.kc≤255 at e3;simp only [List.mem_cons,List.not_mem_nil,or_false] at hy;omega) h1 h2 h3
 clear h1 h2 h3
 generalize hB3:B2 ++ [r.ka.toNat,r.kb.toNat,r.kc.toNat]=B3 at hf
 have HBq3:=hid hB3
 have HL3:Hid (B3.length=m2+3):=hid (by rw [← hB3,List.length_append,HL2.out];first | rfl | (simp only [z0r];try omega))
 generalize Value.slice pn (m2+3) cn=v3 at *
 have H3:=hid hf
 clear hf hB3
 obtain⟨m3,hm3⟩:∃ z,m2+3=z:=⟨_,rfl⟩
 have hq3:m3≤m2+3:=by omega
 rw [hm3] at HL3
 clear hm3
 obtain⟨w3,hw3x⟩:∃ x,x=w3:=⟨_,rfl⟩
 subst hw3x
 clear c0 c1 c2 c3 c4 c5 c6 c7 c8 c9
 have HGX:=hid (HX1.out.later H3.out.below)
 obtain⟨c0,c1,c2,c3,c4,c5,c6,c7,c8,c9⟩:=HGX.out.at
 rw [hk] at c0
 go_wp2_with fail
 refine (z9h r.d w3 HOK.out.d).mono ?_
 rintro e y3 ⟨vv,rfl,hrow,hb4,_⟩
 obtain⟨pw,cw,hv,_,hsl,_⟩:=hrow.sl
 subst hv
 clear hrow
 have HFA:=hid (H3.out.later hb4)
 have HSL:=hid hsl
 clear hb4 hsl
 clear c0 c1 c2 c3 c4 c5 c6 c7 c8 c9
 go_wp2_with (first | (at_builtin;refine z0j (k:=1) (by decide) Tryz.underlying94 z1e rfl (by omega) rfl _ _ rfl v3 m3 (vL B3) rfl (by rw [← HL3.out];exact HFA.out.row.own) pw 8 cw (vL (le (Go.Proofs.YtnpjpelbcmgodaaGreatDoor.u64 r.d) 8)) rfl (by rw [z1i,Nat.mul_one];exact HSL.out.len) (z2c HSL.out) (z2d HSL.out) (z1r _) (by omega) ?_;intro pn cn w3 h1 h2 h3))
 have hf:=HFA.out.app (M:=(le (Go.Proofs.YtnpjpelbcmgodaaGreatDoor.u64 r.d) 8)) HSL.out.lt h1 h2 h3
 clear h1 h2 h3
 generalize hB4:B3++(le (Go.Proofs.YtnpjpelbcmgodaaGreatDoor.u64 r.d) 8)=B4 at hf
 have HBq4:=hid hB4
 have HL4:Hid (B4.length=m3+8):=hid (by rw [← hB4,List.length_append,HL3.out];first | rfl | (simp only [z0r];try omega))
 generalize Value.slice pn (m3+8) cn=v4 at *
 have H4:=hid hf
 clear hf hB4
 obtain⟨m4,hm4⟩:∃ z,m3+8=z:=⟨_,rfl⟩
 have hq4:m4≤m3+8:=by omega
 rw [hm4] at HL4
 clear hm4
 obtain⟨w4,hw4x⟩:∃ x,x=w3:=⟨_,rfl⟩
 subst hw4x
 go_ret
 have hst:le r.st.toNat 1=[r.st.toNat]:=z3m (by have e:=HOK.out.st;change 0≤r.st∧r.st≤255 at e;omega)
 have hoo:le r.o.toNat 1=[r.o.toNat]:=z3m (by have e:=HOK.out.o;change 0≤r.o∧r.o≤255 at e;omega)
 have hfin:z0o (r.x L T M)=B4:=by
  rw [← HBq4.out,← HBq3.out,← HBq2.out,← HBq1.out]
  unfold z0o
  rw [show (r.x L T M).k=6 from hk,show le (6:Int).toNat 1=[6] from rfl]
  simp [kS,kT,kB,kA,kO,kP,Rv.x,keyB,List.append_assoc,hst,hoo]
 rw [hfin]
 exact⟨_,rfl,H4.out.row,HB1.out.trans (H4.out.below.mono HB1.out.size),fun k hk=>Nat.le_trans HB1.out.size (H4.out.own k hk)⟩
theorem rrec_bytes7 (r:Rv) (L:List Ln) (T:List Tk) (M:List Ln) (W:World) (hP:RvM W r L T M) (hok:Rxok (r.x L T M)) (h1:r.ln≤20∧r.tn≤30∧r.wn≤20) (hk:r.k=7):Calls Tryz.prog 50 #[.agg (rcs r)] W (z3a W (z0o (r.x L T M)).length (z0o (r.x L T M))):=by
 obtain⟨W1,hW1,hb1⟩:∃ W1,W.alloc (.cells (rcs r) 40)=W1∧Below W.heap.size W W1:=⟨_,rfl,(Below.refl _ _).alloc (Nat.le_refl _) _⟩
 obtain⟨B,hB⟩:∃ B,W.heap.size=B:=⟨_,rfl⟩
 have hrb:=RB.new W r
 rw [hW1,hB] at hrb
 have h0:FB W1 (W1.alloc (.cells #[.int .u8 7] 5)) (.slice (some ⟨W1.heap.size,0,none⟩) 1 1) [7]:=FB.lit (m:=1) (Below.refl _ _) rfl rfl (by omega) (fun x hx=>by obtain rfl:=List.mem_singleton.1 hx;omega)
 obtain⟨w1,hw1⟩:∃ w1,W1.alloc (.cells #[.int .u8 7] 5)=w1:=⟨_,rfl⟩
 rw [hw1] at h0
 have Hw1:=hid hw1
 have H1:=hid h0
 have HX1:=hid hrb
 have HW1:=hid hW1
 have HB1:=hid hb1
 have HRE:=hid hB
 have HOK:=hid hok
 have HP:=hid hP
 have HH:=hid h1
 have u1:IntKind.u64.wrap r.sg=r.sg:=wrap_u64 hok.sg
 have u2:IntKind.u64.wrap r.tx=r.tx:=wrap_u64 hok.tx
 have HGX:=hid (HX1.out)
 obtain⟨c0,c1,c2,c3,c4,c5,c6,c7,c8,c9⟩:=HGX.out.at
 rw [hk] at c0
 clear hW1 hB hb1 hrb hP h0 hw1 h1 hok
 go_enter Tryz.func50,Tryz.ntmps50
 go_upto_region 1 with (fail)
 rw [HW1.out,HRE.out]
 go_upto_region 2 with (fail)
 rw [Hw1.out]
 clear c0 c1 c2 c3 c4 c5 c6 c7 c8 c9
 obtain⟨v1,hv1⟩:∃ v1,Value.slice (some ⟨W1.heap.size,0,none⟩) 1 1=v1:=⟨_,rfl⟩
 rw [hv1] at H1 ⊢
 clear hv1
 obtain⟨B1,hB1⟩:∃ B1,[7]=B1:=⟨_,rfl⟩
 obtain⟨m1,hm1⟩:∃ m1,1=m1:=⟨_,rfl⟩
 have hq1:m1≤1:=by omega
 have HL1:Hid (B1.length=m1):=hid (by rw [← hB1,← hm1];rfl)
 clear hm1
 rw [hB1] at H1
 have HBq1:=hid hB1
 clear hB1
 have HGX:=hid (HX1.out.later H1.out.below)
 obtain⟨c0,c1,c2,c3,c4,c5,c6,c7,c8,c9⟩:=HGX.out.at
 rw [hk] at c0
 go_wp2_with fail
 refine (rn4 r.sg HOK.out.sg w1).mono ?_
 rintro e xs ⟨vv,rfl,hrow,hbs,_⟩
 obtain⟨ps,cs,hv,_,hsl,_⟩:=hrow.sl
 subst hv
 have HBS:=hid hbs.size
 have HFs:=hid (H1.out.later hbs)
 have HSs:=hid hsl
 clear hrow hbs hsl
 clear c0 c1 c2 c3 c4 c5 c6 c7 c8 c9
 have HGX:=hid (HX1.out.later HFs.out.below)
 obtain⟨c0,c1,c2,c3,c4,c5,c6,c7,c8,c9⟩:=HGX.out.at
 rw [hk] at c0
 go_wp2_with fail
 refine (rn4 r.tx HOK.out.tx xs).mono ?_
 rintro e xt ⟨vv,rfl,hrow,hbt,hot⟩
 obtain⟨pt,ct,hv,_,hsl,hqt⟩:=hrow.sl
 have HPT:Hid (∀ a,pt=some a→w1.heap.size≤a.block):=hid fun a ha=>by have h1:=hot _ (hqt a ha);have h2:=HBS.out;omega
 have HV1:Hid (∀ k,v1.ownBlock=some k→k<w1.heap.size):=hid H1.out.row.bound
 clear hot hqt
 subst hv
 have HFt:=hid (HFs.out.later hbt)
 have HSt:=hid hsl
 have HSs:=hid (HSs.out.later hbt)
 clear hrow hbt hsl
 clear c0 c1 c2 c3 c4 c5 c6 c7 c8 c9
 have HGX:=hid (HX1.out.later HFt.out.below)
 obtain⟨c0,c1,c2,c3,c4,c5,c6,c7,c8,c9⟩:=HGX.out.at
 rw [hk] at c0
 go_wp2_with (first | (at_builtin;refine z0j (k:=1) (by decide) Tryz.underlying94 z1e rfl (by omega) rfl _ _ rfl v1 m1 (vL B1) rfl (by rw [← HL1.out];exact HFt.out.row.own) pt 4 ct (vL (le r.tx.toNat 4)) rfl (by rw [z1i,Nat.mul_one];exact HSt.out.len) (z2c HSt.out) (z2d HSt.out) (z1r _) (by omega) ?_;intro pn cn w3 h1 h2 h3))
 have hf:=HFt.out.app (M:=(le r.tx.toNat 4)) HSt.out.lt h1 h2 h3
 clear h1 h2 h3
 generalize hB2:B1++(le r.tx.toNat 4)=B2 at hf
 have HBq2:=hid hB2
 have HL2:Hid (B2.length=m1+4):=hid (by rw [← hB2,List.length_append,HL1.out];first | rfl | (simp only [z0r];try omega))
 generalize Value.slice pn (m1+4) cn=v2 at *
 have H2:=hid hf
 clear hf hB2
 obtain⟨m2,hm2⟩:∃ z,m1+4=z:=⟨_,rfl⟩
 have hq2:m2≤m1+4:=by omega
 rw [hm2] at HL2
 clear hm2
 obtain⟨w2,hw2x⟩:∃ x,x=w3:=⟨_,rfl⟩
 subst hw2x
 clear c0 c1 c2 c3 c4 c5 c6 c7 c8 c9
 go_ret
 have hst:le r.st.toNat 1=[r.st.toNat]:=z3m (by have e:=HOK.out.st;change 0≤r.st∧r.st≤255 at e;omega)
 have hoo:le r.o.toNat 1=[r.o.toNat]:=z3m (by have e:=HOK.out.o;change 0≤r.o∧r.o≤255 at e;omega)
 have hfin:z0o (r.x L T M)=B2:=by
  rw [← HBq2.out,← HBq1.out]
  unfold z0o
  rw [show (r.x L T M).k=7 from hk,show le (7:Int).toNat 1=[7] from rfl]
  simp [kS,kT,kB,kA,kO,kP,Rv.x,keyB,List.append_assoc,hst,hoo]
 rw [hfin]
 exact⟨_,rfl,H2.out.row,HB1.out.trans (H2.out.below.mono HB1.out.size),fun k hk=>Nat.le_trans HB1.out.size (H2.out.own k hk)⟩
theorem rrec_bytes8 (r:Rv) (L:List Ln) (T:List Tk) (M:List Ln) (W:World) (hP:RvM W r L T M) (hok:Rxok (r.x L T M)) (h1:r.ln≤20∧r.tn≤30∧r.wn≤20) (hk:r.k=8):Calls Tryz.prog 50 #[.agg (rcs r)] W (z3a W (z0o (r.x L T M)).length (z0o (r.x L T M))):=by
 obtain⟨W1,hW1,hb1⟩:∃ W1,W.alloc (.cells (rcs r) 40)=W1∧Below W.heap.size W W1:=⟨_,rfl,(Below.refl _ _).alloc (Nat.le_refl _) _⟩
 obtain⟨B,hB⟩:∃ B,W.heap.size=B:=⟨_,rfl⟩
 have hrb:=RB.new W r
 rw [hW1,hB] at hrb
 have h0:FB W1 (W1.alloc (.cells #[.int .u8 8] 5)) (.slice (some ⟨W1.heap.size,0,none⟩) 1 1) [8]:=FB.lit (m:=1) (Below.refl _ _) rfl rfl (by omega) (fun x hx=>by obtain rfl:=List.mem_singleton.1 hx;omega)
 obtain⟨w1,hw1⟩:∃ w1,W1.alloc (.cells #[.int .u8 8] 5)=w1:=⟨_,rfl⟩
 rw [hw1] at h0
 have Hw1:=hid hw1
 have H1:=hid h0
 have HX1:=hid hrb
 have HW1:=hid hW1
 have HB1:=hid hb1
 have HRE:=hid hB
 have HOK:=hid hok
 have HP:=hid hP
 have HH:=hid h1
 have u1:IntKind.u64.wrap r.sg=r.sg:=wrap_u64 hok.sg
 have u2:IntKind.u64.wrap r.tx=r.tx:=wrap_u64 hok.tx
 have HGX:=hid (HX1.out)
 obtain⟨c0,c1,c2,c3,c4,c5,c6,c7,c8,c9⟩:=HGX.out.at
 rw [hk] at c0
 clear hW1 hB hb1 hrb hP h0 hw1 h1 hok
 go_enter Tryz.func50,Tryz.ntmps50
 go_upto_region 1 with (fail)
 rw [HW1.out,HRE.out]
 go_upto_region 2 with (fail)
 rw [Hw1.out]
 clear c0 c1 c2 c3 c4 c5 c6 c7 c8 c9
 obtain⟨v1,hv1⟩:∃ v1,Value.slice (some ⟨W1.heap.size,0,none⟩) 1 1=v1:=⟨_,rfl⟩
 rw [hv1] at H1 ⊢
 clear hv1
 obtain⟨B1,hB1⟩:∃ B1,[8]=B1:=⟨_,rfl⟩
 obtain⟨m1,hm1⟩:∃ m1,1=m1:=⟨_,rfl⟩
 have hq1:m1≤1:=by omega
 have HL1:Hid (B1.length=m1):=hid (by rw [← hB1,← hm1];rfl)
 clear hm1
 rw [hB1] at H1
 have HBq1:=hid hB1
 clear hB1
 have HGX:=hid (HX1.out.later H1.out.below)
 obtain⟨c0,c1,c2,c3,c4,c5,c6,c7,c8,c9⟩:=HGX.out.at
 rw [hk] at c0
 go_wp2_with fail
 refine (rn4 r.sg HOK.out.sg w1).mono ?_
 rintro e xs ⟨vv,rfl,hrow,hbs,_⟩
 obtain⟨ps,cs,hv,_,hsl,_⟩:=hrow.sl
 subst hv
 have HBS:=hid hbs.size
 have HFs:=hid (H1.out.later hbs)
 have HSs:=hid hsl
 clear hrow hbs hsl
 clear c0 c1 c2 c3 c4 c5 c6 c7 c8 c9
 have HGX:=hid (HX1.out.later HFs.out.below)
 obtain⟨c0,c1,c2,c3,c4,c5,c6,c7,c8,c9⟩:=HGX.out.at
 rw [hk] at c0
 go_wp2_with fail
 refine (rn4 r.tx HOK.out.tx xs).mono ?_
 rintro e xt ⟨vv,rfl,hrow,hbt,hot⟩
 obtain⟨pt,ct,hv,_,hsl,hqt⟩:=hrow.sl
 have HPT:Hid (∀ a,pt=some a→w1.heap.size≤a.block):=hid fun a ha=>by have h1:=hot _ (hqt a ha);have h2:=HBS.out;omega
 have HV1:Hid (∀ k,v1.ownBlock=some k→k<w1.heap.size):=hid H1.out.row.bound
 clear hot hqt
 subst hv
 have HFt:=hid (HFs.out.later hbt)
 have HSt:=hid hsl
 have HSs:=hid (HSs.out.later hbt)
 clear hrow hbt hsl
 clear c0 c1 c2 c3 c4 c5 c6 c7 c8 c9
 have HGX:=hid (HX1.out.later HFt.out.below)
 obtain⟨c0,c1,c2,c3,c4,c5,c6,c7,c8,c9⟩:=HGX.out.at
 rw [hk] at c0
 go_wp2_with (first | (at_builtin;refine z0j (k:=1) (by decide) Tryz.underlying94 z1e rfl (by omega) rfl _ _ rfl v1 m1 (vL B1) rfl (by rw [← HL1.out];exact HFt.out.row.own) ps 4 cs (vL (le r.sg.toNat 4)) rfl (by rw [z1i,Nat.mul_one];exact HSs.out.len) (z2c HSs.out) (z2d HSs.out) (z1r _) (by omega) ?_;intro pn cn w3 h1 h2 h3))
 have hf:=HFt.out.app (M:=(le r.sg.toNat 4)) HSs.out.lt h1 h2 h3
 clear h1 h2 h3
 generalize hB2:B1++(le r.sg.toNat 4)=B2 at hf
 have HBq2:=hid hB2
 have HL2:Hid (B2.length=m1+4):=hid (by rw [← hB2,List.length_append,HL1.out];first | rfl | (simp only [z0r];try omega))
 generalize Value.slice pn (m1+4) cn=v2 at *
 have H2:=hid hf
 clear hf hB2
 obtain⟨m2,hm2⟩:∃ z,m1+4=z:=⟨_,rfl⟩
 have hq2:m2≤m1+4:=by omega
 rw [hm2] at HL2
 clear hm2
 obtain⟨w2,hw2x⟩:∃ x,x=w3:=⟨_,rfl⟩
 subst hw2x
 clear c0 c1 c2 c3 c4 c5 c6 c7 c8 c9
 go_ret
 have hst:le r.st.toNat 1=[r.st.toNat]:=z3m (by have e:=HOK.out.st;change 0≤r.st∧r.st≤255 at e;omega)
 have hoo:le r.o.toNat 1=[r.o.toNat]:=z3m (by have e:=HOK.out.o;change 0≤r.o∧r.o≤255 at e;omega)
 have hfin:z0o (r.x L T M)=B2:=by
  rw [← HBq2.out,← HBq1.out]
  unfold z0o
  rw [show (r.x L T M).k=8 from hk,show le (8:Int).toNat 1=[8] from rfl]
  simp [kS,kT,kB,kA,kO,kP,Rv.x,keyB,List.append_assoc,hst,hoo]
 rw [hfin]
 exact⟨_,rfl,H2.out.row,HB1.out.trans (H2.out.below.mono HB1.out.size),fun k hk=>Nat.le_trans HB1.out.size (H2.out.own k hk)⟩
theorem rrec_bytes9 (r:Rv) (L:List Ln) (T:List Tk) (M:List Ln) (W:World) (hP:RvM W r L T M) (hok:Rxok (r.x L T M)) (h1:r.ln≤20∧r.tn≤30∧r.wn≤20) (hk:r.k=9):Calls Tryz.prog 50 #[.agg (rcs r)] W (z3a W (z0o (r.x L T M)).length (z0o (r.x L T M))):=by
 obtain⟨W1,hW1,hb1⟩:∃ W1,W.alloc (.cells (rcs r) 40)=W1∧Below W.heap.size W W1:=⟨_,rfl,(Below.refl _ _).alloc (Nat.le_refl _) _⟩
 obtain⟨B,hB⟩:∃ B,W.heap.size=B:=⟨_,rfl⟩
 have hrb:=RB.new W r
 rw [hW1,hB] at hrb
 have h0:FB W1 (W1.alloc (.cells #[.int .u8 9] 5)) (.slice (some ⟨W1.heap.size,0,none⟩) 1 1) [9]:=FB.lit (m:=1) (Below.refl _ _) rfl rfl (by omega) (fun x hx=>by obtain rfl:=List.mem_singleton.1 hx;omega)
 obtain⟨w1,hw1⟩:∃ w1,W1.alloc (.cells #[.int .u8 9] 5)=w1:=⟨_,rfl⟩
 rw [hw1] at h0
 have Hw1:=hid hw1
 have H1:=hid h0
 have HX1:=hid hrb
 have HW1:=hid hW1
 have HB1:=hid hb1
 have HRE:=hid hB
 have HOK:=hid hok
 have HP:=hid hP
 have HH:=hid h1
 have u1:IntKind.u64.wrap r.sg=r.sg:=wrap_u64 hok.sg
 have u2:IntKind.u64.wrap r.tx=r.tx:=wrap_u64 hok.tx
 have HGX:=hid (HX1.out)
 obtain⟨c0,c1,c2,c3,c4,c5,c6,c7,c8,c9⟩:=HGX.out.at
 rw [hk] at c0
 clear hW1 hB hb1 hrb hP h0 hw1 h1 hok
 go_enter Tryz.func50,Tryz.ntmps50
 go_upto_region 1 with (fail)
 rw [HW1.out,HRE.out]
 go_upto_region 2 with (fail)
 rw [Hw1.out]
 clear c0 c1 c2 c3 c4 c5 c6 c7 c8 c9
 obtain⟨v1,hv1⟩:∃ v1,Value.slice (some ⟨W1.heap.size,0,none⟩) 1 1=v1:=⟨_,rfl⟩
 rw [hv1] at H1 ⊢
 clear hv1
 obtain⟨B1,hB1⟩:∃ B1,[9]=B1:=⟨_,rfl⟩
 obtain⟨m1,hm1⟩:∃ m1,1=m1:=⟨_,rfl⟩
 have hq1:m1≤1:=by omega
 have HL1:Hid (B1.length=m1):=hid (by rw [← hB1,← hm1];rfl)
 clear hm1
 rw [hB1] at H1
 have HBq1:=hid hB1
 clear hB1
 have HGX:=hid (HX1.out.later H1.out.below)
 obtain⟨c0,c1,c2,c3,c4,c5,c6,c7,c8,c9⟩:=HGX.out.at
 rw [hk] at c0
 go_wp2_with fail
 refine (rn4 r.sg HOK.out.sg w1).mono ?_
 rintro e xs ⟨vv,rfl,hrow,hbs,_⟩
 obtain⟨ps,cs,hv,_,hsl,_⟩:=hrow.sl
 subst hv
 have HBS:=hid hbs.size
 have HFs:=hid (H1.out.later hbs)
 have HSs:=hid hsl
 clear hrow hbs hsl
 clear c0 c1 c2 c3 c4 c5 c6 c7 c8 c9
 have HGX:=hid (HX1.out.later HFs.out.below)
 obtain⟨c0,c1,c2,c3,c4,c5,c6,c7,c8,c9⟩:=HGX.out.at
 rw [hk] at c0
 go_wp2_with fail
 refine (rn4 r.tx HOK.out.tx xs).mono ?_
 rintro e xt ⟨vv,rfl,hrow,hbt,hot⟩
 obtain⟨pt,ct,hv,_,hsl,hqt⟩:=hrow.sl
 have HPT:Hid (∀ a,pt=some a→w1.heap.size≤a.block):=hid fun a ha=>by have h1:=hot _ (hqt a ha);have h2:=HBS.out;omega
 have HV1:Hid (∀ k,v1.ownBlock=some k→k<w1.heap.size):=hid H1.out.row.bound
 clear hot hqt
 subst hv
 have HFt:=hid (HFs.out.later hbt)
 have HSt:=hid hsl
 have HSs:=hid (HSs.out.later hbt)
 clear hrow hbt hsl
 clear c0 c1 c2 c3 c4 c5 c6 c7 c8 c9
 have HGX:=hid (HX1.out.later HFt.out.below)
 obtain⟨c0,c1,c2,c3,c4,c5,c6,c7,c8,c9⟩:=HGX.out.at
 rw [hk] at c0
 go_upto_region 25 with (at_builtin;refine z0j (k:=1) (by decide) Tryz.underlying94 z1e rfl (by omega) rfl _ _ rfl v1 m1 (vL B1) rfl (by rw [← HL1.out];exact HFt.out.row.own) ps 4 cs (vL (le r.sg.toNat 4)) rfl (by rw [z1i,Nat.mul_one];exact HSs.out.len) (z2c HSs.out) (z2d HSs.out) (z1r _) (by omega) ?_;intro pn cn w3 h1 h2 h3)
 have hf:=HFt.out.app (M:=(le r.sg.toNat 4)) HSs.out.lt h1 h2 h3
 clear h1 h2 h3
 generalize hB2:B1++(le r.sg.toNat 4)=B2 at hf
 have HBq2:=hid hB2
 have HL2:Hid (B2.length=m1+4):=hid (by rw [← hB2,List.length_append,HL1.out];first | rfl | (simp only [z0r];try omega))
 generalize Value.slice pn (m1+4) cn=v2 at *
 have H2:=hid hf
 clear hf hB2
 obtain⟨m2,hm2⟩:∃ z,m1+4=z:=⟨_,rfl⟩
 have hq2:m2≤m1+4:=by omega
 rw [hm2] at HL2
 clear hm2
 obtain⟨w2,hw2x⟩:∃ x,x=w3:=⟨_,rfl⟩
 subst hw2x
 clear c0 c1 c2 c3 c4 c5 c6 c7 c8 c9
 have HGX:=hid (HX1.out.later H2.out.below)
 obtain⟨c0,c1,c2,c3,c4,c5,c6,c7,c8,c9⟩:=HGX.out.at
 rw [hk] at c0
 have HFA:=hid (H2.out.later (show Below w2.heap.size w2 (w2.alloc (.cells #[.int .u8 r.o] 5)) from (Below.refl _ _).alloc (Nat.le_refl _) _))
 go_wp2_with (first | (at_builtin;refine z0j (k:=1) (by decide) Tryz.underlying94 z1e rfl (by omega) rfl _ _ rfl v2 m2 (vL B2) rfl (by rw [← HL2.out];exact HFA.out.row.own) (some ⟨w2.heap.size,0,none⟩) 1 1 (vL [r.o.toNat]) rfl (by rw [z1i];rfl) (fun h=>by cases h) (z3j w2 #[.int .u8 r.o] [r.o.toNat] (vL_one1 HOK.out.o)) (z1r _) (by omega) ?_;intro pn cn w3 h1 h2 h3))
 have hf:=HFA.out.app (M:=[r.o.toNat]) (fun y hy=>by obtain rfl:=List.mem_singleton.1 hy;have:=HOK.out.o;change 0≤r.o∧r.o≤255 at this;omega) h1 h2 h3
 clear h1 h2 h3
 generalize hB3:B2 ++ [r.o.toNat]=B3 at hf
 have HBq3:=hid hB3
 have HL3:Hid (B3.length=m2+1):=hid (by rw [← hB3,List.length_append,HL2.out];first | rfl | (simp only [z0r];try omega))
 generalize Value.slice pn (m2+1) cn=v3 at *
 have H3:=hid hf
 clear hf hB3
 obtain⟨m3,hm3⟩:∃ z,m2+1=z:=⟨_,rfl⟩
 have hq3:m3≤m2+1:=by omega
 rw [hm3] at HL3
 clear hm3
 obtain⟨w3,hw3x⟩:∃ x,x=w3:=⟨_,rfl⟩
 subst hw3x
 clear c0 c1 c2 c3 c4 c5 c6 c7 c8 c9
 go_ret
 have hst:le r.st.toNat 1=[r.st.toNat]:=z3m (by have e:=HOK.out.st;change 0≤r.st∧r.st≤255 at e;omega)
 have hoo:le r.o.toNat 1=[r.o.toNat]:=z3m (by have e:=HOK.out.o;change 0≤r.o∧r.o≤255 at e;omega)
 have hfin:z0o (r.x L T M)=B3:=by
  rw [← HBq3.out,← HBq2.out,← HBq1.out]
  unfold z0o
  rw [show (r.x L T M).k=9 from hk,show le (9:Int).toNat 1=[9] from rfl]
  simp [kS,kT,kB,kA,kO,kP,Rv.x,keyB,List.append_assoc,hst,hoo]
 rw [hfin]
 exact⟨_,rfl,H3.out.row,HB1.out.trans (H3.out.below.mono HB1.out.size),fun k hk=>Nat.le_trans HB1.out.size (H3.out.own k hk)⟩
end Go.Proofs.YtnpjpelbcmgodaaGreatDoor
