import Derived.Test.YtfdgnniicjdjdaaGreatDoorPB44
import Derived.Test.YtfdgnniicjdjdaaGreatDoorPB42
import Derived.Test.YtfdgnniicjdjdaaGreatDoorPB46
namespace Go.Proofs.YtfdgnniicjdjdaaGreatDoor
open Go.Lib (hid)
set_option maxHeartbeats 4000000
open Go.RowKit Go.ChangeShapes Go.WideShapes
set_option linter.unusedVariables false
set_option linter.unusedSimpArgs false
set_option maxRecDepth 10000
section
variable {ops:Array Oper} {rest:List Oper} {a:Act} {w:World} {Q:Exit→Act→World→Prop} {dst:Option Tmp} {ty:TypeId} {pos:String} {after:Array Edge}
theorem z3x {parts:Array (Nat × Operand)} {x y:Operand} {v:Int} {r:Rv} (hp:parts=#[(0,x),(1,y)]) (hx:a.eval x=.int .i64 v) (hy:a.eval y=.agg (rcs r))
 (h:wpList Tryz.prog ops Q rest (a.put dst (.agg (ecs (v,r)))) w):wpList Tryz.prog ops Q (Oper.mk dst (.build 85 parts) ty pos after none::rest) a w:=by
 refine wpList_plain rfl fun K hK=>?_
 subst hp
 have hb:(Instr.build 85 #[(0,.int .i64 v),(1,.agg (rcs r))]).run Tryz.prog w=.ok (.agg (ecs (v,r))) w:=by kernel_rfl
 unfold Oper.wp execOp
 simp [hx,hy,hb,Result.andThen,Sem.run_bind]
 exact hK _ _ h
theorem z3w {parts:Array (Nat × Operand)} {x:Operand} {h':Eh} (hp:parts=#[(0,x)]) (hx:a.eval x=.agg (ecs h'))
 (h:wpList Tryz.prog ops Q rest (a.put dst (.slice (some ⟨w.heap.size,0,none⟩) 1 1)) (w.alloc (.cells (ecs h') 85))):wpList Tryz.prog ops Q (Oper.mk dst (.buildSlice 74 1 parts) ty pos after none::rest) a w:=by
 refine wpList_plain rfl fun K hK=>?_
 subst hp
 have hb:=run_slice_e h' w
 unfold Oper.wp execOp
 simp [hx,hb,Result.andThen,Sem.run_bind]
 exact hK _ _ h
end
theorem FE.keep2 {lo:Nat} {w w':World} {v:Value} {H:List Eh} {S:List En} (h:FE lo w v H S) (hs:w.heap.size≤w'.heap.size) (hb:∀ b,(v.ownBlock=some b∨∃ y∈H,Lb y.2 b)→b<w.heap.size→w'.heap[b]?=w.heap[b]?):FE lo w' v H S:=by
 refine⟨⟨h.own.1,?_⟩,h.tells.keep hs fun x hx b hl hlt=>hb b (.inr ⟨x,hx,hl⟩) hlt,h.apart,h.low⟩
 rcases h.own.2 with hn | ⟨g,cap,cur,rfl,h1,h2,h3⟩
 · exact .inl hn
 · exact .inr ⟨g,cap,cur,rfl,h1,by rw [hb g (.inl rfl) (Array.getElem?_eq_some_iff.1 h2).1];exact h2,h3⟩
structure PRx (W w:World) (col:Nat→Nat) (B G:Nat) (v:Value) (i q:Nat) (s:LS) (Xs Ys:List Rx) (H:List Eh):Prop where
 lh:Lh W w col B G s
 pi:PI s Xs i q
 fe:FE 0 w v H (offE 0 (z3s 0 Ys))
 row:∀ b,v.ownBlock=some b→col b=9
 low:∀ y∈H,∀ b,Lb y.2 b→b<W.heap.size
def PR (W w:World) (B G:Nat) (v:Value) (i q:Nat):Prop:=∃ col s Xs H,PRx W w col B G v i q s Xs Xs H
theorem PRx.act {W w w':World} {col:Nat→Nat} {B G:Nat} {v:Value} {i q i' q':Nat} {s s':LS} {Xs Xs' Ys:List Rx} {H:List Eh} (h:PRx W w col B G v i q s Xs Ys H) (ht:LT w col B G s' w') (hp:PI s' Xs' i' q'):∃ col',PRx W w' col' B G v i' q' s' Xs' Ys H:=by
 obtain⟨col',he,hg,hc⟩:=ht
 have hz:∀ k,k<W.heap.size→col' k=0:=fun k hk=>(he k (Nat.lt_of_lt_of_le hk h.lh.below.size)).trans (h.lh.zero k hk)
 refine⟨col',⟨⟨hz,hc.below h.lh.below h.lh.below.size fun k hk=>?_,hg⟩,hp,h.fe.keep2 hc.size fun b hb hlt=>hc.block b hlt fun hl=>?_,fun b hb=>(he b (h.fe.own.lt b hb).2).trans (h.row b hb),h.low⟩⟩
 · rcases Nat.lt_or_ge k W.heap.size with h1 | h1
   · have:=h.lh.zero k h1
     unfold lown at hk
     omega
   · exact h1
 · unfold lown at hl
   rcases hb with hb | ⟨y,hy,hb⟩
   · have:=h.row b hb
     omega
   · have:=h.lh.zero b (h.low y hy b hb)
     omega
theorem PRx.later {W w w':World} {col:Nat→Nat} {B G:Nat} {v:Value} {i q:Nat} {s:LS} {Xs Ys:List Rx} {H:List Eh} (h:PRx W w col B G v i q s Xs Ys H) (hb:Below w.heap.size w w'):PRx W w' col B G v i q s Xs Ys H:=⟨h.lh.later hb,h.pi,h.fe.later hb,h.row,h.low⟩
theorem PRx.bounds {W w:World} {col:Nat→Nat} {B G:Nat} {v:Value} {i q:Nat} {s:LS} {Xs Ys:List Rx} {H:List Eh} (h:PRx W w col B G v i q s Xs Ys H) (hi:i≤100):s.fin≤1000000000∧s.wb.length≤400000∧s.d.tot+65536≤1000000:=by
 have h1:=h.pi.room hi
 have h2:=h.pi.fin
 have h3:=h.pi.tot
 have h4:=h.pi.wr
 unfold LS.fin at h2
 refine⟨?_,?_,?_⟩
 · rw [h.pi.fin]
   omega
 · omega
 · omega
theorem z4y {W w:World} {B G:Nat} {v:Value} {i q:Nat} (h:PR W w B G v i q) (hi:i≤100) (hq:q≤1000):Calls Tryz.prog 17 #[.pointer (some ⟨G,0,none⟩)] w fun e w'=>e=.returned (.int .i64 0)∧PR W w' B G v i (q+1):=by
 obtain⟨col,s,Xs,H,h⟩:=h
 obtain⟨b1,b2,b3⟩:=h.bounds hi
 obtain⟨e1,e2,_,_⟩:=h.pi.write hi
 refine (z9h h.lh.lg b1 b3 (by have:=h.pi.nL;omega)).mono ?_
 rintro e w' ⟨rfl,ht⟩
 obtain⟨col',h'⟩:=h.act ht e2
 exact⟨by rw [e1],col',_,Xs,H,h'⟩
theorem q0o {W w:World} {B G:Nat} {v:Value} {i q:Nat} (h:PR W w B G v i q) (hi:i≤100) (hq:q≤1000):Calls Tryz.prog 18 #[.pointer (some ⟨G,0,none⟩)] w fun e w'=>e=.returned (.tuple #[])∧PR W w' B G v i q:=by
 obtain⟨col,s,Xs,H,h⟩:=h
 obtain⟨b1,b2,b3⟩:=h.bounds hi
 refine (wal_sync h.lh.lg (by omega) (by have:=h.pi.nL;omega)).mono ?_
 rintro e w' ⟨rfl,ht⟩
 obtain⟨col',h'⟩:=h.act ht h.pi.sync.1
 exact⟨rfl,col',_,Xs,H,h'⟩
def PrA (W:World) (B G:Nat) (v:Value) (i q:Nat) (X:Rx) (e:Ending) (w':World):Prop:=if z1b X=true then ∃ at_:Nat,e=.returned (.tuple #[.int .i64 (at_:Nat),.int .i64 0])∧∃ col s Xs H,at_=(z0q Xs).length∧PRx W w' col B G v i q s (Xs ++ [X]) Xs H else e=.returned (.tuple #[.int .i64 0,.int .i64 1])∧PR W w' B G v i q
theorem pr_append {W w:World} {B G:Nat} {v:Value} {i q:Nat} (h:PR W w B G v i q) (hi:i≤100) (hw:Wd4 W) (r:Rv) (L:List Ln) (T:List Tk) (M:List Ln) (hP:RvM W r L T M) (hok:Rxok (r.x L T M)) (h1:r.ln≤400∧r.tn≤400∧r.wn≤400):Calls Tryz.prog 22 #[.pointer (some ⟨G,0,none⟩),.agg (rcs r)] w (PrA W B G v (i+1) q (r.x L T M)):=by
 obtain⟨col,s,Xs,H,h⟩:=h
 obtain⟨b1,b2,b3⟩:=h.bounds hi
 refine (wal_append h.lh.lg (hw.later h.lh.below) r L T M (hP.later h.lh.below) hok h1 b1 b2).mono ?_
 rintro e w' ⟨rfl,ht⟩
 unfold PrA
 cases hg:z1b (r.x L T M) with
 | true =>
  rw [if_pos rfl]
  obtain⟨col',h'⟩:=h.act ht (h.pi.app hg hok)
  have ea:s.appAt (r.x L T M)=s.fin:=if_pos hg
  have ee:appE (r.x L T M)=0:=if_pos hg
  exact⟨s.fin,by rw [ea,ee],col',_,Xs,H,h.pi.fin,h'⟩
 | false =>
  rw [if_neg (by decide)]
  obtain⟨col',h'⟩:=h.act ht (h.pi.app_no hg)
  have ea:s.appAt (r.x L T M)=0:=if_neg (by rw [hg];decide)
  have ee:appE (r.x L T M)=1:=if_neg (by rw [hg];decide)
  exact⟨by rw [ea,ee];rfl,col',_,Xs,H,h'⟩
theorem Lh.row {W w w':World} {col:Nat→Nat} {B G:Nat} {s:LS} {S:Nat→Prop} (h:Lh W w col B G s) (hc:Chg S w w') (hs:∀ k,k<w.heap.size→S k→col k=9):Lh W w' (paint col w.heap.size 9) B G s:=by
 have hc9:Chg (fun k=>k<w.heap.size∧paint col w.heap.size 9 k=9) w w':=hc.mono fun k hk hS=>⟨hk,by rw [z1i hk];exact hs k hk hS⟩
 refine⟨fun k hk=>?_,hc9.below h.below h.below.size fun k hk=>?_,(h.lg.recol (Ext.paint w col 9)).keep hc9 fun k hk hS=>?_⟩
 · rw [z1i (Nat.lt_of_lt_of_le hk h.below.size)]
   exact h.zero k hk
 · rcases Nat.lt_or_ge k W.heap.size with h1 | h1
   · have:=h.zero k h1
     have h2:=hk.2
     rw [z1i hk.1] at h2
     omega
   · exact h1
 · unfold lown at hk
   omega
theorem PRx.push {W w w5 w6:World} {col:Nat→Nat} {B G:Nat} {v v':Value} {i q:Nat} {s:LS} {Xs:List Rx} {X:Rx} {H:List Eh} {h':Eh} (h:PRx W w col B G v i q s (Xs ++ [X]) Xs H) (hb5:Below w.heap.size w w5) (hf:FE 0 w6 v' (H ++ [h']) (offE 0 (z3s 0 Xs) ++ [((((z0q Xs).length:Nat):Int),X)])) (hc:Chg (fun b=>v.ownBlock=some b) w5 w6) (hn:∀ b,v'.ownBlock=some b→v.ownBlock=some b∨w5.heap.size≤b) (hl:∀ b,Lb h'.2 b→b<W.heap.size):PR W w6 B G v' i q:=by
 have h5:=h.later hb5
 refine⟨paint col w5.heap.size 9,s,Xs ++ [X],H ++ [h'],h5.lh.row hc fun k _ hk=>h.row k hk,h.pi,?_,fun b hb=>?_,fun y hy b hyb=>?_⟩
 · rw [z5b,Nat.zero_add]
   show FE 0 w6 v' (H ++ [h']) (offE 0 (z3s 0 Xs ++ [((z0q Xs).length,X)]))
   rw [offE_snoc,Nat.zero_add]
   exact hf
 · rcases hn b hb with h1 | h1
   · rw [z1i (h5.fe.own.lt b h1).2]
     exact h.row b h1
   · exact z2s h1
 · rcases List.mem_append.1 hy with hy | hy
   · exact h.low y hy b hyb
   · rw [List.mem_singleton] at hy
     subst hy
     exact hl b hyb
theorem PR.below {W w:World} {B G:Nat} {v:Value} {i q:Nat} (h:PR W w B G v i q):Below W.heap.size W w:=by
 obtain⟨_,_,_,_,h⟩:=h
 exact h.lh.below
theorem PR.mono {W w:World} {B G:Nat} {v:Value} {i q i' q':Nat} (h:PR W w B G v i q) (h1:i≤i') (h2:q≤q'):PR W w B G v i' q':=by
 obtain⟨c,s,Xs,H,h⟩:=h
 exact⟨c,s,Xs,H,h.lh,h.pi.mono h1 h2,h.fe,h.row,h.low⟩
theorem PR.start {W w:World} {col:Nat→Nat} {B G:Nat} (h:Lh W w col B G (LS.start (DS.new 1 8 256 65536) 0 0)):PR W w B G (.slice none 0 0) 0 0:=⟨col,_,[],[],h,PI.start,FE.nil _ _,(fun b hb=>by cases hb),fun y hy=>by cases hy⟩
def PutW (W:World) (B n:Nat) (e:Ending) (w':World):Prop:=∃ G v,e=.returned (.tuple #[.pointer (some ⟨G,0,none⟩),v])∧PR W w' B G v n (2*n)
theorem put_push {W w3 w4:World} {col:Nat→Nat} {B G:Nat} {v:Value} {i q:Nat} {s:LS} {Xs:List Rx} {r:Rv} {L:List Ln} {T:List Tk} {M:List Ln} {H:List Eh} (h:PRx W w3 col B G v i q s (Xs ++ [r.x L T M]) Xs H) (hb:Below w3.heap.size w3 w4) (hm:RvM W r L T M) (p':Option Addr) (c':Nat) (w6:World) (hfe:FE 0 w6 (.slice p' (H.length+1) c') (H ++ [((((z0q Xs).length:Nat):Int),r)]) (offE 0 (z3s 0 Xs) ++ [((((z0q Xs).length:Nat):Int),r.x L T M)])) (hc:Chg (fun b=>v.ownBlock=some b) w4 w6) (hn:∀ b,(Value.slice p' (H.length+1) c').ownBlock=some b→v.ownBlock=some b∨w4.heap.size≤b):PR W w6 B G (.slice p' (H.length+1) c') i q :=
 h.push hb hfe hc hn fun b hb=>Lb.lt hb hm
theorem put_apart {W w3:World} {col:Nat→Nat} {B G:Nat} {v:Value} {i q:Nat} {s:LS} {Xs Ys:List Rx} {r:Rv} {L:List Ln} {T:List Tk} {M:List Ln} {H:List Eh} (h:PRx W w3 col B G v i q s Xs Ys H) (hm:RvM W r L T M) (b:Nat) (hb:Lb r b):v.ownBlock≠some b:=fun hv=>by
 have h1:=h.row b hv
 have h2:=h.lh.zero b (Lb.lt hb hm)
 omega
theorem put_big {W w3:World} {col:Nat→Nat} {B G:Nat} {v:Value} {i q:Nat} {s:LS} {Xs:List Rx} {X:Rx} {H:List Eh} (h:PRx W w3 col B G v i q s (Xs ++ [X]) Xs H) (hi:i≤100):H.length+1≤1000000:=by
 have h1:=h.fe.tells.len
 rw [z6l,z6e] at h1
 have h2:=h.pi.few
 rw [List.length_append] at h2
 omega
theorem wal_put (W w:World) (hw:Wd4 W) (p:Option Addr) (n c:Nat) (H:List Wa) (ha:AcL W p n c H) (hn:n≤20) (hs:∀ j,j<n→SmW (H.getD j wa0).r) (B:Nat) (col:Nat→Nat) (hd:Dk w col 1 B (DS.new 1 8 256 65536)) (h0:∀ k,k<W.heap.size→col k=0) (hb:Below W.heap.size W w) (sy:Nat) (hsy:sy≤255) :
 Calls Tryz.prog 33 #[.pointer (some ⟨B,0,none⟩),.slice p n c,.int .u8 (sy:Nat)] w (PutW W B n):=by
 have hop:=wal_open hd (by decide) (by decide) 0 0
 have hcap:=ha.row.cap
 have HA:=hid ha
 have HS:=hid hs
 have HW:=hid hw
 have H0:=hid h0
 have HB:=hid hb
 have hy1:IntKind.i64.wrap (sy:Int)=(sy:Int):=by rw [IntKind.wrap_i64];omega
 clear ha hs hw hd h0 hb
 go_enter Tryz.func33,Tryz.ntmps33
 go_wp2_with fail
 refine hop.mono ?_
 rintro e w2 hlb
 obtain⟨G,col2,rfl,hG,h2⟩:=Lh.made (d:=DS.new 1 8 256 65536) H0.out HB.out hlb
 have HP:=hid (PR.start h2)
 clear hlb hG h2 hop H0 HB
 go_wp2_with fail
 go_loopw [9,10] (fun v i wr=>∃ (j:Nat) (x0:Value),j≤n∧v=x0∧i=.int .i64 (j:Nat)∧Hid (PR W wr B G x0 j (2*j))) (fun _ i _=>n-(intOf i).toNat)
 case atStart=>exact⟨0,_,Nat.zero_le _,rfl,rfl,HP⟩
 case round =>
  obtain⟨j,x0,hj,hv,rfl,HR⟩:=hrel
  replace hv:=hv.symm
  subst hv
  by_cases hlt:j<n
  · have hlt':(j:Int)<n:=by omega
    obtain⟨b,off,rfl,hbW,xk,_,hrc,_⟩:=HA.out.at hlt
    obtain⟨⟨hk0,hk1⟩,_,L,T,M,hok,hm⟩:=HA.out.in hlt
    have hsm:=HS.out j hlt
    generalize H.getD j wa0=y at *
    obtain⟨k,r,x⟩:=y
    obtain⟨k,rfl⟩:∃ m:Nat,k=(m:Int):=⟨k.toNat,by simp at hk0;omega⟩
    obtain⟨s1,s2,s3⟩:SmW r:=hsm
    have hk4:(k:Int) % 5=((k % 5:Nat):Int):=by omega
    have hk5:(k:Int).tmod 5=((k % 5:Nat):Int):=by rw [Int.tmod_eq_emod_of_nonneg (by omega)];exact hk4
    generalize hkk:k % 5=kk at *
    have hk6:kk<5:=by omega
    have hw8:IntKind.u8.wrap (kk:Int)=(kk:Int):=by rw [IntKind.wrap_u8];omega
    have HAP:=hid fun w' (h:PR W w' B G x0 j (2*j))=>pr_append h (by omega) HW.out r L T M (hm.later (Below.refl _ _)) hok ⟨by omega,by omega,by omega⟩
    have HL:=hid (fun b hb=>Lb.lt hb hm:∀ b,Lb r b→b<W.heap.size)
    have HM:=hid hm
    have HK:Hid (∀ w',Below W.heap.size W w'→w'.cell? ⟨b,off+j*22,none⟩=some (.int .u8 (k:Nat))):=hid fun w' hb=>(hb.cell hbW).trans xk
    have HRC:Hid (∀ w',Below W.heap.size W w'→∀ i u,(rcs r).toList[i]?=some u→w'.cell? ⟨b,off+j*22+1+i,none⟩=some u):=hid fun w' hb i u hu=>(hb.cell hbW).trans (hrc i u hu)
    clear hm hok s1 s2 s3 hrc xk hkk hk4
    have y1:=HRC.out wr HR.out.below
    go_wp2_with ((with_reducible refine z2l (r:=r) ?_ (HRC.out _ HR.out.below) ?_);rfl)
    refine (HAP.out _ HR.out).mono ?_
    rintro e w3 hpa
    unfold PrA at hpa
    cases hg:z1b (r.x L T M) with
    | true =>
     rw [hg,if_pos rfl] at hpa
     obtain⟨at_,rfl,c3,s3,Xs3,H3,rfl,h3⟩:=hpa
     have hb3:Below w3.heap.size w3 (w3.alloc (.cells (ecs ((((z0q Xs3).length:Nat):Int),r)) 85)):=(Below.refl _ _).alloc (Nat.le_refl _) _
     have HPU:=hid (put_push h3 hb3 HM.out)
     have HF:=hid (h3.later hb3).fe
     have HNB:=hid (z0b w3 (.cells (ecs ((((z0q Xs3).length:Nat):Int),r)) 85))
     have HT:Hid (TellsE (w3.alloc (.cells (ecs ((((z0q Xs3).length:Nat):Int),r)) 85)) ((((z0q Xs3).length:Nat):Int),r) ((((z0q Xs3).length:Nat):Int),r.x L T M)):=hid ⟨rfl,L,T,M,rfl,HM.out.later (h3.lh.below.trans (hb3.mono h3.lh.below.size))⟩
     have HAP':=hid (put_apart h3 HM.out)
     have HBG:=hid (put_big h3 (by omega))
     have H3':=hid h3.lh.below
     clear hg h3 hb3
     by_cases h2:kk=2
     · subst h2
       by_cases hs:j=sy
       · subst hs
         go_wp2_with (first | ((with_reducible refine z2l (r:=r) ?_ (HRC.out _ H3'.out) ?_);rfl) | ((with_reducible refine z3x (v:=(((z0q Xs3).length:Nat):Int)) (r:=r) rfl ?_ ?_ ?_);rfl;rfl) | ((with_reducible refine z3w (h':=((((z0q Xs3).length:Nat):Int),r)) rfl ?_ ?_);rfl) | ((with_reducible refine z3j rfl _ _ rfl _ H3 _ ?_ HF.out w3.heap.size ((((z0q Xs3).length:Nat):Int),r) ((((z0q Xs3).length:Nat):Int),r.x L T M) ?_ HNB.out HT.out HAP'.out (fun b _=>Nat.zero_le b) (Nat.zero_le _) HBG.out ?_);rfl;rfl;intro p' c' w6 hfe hchg hlo hnw;have HP3:=hid (HPU.out _ _ _ hfe hchg hnw);have y6:=HK.out _ HP3.out.below;clear hfe hchg hlo hnw))
         refine (z4y HP3.out (by omega) (by omega)).mono ?_
         rintro e w7 ⟨rfl,h7⟩
         have H7:=hid h7
         clear h7
         go_wp2_with fail
         refine (z4y H7.out (by omega) (by omega)).mono ?_
         rintro e w8 ⟨rfl,h8⟩
         have H8:=hid h8
         clear h8
         go_wp2_with fail
         refine (q0o H8.out (by omega) (by omega)).mono ?_
         rintro e w9 ⟨rfl,h9⟩
         have H9:=hid h9
         clear h9
         go_wp2_with fail
         go_roundw
         case rel=>exact⟨j+1,_,by omega,rfl,by go_num,hid (PR.mono H9.out (Nat.le_refl _) (by omega))⟩
         case measure=>simp [intOf];omega
       · have d1:((j:Int)==(sy:Int))=false:=by simp;omega
         go_wp2_with (first | ((with_reducible refine z2l (r:=r) ?_ (HRC.out _ H3'.out) ?_);rfl) | ((with_reducible refine z3x (v:=(((z0q Xs3).length:Nat):Int)) (r:=r) rfl ?_ ?_ ?_);rfl;rfl) | ((with_reducible refine z3w (h':=((((z0q Xs3).length:Nat):Int),r)) rfl ?_ ?_);rfl) | ((with_reducible refine z3j rfl _ _ rfl _ H3 _ ?_ HF.out w3.heap.size ((((z0q Xs3).length:Nat):Int),r) ((((z0q Xs3).length:Nat):Int),r.x L T M) ?_ HNB.out HT.out HAP'.out (fun b _=>Nat.zero_le b) (Nat.zero_le _) HBG.out ?_);rfl;rfl;intro p' c' w6 hfe hchg hlo hnw;have HP3:=hid (HPU.out _ _ _ hfe hchg hnw);have y6:=HK.out _ HP3.out.below;clear hfe hchg hlo hnw))
         refine (z4y HP3.out (by omega) (by omega)).mono ?_
         rintro e w7 ⟨rfl,h7⟩
         have H7:=hid h7
         clear h7
         go_wp2_with fail
         go_roundw
         case rel=>exact⟨j+1,_,by omega,rfl,by go_num,hid (PR.mono H7.out (Nat.le_refl _) (by omega))⟩
         case measure=>simp [intOf];omega
     · have d2:((kk:Int)==2)=false:=by simp;omega
       by_cases hs:j=sy
       · subst hs
         go_wp2_with (first | ((with_reducible refine z2l (r:=r) ?_ (HRC.out _ H3'.out) ?_);rfl) | ((with_reducible refine z3x (v:=(((z0q Xs3).length:Nat):Int)) (r:=r) rfl ?_ ?_ ?_);rfl;rfl) | ((with_reducible refine z3w (h':=((((z0q Xs3).length:Nat):Int),r)) rfl ?_ ?_);rfl) | ((with_reducible refine z3j rfl _ _ rfl _ H3 _ ?_ HF.out w3.heap.size ((((z0q Xs3).length:Nat):Int),r) ((((z0q Xs3).length:Nat):Int),r.x L T M) ?_ HNB.out HT.out HAP'.out (fun b _=>Nat.zero_le b) (Nat.zero_le _) HBG.out ?_);rfl;rfl;intro p' c' w6 hfe hchg hlo hnw;have HP3:=hid (HPU.out _ _ _ hfe hchg hnw);have y6:=HK.out _ HP3.out.below;clear hfe hchg hlo hnw))
         refine (z4y HP3.out (by omega) (by omega)).mono ?_
         rintro e w8 ⟨rfl,h8⟩
         have H8:=hid h8
         clear h8
         go_wp2_with fail
         refine (q0o H8.out (by omega) (by omega)).mono ?_
         rintro e w9 ⟨rfl,h9⟩
         have H9:=hid h9
         clear h9
         go_wp2_with fail
         go_roundw
         case rel=>exact⟨j+1,_,by omega,rfl,by go_num,hid (PR.mono H9.out (Nat.le_refl _) (by omega))⟩
         case measure=>simp [intOf];omega
       · have d1:((j:Int)==(sy:Int))=false:=by simp;omega
         go_wp2_with (first | ((with_reducible refine z2l (r:=r) ?_ (HRC.out _ H3'.out) ?_);rfl) | ((with_reducible refine z3x (v:=(((z0q Xs3).length:Nat):Int)) (r:=r) rfl ?_ ?_ ?_);rfl;rfl) | ((with_reducible refine z3w (h':=((((z0q Xs3).length:Nat):Int),r)) rfl ?_ ?_);rfl) | ((with_reducible refine z3j rfl _ _ rfl _ H3 _ ?_ HF.out w3.heap.size ((((z0q Xs3).length:Nat):Int),r) ((((z0q Xs3).length:Nat):Int),r.x L T M) ?_ HNB.out HT.out HAP'.out (fun b _=>Nat.zero_le b) (Nat.zero_le _) HBG.out ?_);rfl;rfl;intro p' c' w6 hfe hchg hlo hnw;have HP3:=hid (HPU.out _ _ _ hfe hchg hnw);have y6:=HK.out _ HP3.out.below;clear hfe hchg hlo hnw))
         go_roundw
         case rel=>exact⟨j+1,_,by omega,rfl,by go_num,hid (PR.mono HP3.out (Nat.le_refl _) (by omega))⟩
         case measure=>simp [intOf];omega
    | false =>
     rw [hg,if_neg (by decide)] at hpa
     obtain⟨rfl,h3⟩:=hpa
     have HP3:=hid h3
     have y6:=HK.out _ HP3.out.below
     clear hg h3
     by_cases h2:kk=2
     · subst h2
       by_cases hs:j=sy
       · subst hs
         go_wp2_with fail
         refine (z4y HP3.out (by omega) (by omega)).mono ?_
         rintro e w7 ⟨rfl,h7⟩
         have H7:=hid h7
         clear h7
         go_wp2_with fail
         refine (z4y H7.out (by omega) (by omega)).mono ?_
         rintro e w8 ⟨rfl,h8⟩
         have H8:=hid h8
         clear h8
         go_wp2_with fail
         refine (q0o H8.out (by omega) (by omega)).mono ?_
         rintro e w9 ⟨rfl,h9⟩
         have H9:=hid h9
         clear h9
         go_wp2_with fail
         go_roundw
         case rel=>exact⟨j+1,_,by omega,rfl,by go_num,hid (PR.mono H9.out (Nat.le_refl _) (by omega))⟩
         case measure=>simp [intOf];omega
       · have d1:((j:Int)==(sy:Int))=false:=by simp;omega
         go_wp2_with fail
         refine (z4y HP3.out (by omega) (by omega)).mono ?_
         rintro e w7 ⟨rfl,h7⟩
         have H7:=hid h7
         clear h7
         go_wp2_with fail
         go_roundw
         case rel=>exact⟨j+1,_,by omega,rfl,by go_num,hid (PR.mono H7.out (Nat.le_refl _) (by omega))⟩
         case measure=>simp [intOf];omega
     · have d2:((kk:Int)==2)=false:=by simp;omega
       by_cases hs:j=sy
       · subst hs
         go_wp2_with fail
         refine (z4y HP3.out (by omega) (by omega)).mono ?_
         rintro e w8 ⟨rfl,h8⟩
         have H8:=hid h8
         clear h8
         go_wp2_with fail
         refine (q0o H8.out (by omega) (by omega)).mono ?_
         rintro e w9 ⟨rfl,h9⟩
         have H9:=hid h9
         clear h9
         go_wp2_with fail
         go_roundw
         case rel=>exact⟨j+1,_,by omega,rfl,by go_num,hid (PR.mono H9.out (Nat.le_refl _) (by omega))⟩
         case measure=>simp [intOf];omega
       · have d1:((j:Int)==(sy:Int))=false:=by simp;omega
         go_wp2_with fail
         go_roundw
         case rel=>exact⟨j+1,_,by omega,rfl,by go_num,hid (PR.mono HP3.out (Nat.le_refl _) (by omega))⟩
         case measure=>simp [intOf];omega
  · obtain rfl:n=j:=by omega
    have HX:Hid (PutW W B n (.returned (.tuple #[.pointer (some ⟨G,0,none⟩),x0])) wr):=hid ⟨G,x0,rfl,HR.out⟩
    go_wp2_with fail
    go_ret2
    exact HX.out
def Byt (L:List Nat):Prop:=∀ x∈L,x<256
theorem z1s {L M:List Nat} (h:Byt L) (h':Byt M):Byt (L++M):=fun x hx=>(List.mem_append.1 hx).elim (h x) (h' x)
theorem z2v (x n:Nat):Byt (le x n):=fun y hy=>q0b n x y hy
theorem z7b:Byt []:=fun x hx=>by cases hx
theorem z8k {c:Prop} [Decidable c] {L M:List Nat} (h:Byt L) (h':Byt M):Byt (if c then L else M):=by
 split
 · exact h
 · exact h'
theorem byt_flat {α:Type} {f:α→List Nat} (hf:∀ a,Byt (f a)) (L:List α):Byt (L.flatMap f):=fun x hx=>by
 obtain⟨a,_,h⟩:=List.mem_flatMap.1 hx
 exact hf a x h
theorem byt_ln (x:Ln):Byt (lnB x):=z1s (z2v _ _) (z2v _ _)
theorem byt_tk (x:Tk):Byt (tkBy x):=z1s (z1s (z1s (z2v _ _) (z2v _ _)) (z2v _ _)) (z2v _ _)
theorem byt_lns (L:List Ln):Byt (lnsB L):=z1s (z2v _ _) (byt_flat byt_ln L)
theorem byt_tks (L:List Tk):Byt (tksB L):=z1s (z2v _ _) (byt_flat byt_tk L)
theorem byt_pg (P:Pg):Byt (z1f P):=z1s (z1s (z1s (z1s (z1s (z1s (z1s (z1s (z1s (z2v _ _) (z2v _ _)) (z2v _ _)) (byt_lns _)) (byt_tks _)) (byt_lns _)) (z2v _ _)) (z2v _ _)) (z2v _ _)) (z2v _ _)
theorem byt_bit (b:Bool):Byt [bitN b]:=fun x hx=>by
 rw [List.mem_singleton] at hx
 subst hx
 cases b <;> decide
theorem byt_key {k:K} (h:Kok k):Byt (keyB k):=fun x hx=>by
 obtain⟨h1,h2,h3⟩:=h
 unfold keyB at hx
 simp only [List.mem_cons,List.not_mem_nil,or_false] at hx
 rcases hx with rfl | rfl | rfl <;> omega
theorem byt_x {X:Rx} (h:Rxok X):Byt (z0k X):=z1s (z2v _ _) (z1s (z8k (z2v _ _) z7b) (z1s (z8k (z2v _ _) z7b) (z1s (z8k (z1s (z2v _ _) (byt_bit _)) z7b) (z1s (z8k (z1s (byt_key h.key) (z2v _ _)) z7b) (z1s (z8k (z2v _ _) z7b) (z8k (z1s (z2v _ _) (byt_pg _)) z7b))))))
theorem byt_frm {X:Rx} (h:Rxok X):Byt (frmX X):=frmX_lt X (byt_x h)
theorem byt_flatX:∀ (Xs:List Rx),z8q Xs→Byt (z0q Xs)
 | [],_=>z7b
 | X::r,h=>by
  rw [show X::r=[X]++r from rfl,z1x,z4u]
  exact z1s (byt_frm (h X (List.mem_cons_self ..)).2) (byt_flatX r fun Y hY=>h Y (List.mem_cons_of_mem _ hY))
theorem byt_take {L:List Nat} (h:Byt L) (m:Nat):Byt (L.take m):=fun x hx=>h x (List.mem_of_mem_take hx)
theorem ents_mem:∀ (a b:Nat) (Xs:List Rx),∀ E∈offE a (z3s b Xs),E.2∈Xs
 | _,_,[],E,h=>by cases h
 | a,b,X::r,E,h=>by
  rcases List.mem_cons.1 (show E∈(((a+b:Nat):Int),X)::offE a (z3s (b+(6+(z0k X).length)) r) from h) with h | h
  · rw [h]
    exact List.mem_cons_self ..
  · exact List.mem_cons_of_mem _ (ents_mem a _ r E h)
theorem ents_at (Xs:List Rx) {j:Nat} (hj:j<Xs.length):∃ X∈Xs,(offE 0 (z3s 0 Xs)).getD j (0,noX)=((((z0q (Xs.take j)).length:Nat):Int),X)∧(z0q (Xs.take (j+1))).length=(z0q (Xs.take j)).length+(6+(z0k X).length):=by
 have hd:Xs.drop j=Xs[j]::Xs.drop (j+1):=List.drop_eq_getElem_cons hj
 refine⟨Xs[j],List.getElem_mem hj,?_,?_⟩
 · have e:z3s 0 Xs=z3s 0 (Xs.take j)++((z0q (Xs.take j)).length,Xs[j])::z3s ((z0q (Xs.take j)).length+(6+(z0k Xs[j]).length)) (Xs.drop (j+1)):=by
    have h1:=z5b 0 (Xs.take j) (Xs.drop j)
    rw [List.take_append_drop,hd,Nat.zero_add] at h1
    exact h1
   have hl:(offE 0 (z3s 0 (Xs.take j))).length=j:=by rw [z6l,z6e,List.length_take];omega
   have e2:offE 0 (z3s 0 Xs)=offE 0 (z3s 0 (Xs.take j))++((((z0q (Xs.take j)).length:Nat):Int),Xs[j])::offE 0 (z3s ((z0q (Xs.take j)).length+(6+(z0k Xs[j]).length)) (Xs.drop (j+1))):=by
    rw [e]
    unfold offE
    rw [List.map_append,List.map_cons,Nat.zero_add]
   rw [e2,List.getD,List.getElem?_append_right (by omega),hl,Nat.sub_self]
   rfl
 · have e:Xs.take (j+1)=Xs.take j ++ [Xs[j]]:=by rw [List.take_succ_eq_append_getElem hj]
   rw [e,z1x,List.length_append,z4u,z7r]
theorem good_lists3 {X:Rx} (h:z1b X=true):X.pg.lines.length≤3∧X.pg.takes.length≤12∧X.pg.owes.length≤3:=by
 have hp:=z5l h
 unfold z8c at hp
 split at hp
 · exact z6o hp
 · have:X.pg=noP:=by simpa using hp
   rw [this]
   exact⟨Nat.zero_le _,Nat.zero_le _,Nat.zero_le _⟩
theorem good_smx {Xs:List Rx} (h:z8q Xs) (a b:Nat):∀ E∈offE a (z3s b Xs),SmX E.2:=fun E hE=>by
 obtain⟨h1,h2,h3⟩:=good_lists3 (h E.2 (ents_mem a b Xs E hE)).1
 exact⟨by omega,by omega,by omega⟩
theorem flat_mono (Xs:List Rx) (k:Nat):(z0q (Xs.take k)).length≤(z0q Xs).length:=by
 have h:=congrArg List.length (z1x (Xs.take k) (Xs.drop k))
 rw [List.take_append_drop,List.length_append] at h
 omega
end Go.Proofs.YtfdgnniicjdjdaaGreatDoor
