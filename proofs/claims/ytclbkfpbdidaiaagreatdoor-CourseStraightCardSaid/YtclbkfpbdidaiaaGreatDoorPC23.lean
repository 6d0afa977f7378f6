import Derived.Deep.RegionHeld
import Derived.Laws.CopyOwn
import Derived.Test.YtclbkfpbdidaiaaGreatDoorPC22
namespace Go.Proofs.YtclbkfpbdidaiaaGreatDoor
open Go.Lib (hid)
set_option maxHeartbeats 1000000
open Go.RowKit Go.ChangeShapes Go.WideShapes
set_option linter.unusedVariables false
set_option linter.unusedSimpArgs false
set_option maxRecDepth 10000
def GivesT (W:World) (t w:Int) (L:List Ln) (e:Ending) (w':World):Prop:=∃ p c,e=.returned (.agg #[.int .u8 t,.int .u8 w,.slice p L.length c])∧LL w' p L.length c L∧Below W.heap.size W w'∧∀ ad,p=some ad→W.heap.size≤ad.block
theorem z4q:(Tryz.prog.info? 76).map (fun i=>(i.zero,i.size,i.bytes))=some (some (.agg #[.int .u8 0,.int .i64 0]),2,16):=by kernel_rfl
theorem z4o (w:World) (x:Ln):∀ ad,(some (⟨w.heap.size,0,none⟩:Addr))=some ad→∀ j u,(z0n lc [x])[j]?=some u→(w.alloc (.cells #[.int .u8 x.1,.int .i64 x.2] 76)).cell? (ad.add j)=some u:=by
 intro ad he j u hu
 cases he
 rw [Go.WideShapes.add_plain,Nat.zero_add]
 refine z0a (z0c w _) ?_
 rw [z3p] at hu
 simpa [lc] using hu
theorem line_lit (w:World) (x:Ln):LL (w.alloc (.cells #[.int .u8 x.1,.int .i64 x.2] 76)) (some ⟨w.heap.size,0,none⟩) 1 1 [x]:=by
 have hr:=z0c w (.cells #[.int .u8 x.1,.int .i64 x.2] 76)
 refine⟨rfl,Nat.le_refl _,by unfold maxLen;omega,(fun h=>by cases h),fun _=>⟨_,0,rfl,z0g hr,fun j hj i v hv=>?_⟩⟩
 refine z0a hr ?_
 have hi:i<2:=(List.getElem?_eq_some_iff.1 hv).1
 obtain rfl:j=0:=by omega
 rcases (by omega:i=0∨i=1) with rfl | rfl <;> exact hv
theorem z6u {w:World}:∀ {K:List Hs} {R:List Stp},TellsAll w K R→∀ h∈K,0<h.2.2.2.1→∀ ad,h.2.2.1=some ad→ad.block<w.heap.size
 | [],_,_,h,hh,_,_,_=>by cases hh
 | g::K,[],ht,_,_,_,_,_=>ht.elim
 | g::K,s::R,ht,h,hh,h0,ad,he=>by
  rcases List.mem_cons.1 hh with rfl | hh
  · obtain⟨b,off,hp,hlt,_⟩:=ht.1.2.2.cell h0
    rw [he] at hp
    cases hp
    exact hlt
  · exact z6u ht.2 h hh h0 ad he
theorem z5x {w w':World} {B:Nat→Prop} (hc:Chg B w w'):∀ {K:List Hs} {R:List Stp},(∀ h∈K,0<h.2.2.2.1→∀ ad,h.2.2.1=some ad→¬ B ad.block)→TellsAll w K R→TellsAll w' K R
 | [],[],_,_=>trivial
 | [],_::_,_,h=>h.elim
 | _::_,[],_,h=>h.elim
 | g::K,s::R,ha,hh=>⟨⟨hh.1.1,hh.1.2.1,hh.1.2.2.turn hc.size fun h0 ad he hlt=>hc.block ad.block hlt (ha g (List.mem_cons.2 (.inl rfl)) h0 ad he)⟩,z5x hc (fun x hx=>ha x (List.mem_cons.2 (.inr hx))) hh.2⟩
theorem tells_snoc {w:World} {h:Hs} {s:Stp}:∀ {H:List Hs} {S:List Stp},H.length=S.length→TellsAll w (H ++ [h]) (S ++ [s])→TellsAll w H S∧Tells w h s
 | [],[],_,ht=>⟨trivial,ht.1⟩
 | [],_::_,hl,_=>by simp at hl
 | _::_,[],hl,_=>by simp at hl
 | g::H,r::S,hl,ht=>by
  have:=tells_snoc (h:=h) (s:=s) (H:=H) (S:=S) (by simpa using hl) ht.2
  exact⟨⟨ht.1,this.1⟩,this.2⟩
theorem FillS.app {W w w':World} {v:Value} {H H':List Hs} {S S':List Stp} {N m:Nat} {p':Option Addr} {c':Nat} (hF:FillS W w v H S N) (hm:H'.length=m) (hT:TellsAll w H' S') (hapart':∀ h∈H',0<h.2.2.2.1→∀ ad,h.2.2.1=some ad→v.ownBlock≠some ad.block)
 (h1:w'.ownsRow 0 52 3 (.slice p' (H.length+m) c') (H.length+m) (z0n sc H++z0n sc H')) (h2:Chg (fun b=>v.ownBlock=some b) w w') (h3:∀ b,(Value.slice p' (H.length+m) c').ownBlock=some b→v.ownBlock=some b∨w.heap.size≤b):FillS W w' (.slice p' (H.length+m) c') (H++H') (S++S') (N+m):=by
 have hmost:=hF.most
 have hapart:∀ h∈H++H',0<h.2.2.2.1→∀ ad,h.2.2.1=some ad→v.ownBlock≠some ad.block:=fun h hh=>by
  rcases List.mem_append.1 hh with hh | hh
  · exact hF.apart h hh
  · exact hapart' h hh
 rw [← z1d] at h1
 have hall:=z5x h2 hapart (hF.tells.append hT)
 refine⟨?_,Chg.below hF.below hF.below.size h2 fun k hk=>(hF.own.lt k hk).1,by rw [List.length_append,hm];omega,hall,fun g hg h0 ad he hb=>?_⟩
 · have hlen:(H++H').length=H.length+m:=by rw [List.length_append,hm]
   rw [hlen]
   refine⟨h1.1,?_⟩
   rcases h1.2 with hn | ⟨g,cap,cur,he,g1,g2,g3⟩
   · exact .inl hn
   · refine .inr ⟨g,cap,cur,he,?_,g2,g3⟩
     rcases h3 g (by rw [he];rfl) with hk | hk
     · exact (hF.own.lt g hk).1
     · exact Nat.le_trans hF.below.size hk
 · rcases h3 ad.block hb with hk | hk
   · exact hapart g hg h0 ad he hk
   · exact absurd (z6u (hF.tells.append hT) g hg h0 ad he) (by omega)
def itm (h:Hs):Value:=.slice h.2.2.1 h.2.2.2.1 h.2.2.2.2
structure Hw (W wr:World) (v:Value) (H:List Hs) (h:Hs) (S:List Stp) (s:Stp) (N:Nat):Prop where
 fill:FillS W wr v (H ++ [h]) (S ++ [s]) N
 len:H.length=S.length
 items:wr.ownsRow W.heap.size 76 2 (itm h) s.2.2.length (z0n lc s.2.2)
 lone:∀ b,(itm h).ownBlock=some b→v.ownBlock≠some b
 apart:∀ g∈H,0<g.2.2.2.1→∀ ad,g.2.2.1=some ad→(itm h).ownBlock≠some ad.block
theorem Hw.new {W wr:World} {v:Value} {H:List Hs} {S:List Stp} {N:Nat} {t r:Int} (hF:FillS W wr v (H ++ [(t,r,none,0,0)]) (S ++ [(t,r,[])]) N):Hw W wr v H (t,r,none,0,0) S (t,r,[]) N:=by
 have hl:=hF.tells.len
 rw [List.length_append,List.length_append] at hl
 exact⟨hF,by simpa using hl,World.ownsRow_nil _ _ _ _,(fun b hb=>by cases hb),fun g _ _ ad _ hb=>by cases hb⟩
theorem row_later {B:Nat} {e:TypeId} {k:Nat} {v:Value} {n:Nat} {xs:List Value} {w w':World} (h:w.ownsRow B e k v n xs) (hb:Below w.heap.size w w'):w'.ownsRow B e k v n xs:=by
 refine⟨h.1,?_⟩
 rcases h.2 with hn | ⟨g,cap,cur,rfl,h1,h2,h3⟩
 · exact .inl hn
 · exact .inr ⟨g,cap,cur,rfl,h1,(hb.block g (Array.getElem?_eq_some_iff.1 h2).1).trans h2,h3⟩
theorem Hw.later {W wr w':World} {v:Value} {H:List Hs} {h:Hs} {S:List Stp} {s:Stp} {N:Nat} (hw:Hw W wr v H h S s N) (hb:Below wr.heap.size wr w'):Hw W w' v H h S s N :=
 ⟨hw.fill.later hb,hw.len,row_later hw.items hb,hw.lone,hw.apart⟩
structure Hw2 (W w:World) (v:Value) (H:List Hs) (h:Hs) (S:List Stp) (s:Stp) (N:Nat) (p:Option Addr) (n c:Nat) (L:List Ln):Prop where
 own:w.ownsRow W.heap.size 52 3 v (H ++ [h]).length (z0n sc (H ++ [h]))
 below:Below W.heap.size W w
 most:(H ++ [h]).length≤N
 len:H.length=S.length
 tells:TellsAll w H S
 h1:h.1=s.1
 h2:h.2.1=s.2.1
 far:∀ g∈H,0<g.2.2.2.1→∀ ad,g.2.2.1=some ad→v.ownBlock≠some ad.block
 items:w.ownsRow W.heap.size 76 2 (.slice p n c) L.length (z0n lc L)
 lone:∀ b,(Value.slice p n c).ownBlock=some b→v.ownBlock≠some b
 apart:∀ g∈H,0<g.2.2.2.1→∀ ad,g.2.2.1=some ad→(Value.slice p n c).ownBlock≠some ad.block
theorem Hw.app {W w w':World} {v:Value} {H:List Hs} {h:Hs} {S:List Stp} {s:Stp} {N:Nat} {M:List Ln} {p:Option Addr} {n c:Nat} (hw:Hw W w v H h S s N) (h1:w'.ownsRow 0 76 2 (.slice p n c) n (z0n lc s.2.2++z0n lc M)) (h2:Chg (fun b=>(itm h).ownBlock=some b) w w') (h3:∀ b,(Value.slice p n c).ownBlock=some b→(itm h).ownBlock=some b∨w.heap.size≤b):Hw2 W w' v H h S s N p n c (s.2.2++M):=by
 obtain⟨ht,hl1,hl2,_⟩:=tells_snoc hw.len hw.fill.tells
 have hlen:(s.2.2++M).length=n:=by
  have:=h1.1
  rw [← z1d,z1m z9a] at this
  omega
 rw [← z1d] at h1
 refine⟨?_,Chg.below hw.fill.below hw.fill.below.size h2 fun k hk=>(hw.items.lt k hk).1,hw.fill.most,hw.len,z5x h2 (fun g hg h0 ad he=>hw.apart g hg h0 ad he) ht,hl1,hl2,fun g hg=>hw.fill.apart g (List.mem_append.2 (.inl hg)),?_,fun b hb hv=>?_,fun g hg h0 ad he hb=>?_⟩
 · have ho:=hw.fill.own
   refine⟨ho.1,?_⟩
   rcases ho.2 with hn | ⟨g,cap,cur,rfl,g1,g2,g3⟩
   · exact .inl hn
   · exact .inr ⟨g,cap,cur,rfl,g1,(h2.block g (z0g g2) fun hb=>hw.lone g hb rfl).trans g2,g3⟩
 · rw [hlen]
   refine⟨h1.1,?_⟩
   rcases h1.2 with hn | ⟨g,cap,cur,he,g1,g2,g3⟩
   · exact .inl hn
   · refine .inr ⟨g,cap,cur,he,?_,g2,g3⟩
     rcases h3 g (by rw [he];rfl) with hk | hk
     · exact (hw.items.lt g hk).1
     · exact Nat.le_trans hw.fill.below.size hk
 · rcases h3 b hb with hk | hk
   · exact hw.lone b hk hv
   · have:=(hw.fill.own.lt b hv).2
     omega
 · rcases h3 ad.block hb with hk | hk
   · exact hw.apart g hg h0 ad he hk
   · exact absurd (z6u ht g hg h0 ad he) (by omega)
theorem flat_set {H:List Hs} {h:Hs} {p:Option Addr} {n c:Nat}:(z0n sc (H ++ [h])).set (H.length*3+2) (.slice p n c)=z0n sc (H ++ [(h.1,h.2.1,p,n,c)]):=by
 rw [z1d,z1d,z3p,z3p,List.set_append_right _ _ (by rw [z1m z8u];omega),z1m z8u]
 have:H.length*3+2-H.length*3=2:=by omega
 rw [this]
 rfl
theorem Hw2.put {W w:World} {g k cap:Nat} {H:List Hs} {h:Hs} {S:List Stp} {s:Stp} {N:Nat} {p:Option Addr} {n c:Nat} {L:List Ln} (hw:Hw2 W w (.slice (some ⟨g,0,none⟩) k cap) H h S s N p n c L):Hw W (w.setCell ⟨g,H.length*3+2,none⟩ (.slice p n c)) (.slice (some ⟨g,0,none⟩) k cap) H (h.1,h.2.1,p,n,c) S (s.1,s.2.1,L) N:=by
 have hk:k=H.length+1:=by
  have:=hw.own.2
  rcases this with ⟨h',_⟩ | ⟨g',cap',cur,h',_⟩
  · cases h'
  · simp only [Value.slice.injEq,List.length_append,List.length_singleton] at h'
    exact h'.2.1
 subst hk
 have ho:=hw.own
 rw [List.length_append,List.length_singleton] at ho
 obtain⟨hr,hg⟩:=ho.stored (H.length*3+2) (.slice p n c)
 rw [flat_set] at hr
 have hc:=Chg.of_grown hg
 have hl:(H ++ [(h.1,h.2.1,p,n,c)]).length=H.length+1:=by simp
 have hit:(w.setCell ⟨g,H.length*3+2,none⟩ (.slice p n c)).ownsRow W.heap.size 76 2 (.slice p n c) L.length (z0n lc L):=ownsRow_setCell_other (a:=⟨g,H.length*3+2,none⟩) hw.items (fun hb=>hw.lone _ hb rfl) _
 have htl:TellsAll (w.setCell ⟨g,H.length*3+2,none⟩ (.slice p n c)) H S:=z5x hc (fun x hx h0 ad he hb=>hw.far x hx h0 ad he (by cases hb;rfl)) hw.tells
 have hx:LL (w.setCell ⟨g,H.length*3+2,none⟩ (.slice p n c)) p n c L:=by
  obtain⟨p',c',he,hs,_⟩:=SlG.of_own (d:=l0) z9a (by decide) hit
  cases he
  exact hs
 refine⟨⟨by rw [hl];exact hr,Chg.below hw.below hw.below.size hc fun b hb=>by cases hb;exact (hw.own.lt g rfl).1,by have:=hw.most;rw [hl];simpa using this,htl.append ⟨⟨hw.h1,hw.h2,hx⟩,trivial⟩,fun x hx h0 ad he=>?_⟩,hw.len,hit,hw.lone,hw.apart⟩
 rcases List.mem_append.1 hx with hx | hx
 · exact hw.far x hx h0 ad he
 · obtain rfl:=List.mem_singleton.1 hx
   intro hb
   dsimp only at he
   subst he
   exact hw.lone ad.block rfl hb
theorem Hw.mono {W wr:World} {v:Value} {H:List Hs} {h:Hs} {S:List Stp} {s:Stp} {N K:Nat} (hw:Hw W wr v H h S s N) (hn:N≤K):Hw W wr v H h S s K:=⟨hw.fill.mono hn,hw.len,hw.items,hw.lone,hw.apart⟩
theorem z1k {w:World} {B g k cap:Nat} {H:List Hs} {h:Hs} (ho:w.ownsRow B 52 3 (.slice (some ⟨g,0,none⟩) k cap) (H ++ [h]).length (z0n sc (H ++ [h]))):w.cell? ⟨g,H.length*3+2,none⟩=some (itm h)∧w.frozen? ⟨g,H.length*3+2,none⟩=false:=by
 have hk:k=(H ++ [h]).length:=by
  rcases ho.2 with ⟨h',_⟩ | ⟨g',cap',cur,h',_⟩
  · cases h'
  · simp only [Value.slice.injEq] at h'
    exact h'.2.1
 subst hk
 refine⟨?_,ho.frozenAt _⟩
 rw [ho.cellAt _ (by simp;omega),z6g (d:=hs0) z8u _ _ _ (by simp) (by omega)]
 rw [List.getD,List.getElem?_append_right (Nat.le_refl _),Nat.sub_self]
 rfl
def Hst (W wr:World) (v:Value) (t:Int) (T:List Tk) (j:Nat):Prop :=
 (j=0∧v=.slice none 0 0∧Below W.heap.size W wr)∨∃ H h S s,Hw W wr v H h S s j∧S ++ [s]=z1a t (T.take j)∧s.1=t∧s.2.1=(T.getD (j-1) tk0).2.2.1∧1≤j
theorem Hst.below {W wr:World} {v:Value} {t:Int} {T:List Tk} {j:Nat} (h:Hst W wr v t T j):Below W.heap.size W wr:=by
 rcases h with ⟨_,_,h⟩ | ⟨_,_,_,_,h,_⟩
 · exact h
 · exact h.fill.below
theorem Hst.fill {W wr:World} {v:Value} {t:Int} {T:List Tk} {j:Nat} (h:Hst W wr v t T j):∃ H,FillS W wr v H (z1a t (T.take j)) j:=by
 rcases h with ⟨rfl,rfl,h⟩ | ⟨H,g,S,s,h,e,_⟩
 · exact⟨[],(FillS.nil W).later h⟩
 · rw [← e];exact⟨_,h.fill⟩
theorem z5w (W wr:World) (v:Value) (L:List Int) (N:Nat) (s o q:Int) (h:q0r W wr v L N) (ho:0≤o∧o≤255) (hN:N≤1000) :
 Calls Tryz.prog 149 #[v,.int .i64 s,.int .u8 o,.int .i64 q] wr fun e w'=>∃ v',e=.returned v'∧q0r W w' v' (L++(if o=s then [q] else [])) (N+1):=by
 obtain⟨h0,h1⟩:=ho
 have HF:=hid h
 have hmost:=h.most
 have hsz:=h.below.size
 clear h
 by_cases hs:o=s
 · subst hs
   have hd:(o != o)=false:=by simp
   rw [if_pos rfl]
   go_enter Tryz.func149,Tryz.ntmps149
   go_wp2_with (at_builtin;refine z3d rfl _ _ rfl W.heap.size v L.length L rfl (HF.out.own.alloc _) (by omega) q wr.heap.size rfl (z8p wr q) (by simp;omega) ?_;intro v2 w2 h1 h2)
   have HF2:=hid (HF.out.step _ h1 h2)
   clear h1 h2
   go_ret
   exact⟨_,rfl,HF2.out⟩
 · have hd:(o != s)=true:=by simpa using hs
   rw [if_neg hs,List.append_nil]
   go_enter Tryz.func149,Tryz.ntmps149
   go_wp2_with fail
   go_ret
   exact⟨_,rfl,HF.out.mono (by omega)⟩
theorem together_any (tp:Option Addr) (tn tcp:Nat) (T:List Tk) (W:World) (hT:TKL W tp tn tcp T) (hTok:∀ x∈T,Tkok x) (htn:tn≤1000) :
 Calls Tryz.prog 113 #[.slice tp tn tcp] W fun e w'=>e=.returned (.tuple #[.int .i64 (val (z1h (allT T))),.bool (okB (z1h (allT T)))])∧Below W.heap.size W w':=by
 have HT:=hid hT
 have HST:=hid fun j (hj:j<tn)=>allT_take T j (by rw [hT.len];exact hj)
 have HET:Hid (allT (T.take tn)=allT T):=hid (by rw [← hT.len,List.take_length])
 have HIN:Hid (∀ z∈allT T,In64 z):=hid fun z hz=>by
  obtain⟨x,hx,rfl⟩:=List.mem_map.1 hz
  exact (hTok x hx).2.2.2
 have hc1:=hT.cap
 clear hT hTok
 go_enter Tryz.func113,Tryz.ntmps113
 go_wp2_with fail
 go_loopw [4,9] (fun v i wr=>∃ j:Nat,j≤tn∧i=.int .i64 j∧Hid (q0r W wr v (allT (T.take j)) j)) (fun _ i _=>tn-(Go.RowKit.intOf i).toNat)
 case atStart=>exact⟨0,Nat.zero_le _,rfl,hid (by simpa [allT] using FillG.nil W)⟩
 case round =>
  obtain⟨j,hj,rfl,HF⟩:=hrel
  by_cases hlt:j<tn
  · have hlt':(j:Int)<tn:=by omega
    obtain⟨b,off,rfl,_,k0,k1,k2,k3⟩:=z1g (HT.out.later HF.out.below) hlt
    have hst:=HST.out j hlt
    generalize T.getD j tk0=x at *
    obtain⟨o,a,w,q⟩:=x
    dsimp only at k0 k1 k2 k3 hst
    have HS:=hid hst
    have HFA:=hid (HF.out.later ((Below.refl wr.heap.size wr).alloc (Nat.le_refl _) (.cells #[.int .u32 o,.int .u8 a,.int .u8 w,.int .i64 q] 73)))
    have hsz:=HF.out.below.size
    have hmost:=HF.out.most
    clear hst
    go_wp2_with (at_builtin;refine z3d rfl _ _ rfl W.heap.size _ (allT (T.take j)).length (allT (T.take j)) rfl (HFA.out.own.alloc _) (by omega) q (wr.heap.size+1) rfl (by have:=z8p (wr.alloc (.cells #[.int .u32 o,.int .u8 a,.int .u8 w,.int .i64 q] 73)) q;rwa [World.size_alloc] at this) (by simp;omega) ?_;intro v2 w2 h1 h2)
    have HF2:=hid (HFA.out.step _ h1 h2)
    clear h1 h2 hsz hmost
    go_wp2_with fail
    go_roundw
    case rel=>exact⟨j+1,by omega,by go_num,hid (by rw [HS.out];exact HF2.out)⟩
    case measure=>simp [Go.RowKit.intOf];omega
  · obtain rfl:j=tn:=by omega
    have hF:=HF.out
    rw [HET.out] at hF
    obtain⟨pv,cv,hv,hs⟩:=z5h hF
    have hm:=hF.most
    have hsum:=q2f pv _ cv _ _ (IL.row hs HIN.out) (by omega)
    have HB:=hid hF.below
    clear hF HF hs hm
    generalize (allT T).length=nn at *
    subst hv
    go_wp2_with fail
    refine hsum.mono ?_
    rintro e w4 ⟨rfl,rfl⟩
    clear hsum
    go_wp2_with fail
    go_ret2
    exact⟨rfl,HB.out⟩
theorem good_owe {s:Int} {L:List Ln} (h1:1≤s) (h4:s≤4) (hL:1≤L.length):z3i s 1 7 0 L=z0q s L:=by
 unfold z3i z0m
 rw [decide_eq_true h1,decide_eq_true h4,decide_eq_true hL]
 simp
theorem z2k (s:Int) (p:Option Addr) (n c:Nat) (L:List Ln) (W:World) (hw:Words W) (hL:LL W p n c L) (hok:∀ x∈L,Lnok x) (h1:1≤s) (h4:s≤4) (hn:n≤1000) :
 Calls Tryz.prog 133 #[.int .i64 s,.slice p n c] W fun e w'=>e=.returned (.bool (z0q s L))∧Below W.heap.size W w':=by
 have hlen:=hL.len
 have HLN:=hid hlen
 have hcap:=hL.cap
 have hg:=fun (_:1≤n)=>q1r s 1 7 0 p n c L W hw hL hok (by omega) (by omega) hn
 clear hL hok hw
 by_cases h0:n=0
 · subst h0
   obtain rfl:L=[]:=List.eq_nil_of_length_eq_zero hlen
   have hd:((0:Int)==0)=true:=rfl
   clear hg hlen
   go_enter Tryz.func133,Tryz.ntmps133
   go_wp2_with fail
   go_ret
   exact⟨rfl,Below.refl _ _⟩
 · have hg:=hg (by omega)
   rw [good_owe h1 h4 (by omega)] at hg
   have hd:((n:Int)==0)=false:=by simp;omega
   generalize z0q s L=r at *
   clear hlen h0
   go_enter Tryz.func133,Tryz.ntmps133
   go_wp2_with fail
   refine hg.mono ?_
   rintro e w' ⟨rfl,hb⟩
   have HB:=hid hb
   clear hg hb
   go_wp2_with fail
   go_ret
   exact⟨rfl,HB.out⟩
theorem z5q (t w s q:Int) (W:World) :
 Calls Tryz.prog 84 #[.int .u8 t,.int .u8 w,.int .u8 s,.int .i64 q] W (GivesT W t w [(s,q)]):=by
 have hb1:Below W.heap.size W (W.alloc (.cells #[.int .u8 t,.int .u8 w,.slice (some ⟨W.heap.size+1,0,none⟩) 1 1] 52)):=(Below.refl _ _).alloc (Nat.le_refl _) _
 have hl:=line_lit (W.alloc (.cells #[.int .u8 t,.int .u8 w,.slice (some ⟨W.heap.size+1,0,none⟩) 1 1] 52)) (s,q)
 have hx:=z0c W (.cells #[.int .u8 t,.int .u8 w,.slice (some ⟨W.heap.size+1,0,none⟩) 1 1] 52)
 have hx2:=(Below.heap_alloc (W.alloc (.cells #[.int .u8 t,.int .u8 w,.slice (some ⟨W.heap.size+1,0,none⟩) 1 1] 52)) (.cells #[.int .u8 s,.int .i64 q] 76) _ (z0g hx)).trans hx
 rw [World.size_alloc] at hl
 have HL:=hid hl
 have HX:=hid hx2
 have HB:=hid (hb1.alloc (by simp) (.cells #[.int .u8 s,.int .i64 q] 76))
 clear hl hx hx2 hb1
 go_enter Tryz.func84,Tryz.ntmps84
 go_wp2_with fail
 refine bodyPost_ret (v:=.agg #[.int .u8 t,.int .u8 w,.slice (some ⟨W.heap.size+1,0,none⟩) 1 1]) ?_ rfl ⟨_,1,rfl,HL.out,HB.out,fun ad ha=>by cases ha;exact Nat.le_succ _⟩
 exact results_cell_row rfl _ _ W.heap.size 52 _ (0,0) _ rfl HX.out Tryz.underlying52 rfl (by kernel_rfl)
theorem isother_any (B:Nat) (o x a w z:Int) (W:World) (hc:W.cell? ⟨B,1,none⟩=some (.int .u32 o)) :
 Calls Tryz.prog 148 #[.agg #[.int .u32 x,.int .u8 a,.int .u8 w,.int .i64 z],.pointer (some ⟨B,0,none⟩)] W fun e w'=>e=.returned (.bool (x != o))∧Below W.heap.size W w':=by
 have hlt:=World.block_lt_of_cell? _ _ hc
 have hb1:Below W.heap.size W (W.alloc (.cells #[.int .u32 x,.int .u8 a,.int .u8 w,.int .i64 z] 73)):=(Below.refl _ _).alloc (Nat.le_refl _) _
 have hc1:=(hb1.cell (p:=⟨B,1,none⟩) hlt).trans hc
 have HB1:=hid hb1
 clear hb1 hc hlt
 go_enter Tryz.func148,Tryz.ntmps148
 go_wp2_with fail
 go_ret
 exact⟨rfl,HB1.out⟩
def z4m (o:Int) (T:List Tk):Bool:=T.any fun x=>x.1 != o
theorem other_hit {o:Int} {T:List Tk} {j:Nat} (hj:j<T.length) (h:((T.getD j tk0).1 != o)=true):z4m o T=true:=by
 unfold z4m
 rw [List.any_eq_true]
 refine⟨_,List.getElem_mem hj,?_⟩
 simpa [List.getD,List.getElem?_eq_getElem hj] using h
theorem other_miss {o:Int} {T:List Tk} (h:∀ j,j<T.length→((T.getD j tk0).1 != o)=false):z4m o T=false:=by
 unfold z4m
 rw [List.any_eq_false]
 intro x hx
 obtain⟨j,hj,rfl⟩:=z3t tk0 hx
 rw [h j hj]
 simp
theorem index_other (B:Nat) (o:Int) (p:Option Addr) (n c:Nat) (T:List Tk) (W:World) (hT:TKL W p n c T) (hc:W.cell? ⟨B,1,none⟩=some (.int .u32 o)) (hn:n≤1000) :
 Calls Tryz.prog 150 #[.slice p n c,.func (.func 148) #[] #[.pointer (some ⟨B,0,none⟩)]] W fun e w'=>(∃ z:Int,e=.returned (.int .i64 z)∧decide (0≤z)=z4m o T)∧Below W.heap.size W w':=by
 have HT:=hid hT
 have HC:=hid fun w (h:Below W.heap.size W w)=>(h.cell (p:=⟨B,1,none⟩) (World.block_lt_of_cell? _ _ hc)).trans hc
 have HIT:=hid fun j (hj:j<n)=>other_hit (o:=o) (show j<T.length by rw [hT.len];exact hj)
 have HMI:Hid ((∀ j,j<n→((T.getD j tk0).1 != o)=false)→z4m o T=false):=hid fun h=>other_miss fun j hj=>h j (by rw [← hT.len];exact hj)
 have hcap:=hT.cap
 clear hT hc
 go_enter Tryz.func150,Tryz.ntmps150
 go_wp2_with fail
 go_loopw [8] (fun i wr=>∃ j:Nat,j≤n∧i=.int .i64 j∧Hid (Below W.heap.size W wr)∧Hid (∀ i,i<j→((T.getD i tk0).1 != o)=false)) (fun i _=>n-(Go.RowKit.intOf i).toNat)
 case atStart=>exact⟨0,Nat.zero_le _,rfl,hid (Below.refl _ _),hid fun i hi=>by omega⟩
 case round =>
  obtain⟨j,hj,rfl,HB,HE⟩:=hrel
  by_cases hlt:j<n
  · have hlt':(j:Int)<n:=by omega
    obtain⟨b,off,rfl,_,k0,k1,k2,k3⟩:=z1g (HT.out.later HB.out) hlt
    have hit:=HIT.out j hlt
    generalize hx:T.getD j tk0=x at *
    obtain⟨o1,a1,w1,z1⟩:=x
    dsimp only at k0 k1 k2 k3 hit
    have hcl:=isother_any B o o1 a1 w1 z1 wr (HC.out wr HB.out)
    have HX:=hid hx
    have HH:=hid hit
    clear hit hx
    cases hq:(o1 != o) with
    | true =>
     rw [hq] at hcl
     have HA:=hid (HH.out hq)
     go_wp2_with fail
     refine hcl.mono ?_
     rintro e w2 ⟨rfl,hb2⟩
     have HB2:=hid (HB.out.trans (hb2.mono HB.out.size))
     clear hcl hb2 k0 k1 k2 k3
     go_wp2_with fail
     go_ret
     exact⟨⟨_,rfl,by rw [HA.out];exact decide_eq_true (by omega)⟩,HB2.out⟩
    | false =>
     rw [hq] at hcl
     have HQ:=hid hq
     go_wp2_with fail
     refine hcl.mono ?_
     rintro e w2 ⟨rfl,hb2⟩
     have HB2:=hid (HB.out.trans (hb2.mono HB.out.size))
     clear hcl hb2 k0 k1 k2 k3
     go_wp2_with fail
     go_roundw
     case rel =>
      refine⟨j+1,by omega,by go_num,HB2,hid fun i hi=>?_⟩
      by_cases e:i=j
      · subst e;rw [HX.out];exact HQ.out
      · exact HE.out i (by omega)
     case measure=>simp [Go.RowKit.intOf];omega
  · obtain rfl:j=n:=by omega
    have HA:=hid (HMI.out HE.out)
    go_wp2_with fail
    go_ret
    exact⟨⟨_,rfl,by rw [HA.out];rfl⟩,HB.out⟩
theorem contains_other (B:Nat) (o:Int) (p:Option Addr) (n c:Nat) (T:List Tk) (W:World) (hT:TKL W p n c T) (hc:W.cell? ⟨B,1,none⟩=some (.int .u32 o)) (hn:n≤1000) :
 Calls Tryz.prog 136 #[.slice p n c,.func (.func 148) #[] #[.pointer (some ⟨B,0,none⟩)]] W fun e w'=>e=.returned (.bool (z4m o T))∧Below W.heap.size W w':=by
 have hi:=index_other B o p n c T W hT hc hn
 generalize z4m o T=r at *
 clear hT hc
 go_enter Tryz.func136,Tryz.ntmps136
 go_wp2_with fail
 refine hi.mono ?_
 rintro e w2 ⟨⟨z,rfl,hz⟩,hb⟩
 have HB:=hid hb
 clear hi hb
 cases r with
 | true =>
  go_wp2_with fail
  go_ret
  exact⟨rfl,HB.out⟩
 | false =>
  go_wp2_with fail
  go_ret
  exact⟨rfl,HB.out⟩
theorem isalike_any (B:Nat) (o x a w z:Int) (W:World) (hc:W.cell? ⟨B,0,none⟩=some (.int .u32 o)) :
 Calls Tryz.prog 137 #[.agg #[.int .u32 x,.int .u8 a,.int .u8 w,.int .i64 z],.pointer (some ⟨B,0,none⟩)] W fun e w'=>e=.returned (.bool (x==o))∧Below W.heap.size W w':=by
 have hlt:=World.block_lt_of_cell? _ _ hc
 have hb1:Below W.heap.size W (W.alloc (.cells #[.int .u32 x,.int .u8 a,.int .u8 w,.int .i64 z] 73)):=(Below.refl _ _).alloc (Nat.le_refl _) _
 have hc1:=(hb1.cell (p:=⟨B,0,none⟩) hlt).trans hc
 have HB1:=hid hb1
 clear hb1 hc hlt
 go_enter Tryz.func137,Tryz.ntmps137
 go_wp2_with fail
 go_ret
 exact⟨rfl,HB1.out⟩
def z6k (o:Int) (T:List Tk):Bool:=T.any fun x=>x.1==o
theorem alike_hit {o:Int} {T:List Tk} {j:Nat} (hj:j<T.length) (h:((T.getD j tk0).1==o)=true):z6k o T=true:=by
 unfold z6k
 rw [List.any_eq_true]
 refine⟨_,List.getElem_mem hj,?_⟩
 simpa [List.getD,List.getElem?_eq_getElem hj] using h
theorem alike_miss {o:Int} {T:List Tk} (h:∀ j,j<T.length→((T.getD j tk0).1==o)=false):z6k o T=false:=by
 unfold z6k
 rw [List.any_eq_false]
 intro x hx
 obtain⟨j,hj,rfl⟩:=z3t tk0 hx
 rw [h j hj]
 simp
theorem index_alike (B:Nat) (o:Int) (p:Option Addr) (n c:Nat) (T:List Tk) (W:World) (hT:TKL W p n c T) (hc:W.cell? ⟨B,0,none⟩=some (.int .u32 o)) (hn:n≤1000) :
 Calls Tryz.prog 150 #[.slice p n c,.func (.func 137) #[] #[.pointer (some ⟨B,0,none⟩)]] W fun e w'=>(∃ z:Int,e=.returned (.int .i64 z)∧decide (0≤z)=z6k o T)∧Below W.heap.size W w':=by
 have HT:=hid hT
 have HC:=hid fun w (h:Below W.heap.size W w)=>(h.cell (p:=⟨B,0,none⟩) (World.block_lt_of_cell? _ _ hc)).trans hc
 have HIT:=hid fun j (hj:j<n)=>alike_hit (o:=o) (show j<T.length by rw [hT.len];exact hj)
 have HMI:Hid ((∀ j,j<n→((T.getD j tk0).1==o)=false)→z6k o T=false):=hid fun h=>alike_miss fun j hj=>h j (by rw [← hT.len];exact hj)
 have hcap:=hT.cap
 clear hT hc
 go_enter Tryz.func150,Tryz.ntmps150
 go_wp2_with fail
 go_loopw [8] (fun i wr=>∃ j:Nat,j≤n∧i=.int .i64 j∧Hid (Below W.heap.size W wr)∧Hid (∀ i,i<j→((T.getD i tk0).1==o)=false)) (fun i _=>n-(Go.RowKit.intOf i).toNat)
 case atStart=>exact⟨0,Nat.zero_le _,rfl,hid (Below.refl _ _),hid fun i hi=>by omega⟩
 case round =>
  obtain⟨j,hj,rfl,HB,HE⟩:=hrel
  by_cases hlt:j<n
  · have hlt':(j:Int)<n:=by omega
    obtain⟨b,off,rfl,_,k0,k1,k2,k3⟩:=z1g (HT.out.later HB.out) hlt
    have hit:=HIT.out j hlt
    generalize hx:T.getD j tk0=x at *
    obtain⟨o1,a1,w1,z1⟩:=x
    dsimp only at k0 k1 k2 k3 hit
    have hcl:=isalike_any B o o1 a1 w1 z1 wr (HC.out wr HB.out)
    have HX:=hid hx
    have HH:=hid hit
    clear hit hx
    cases hq:(o1==o) with
    | true =>
     rw [hq] at hcl
     have HA:=hid (HH.out hq)
     go_wp2_with fail
     refine hcl.mono ?_
     rintro e w2 ⟨rfl,hb2⟩
     have HB2:=hid (HB.out.trans (hb2.mono HB.out.size))
     clear hcl hb2 k0 k1 k2 k3
     go_wp2_with fail
     go_ret
     exact⟨⟨_,rfl,by rw [HA.out];exact decide_eq_true (by omega)⟩,HB2.out⟩
    | false =>
     rw [hq] at hcl
     have HQ:=hid hq
     go_wp2_with fail
     refine hcl.mono ?_
     rintro e w2 ⟨rfl,hb2⟩
     have HB2:=hid (HB.out.trans (hb2.mono HB.out.size))
     clear hcl hb2 k0 k1 k2 k3
     go_wp2_with fail
     go_roundw
     case rel =>
      refine⟨j+1,by omega,by go_num,HB2,hid fun i hi=>?_⟩
      by_cases e:i=j
      · subst e;rw [HX.out];exact HQ.out
      · exact HE.out i (by omega)
     case measure=>simp [Go.RowKit.intOf];omega
  · obtain rfl:j=n:=by omega
    have HA:=hid (HMI.out HE.out)
    go_wp2_with fail
    go_ret
    exact⟨⟨_,rfl,by rw [HA.out];rfl⟩,HB.out⟩
theorem contains_alike (B:Nat) (o:Int) (p:Option Addr) (n c:Nat) (T:List Tk) (W:World) (hT:TKL W p n c T) (hc:W.cell? ⟨B,0,none⟩=some (.int .u32 o)) (hn:n≤1000) :
 Calls Tryz.prog 136 #[.slice p n c,.func (.func 137) #[] #[.pointer (some ⟨B,0,none⟩)]] W fun e w'=>e=.returned (.bool (z6k o T))∧Below W.heap.size W w':=by
 have hi:=index_alike B o p n c T W hT hc hn
 generalize z6k o T=r at *
 clear hT hc
 go_enter Tryz.func136,Tryz.ntmps136
 go_wp2_with fail
 refine hi.mono ?_
 rintro e w2 ⟨⟨z,rfl,hz⟩,hb⟩
 have HB:=hid hb
 clear hi hb
 cases r with
 | true =>
  go_wp2_with fail
  go_ret
  exact⟨rfl,HB.out⟩
 | false =>
  go_wp2_with fail
  go_ret
  exact⟨rfl,HB.out⟩
def hsOf (t w:Int) (p:Option Addr) (n c:Nat):Hs:=(t,w,p,n,c)
theorem gives_none {W w:World} (hb:Below W.heap.size W w):GivesS W [] (.returned (.slice none 0 0)) w:=⟨none,0,[],rfl,⟨SlG.empty _,trivial⟩,hb⟩
theorem steps_no {P:Pg} (h:z0l 4 4 P=false):z0k P=[]:=by unfold z0k;rw [h];rfl
theorem steps_six (od po:Int) (L:List Ln) (T:List Tk) (M:List Ln) (sk fr to q:Int) (h:z0l 4 4 ⟨6,od,po,L,T,M,sk,fr,to,q⟩=true):z0k ⟨6,od,po,L,T,M,sk,fr,to,q⟩=[(6,fr,[(sk,q)]),(5,to,[(sk,q)])]:=by unfold z0k;rw [if_pos h];rfl
theorem steps_five (od po:Int) (L:List Ln) (T:List Tk) (M:List Ln) (sk fr to q:Int) (h:z0l 4 4 ⟨5,od,po,L,T,M,sk,fr,to,q⟩=true):z0k ⟨5,od,po,L,T,M,sk,fr,to,q⟩=[((5:Int),to,[(sk,q)])]++(if 1≤T.length then [(1,to,[(sk,z1c T [] sk)]),(8,0,[(sk,z1c T [] sk)])] else []):=by unfold z0k;rw [if_pos h];rfl
theorem five_ok (od po:Int) (L:List Ln) (T:List Tk) (M:List Ln) (sk fr to q:Int) (h:z0l 4 4 ⟨5,od,po,L,T,M,sk,fr,to,q⟩=true):okB (z1c T [] sk)=true:=by
 have h2:(z0m 4 4 && askP 4 4 ⟨5,od,po,L,T,M,sk,fr,to,q⟩ && decide ((⟨5,od,po,L,T,M,sk,fr,to,q⟩:Pg)=qofP ⟨5,od,po,L,T,M,sk,fr,to,q⟩))=true:=h
 rw [ask5] at h2
 unfold z2c at h2
 simp only [Bool.and_eq_true] at h2
 exact h2.1.2.2.2.1.2
end Go.Proofs.YtclbkfpbdidaiaaGreatDoor
