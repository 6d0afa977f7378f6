import Derived.Test.YtclbkfpbdidaiaaDoorPA22
import Derived.LaidMore
namespace Go.Proofs.YtclbkfpbdidaiaaDoor
open Go.RowKit Go.ChangeShapes Go.WideShapes
set_option linter.unusedVariables false
set_option maxRecDepth 10000
def wordsL:List (List UInt8):=[[],[116,97,107,101],[102,114,101,101],[115,101,110,100],[98,97,99,107],[112,117,116],[100,114,97,119],[111,119,101],[112,97,121]]
def wordB (t:Nat):ByteArray:=⟨(wordsL.getD t []).toArray⟩
theorem cells_of_strs {H:Type} {enc:TypeId × Value→H} {P:Program} {w:World} {base:Nat} {sp:Nat→Bool} {held:Bool} {fuel:Nat} {t e:TypeId} {n:Nat} {cs:List Value} {zs:List (List UInt8)} {p:List MemPlace}
 (ht:P.underlying t=some (.array n e)) (he:P.underlying e=some .string) (hce:P.cellsOf e=1) (hct:P.cellsOf t=n)
 (h:DataW.trod enc P w base sp held fuel t cs=some (.agg (zs.map fun z=>.lit (.string z)),p)):cs=zs.map fun z=>Value.string ⟨z.toArray⟩:=by
 cases fuel with
 | zero=>simp [DataW.trod] at h
 | succ fuel =>
  simp only [DataW.trod,ht,hce,hct,Nat.mul_one] at h
  split at h
  · rename_i hl
    obtain⟨xs,hm,hx⟩:=Option.map_eq_some_iff.1 h
    have hxs:xs.map (·.1)=zs.map fun z=>(DataW.lit (.string z):DataW H):=by
     have:=congrArg Prod.fst hx
     simpa using this
    have hxl:xs.length=n:=by simpa using Lib.mapM_length hm
    have hzl:zs.length=n:=by
     have:=congrArg List.length hxs
     simp at this
     omega
    apply List.ext_getElem?
    intro i
    by_cases hi:i<n
    · obtain⟨b,hb,hf⟩:=Lib.mapM_at hm i i (by simp [hi])
      obtain⟨z,hc,rfl,_⟩:=DataW.trod_string he hf
      have h1:cs[i]?=some (.string z):=by
       have:=congrArg (·[0]?) hc
       simpa [List.getElem?_take,List.getElem?_drop] using this
      have h2:(xs.map (·.1))[i]?=some (DataW.lit (.string z.data.toList):DataW H):=by simp [hb]
      rw [hxs] at h2
      simp only [List.getElem?_map,Option.map_eq_some_iff,DataW.lit.injEq,Lit.string.injEq] at h2
      obtain⟨z',hz',hzz⟩:=h2
      have hz2:(⟨z'.toArray⟩:ByteArray)=z:=by rw [hzz]
      simp [h1,hz',hz2]
    · rw [List.getElem?_eq_none (by omega),List.getElem?_eq_none (by simp;omega)]
  · cases h
def Words (W : World) : Prop := W.var? Tryd.prog "pledge/step.words" = some (wordsL.map fun z => Value.string ⟨z.toArray⟩).toArray
theorem gWords : Tryd.prog.globalNamed "pledge/step.words" = some 0 := by kernel_rfl
theorem tWords:(Tryd.prog.globals[0]?).map (·.type)=some 135:=by kernel_rfl
theorem Words.later {W W':World} (h:Words W) (hb:Below W.heap.size W W'):Words W':=Go.Joins.var_stays gWords h hb (Nat.le_refl _)
theorem Words.cell {W:World} (h:Words W) (t:Nat) (ht:t<9):W.cell? ⟨0,t,none⟩=some (.string (wordB t)):=by
 have:=World.var?_cell gWords h t
 rw [this]
 rcases (by omega:t=0∨t=1∨t=2∨t=3∨t=4∨t=5∨t=6∨t=7∨t=8) with rfl | rfl | rfl | rfl | rfl | rfl | rfl | rfl | rfl <;> rfl
theorem tagword_any (t:Int) (h0:0≤t) (h255:t≤255) (W:World) (hw:Words W) :
 Calls Tryd.prog 87 #[.int .u8 t] W fun e w'=>e=.returned (.string (wordB t.toNat))∧w'=W:=by
 by_cases h9:t<9
 · obtain⟨k,rfl⟩:∃ k:Nat,t=(k:Int):=⟨t.toNat,by omega⟩
   have hc:=hw.cell k (by omega)
   have hd:decide (9≤(k:Int))=false:=decide_eq_false (by omega)
   have hk:((k:Nat):Int).toNat=k:=rfl
   rw [hk]
   generalize wordB k=s at *
   clear hw hk
   go_enter Tryd.func87,Tryd.ntmps87
   go_wp2_with fail
   go_ret
   exact⟨rfl,rfl⟩
 · have hd:decide (9≤t)=true:=decide_eq_true (by omega)
   have hk:wordB t.toNat=⟨#[]⟩:=by
    unfold wordB wordsL
    rw [List.getD,List.getElem?_eq_none (by simp;omega)];rfl
   rw [hk]
   clear hw hk
   go_enter Tryd.func87,Tryd.ntmps87
   go_wp2_with fail
   go_ret
   exact⟨rfl,rfl⟩
theorem lineB_at (s:Int) (L:List Ln) (j:Nat) (x:Ln) (h:L.getD j l0=x):z1t s L j=(decide (x.1<s) && decide (1≤x.2) && (decide (j=0) || decide ((L.getD (j-1) l0).1<x.1))):=by
 unfold z1t
 rw [h]
theorem good_not (s w t r:Int) (L:List Ln) (h:z0o s w=false∨¬ (1≤t∧t≤8)∨L.length=0∨z0l s L=false):goodS s w t r L=false:=by
 unfold goodS
 rcases h with h | h | h | h
 · simp [h]
 · rw [decide_eq_false h];simp
 · rw [decide_eq_false (show ¬ 1≤L.length by omega)];simp
 · simp [h]
theorem z0d (k od po:Int) (lp:Option Addr) (ln lcp:Nat) (tp:Option Addr) (tn tcp:Nat) (wp:Option Addr) (wn wcp:Nat) (sk fr to q:Int) {w:World} {X:Nat} (hx:w.heap[X]?=some (.cells #[.int .u8 k,.int .u32 od,.int .u8 po,.slice lp ln lcp,.slice tp tn tcp,.slice wp wn wcp,.int .u8 sk,.int .u8 fr,.int .u8 to,.int .i64 q] 33 (0,0))) :
 w.cell? ⟨X,0,none⟩=some (.int .u8 k)∧w.cell? ⟨X,1,none⟩=some (.int .u32 od)∧w.cell? ⟨X,2,none⟩=some (.int .u8 po)∧w.cell? ⟨X,3,none⟩=some (.slice lp ln lcp)∧w.cell? ⟨X,4,none⟩=some (.slice tp tn tcp)∧w.cell? ⟨X,5,none⟩=some (.slice wp wn wcp)∧w.cell? ⟨X,6,none⟩=some (.int .u8 sk)∧w.cell? ⟨X,7,none⟩=some (.int .u8 fr)∧w.cell? ⟨X,8,none⟩=some (.int .u8 to)∧w.cell? ⟨X,9,none⟩=some (.int .i64 q) :=
 ⟨z0a hx rfl,z0a hx rfl,z0a hx rfl,z0a hx rfl,z0a hx rfl,z0a hx rfl,z0a hx rfl,z0a hx rfl,z0a hx rfl,z0a hx rfl⟩
abbrev Hs:=Int × Int × Option Addr × Nat × Nat
abbrev hs0:Hs:=(0,0,none,0,0)
def sc (h:Hs):List Value:=[.int .u8 h.1,.int .u8 h.2.1,.slice h.2.2.1 h.2.2.2.1 h.2.2.2.2]
theorem sc_len (h:Hs):(sc h).length=3:=rfl
theorem sc_one (h:Hs):∀ u∈sc h,u.oneCell'=true:=by
 intro u hu
 simp only [sc,List.mem_cons,List.not_mem_nil,or_false] at hu
 rcases hu with rfl | rfl | rfl <;> rfl
def Tells (w:World) (h:Hs) (s:Stp):Prop:=h.1=s.1∧h.2.1=s.2.1∧LL w h.2.2.1 h.2.2.2.1 h.2.2.2.2 s.2.2
theorem Tells.later {w w':World} {h:Hs} {s:Stp} (ht:Tells w h s) (hb:Below w.heap.size w w'):Tells w' h s:=⟨ht.1,ht.2.1,ht.2.2.later hb⟩
def TellsAll (w:World):List Hs→List Stp→Prop
 | [],[]=>True
 | h::H,s::S=>Tells w h s∧TellsAll w H S
 | _,_=>False
theorem TellsAll.later {w w':World} (hb:Below w.heap.size w w'):∀ {H:List Hs} {S:List Stp},TellsAll w H S→TellsAll w' H S
 | [],[],_=>trivial
 | _::_,_::_,h=>⟨h.1.later hb,TellsAll.later hb h.2⟩
 | [],_::_,h=>h.elim
 | _::_,[],h=>h.elim
theorem TellsAll.len {w:World}:∀ {H:List Hs} {S:List Stp},TellsAll w H S→H.length=S.length
 | [],[],_=>rfl
 | _::_,_::_,h=>by rw [List.length_cons,List.length_cons,TellsAll.len h.2]
 | [],_::_,h=>h.elim
 | _::_,[],h=>h.elim
theorem TellsAll.append {w:World}:∀ {H H':List Hs} {S S':List Stp},TellsAll w H S→TellsAll w H' S'→TellsAll w (H++H') (S++S')
 | [],_,[],_,_,h=>h
 | _::_,_,_::_,_,h,h'=>⟨h.1,TellsAll.append h.2 h'⟩
 | [],_,_::_,_,h,_=>h.elim
 | _::_,_,[],_,h,_=>h.elim
theorem TellsAll.at {w:World}:∀ {H:List Hs} {S:List Stp} (j:Nat),TellsAll w H S→j<H.length→Tells w (H.getD j hs0) (S.getD j (0,0,[]))
 | _::_,_::_,0,h,_=>h.1
 | _::_,_::_,j+1,h,hj=>by simpa using TellsAll.at j h.2 (by simpa using hj)
 | [],[],j,_,hj=>by simp at hj
 | [],_::_,_,h,_=>h.elim
 | _::_,[],_,h,_=>h.elim
abbrev HL (w:World) (p:Option Addr) (n c:Nat) (H:List Hs):Prop:=SlG sc 3 hs0 w p n c H
structure SL (w:World) (p:Option Addr) (n c:Nat) (H:List Hs) (S:List Stp):Prop where
 row:HL w p n c H
 tells:TellsAll w H S
theorem SL.later {w w':World} {p:Option Addr} {n c:Nat} {H:List Hs} {S:List Stp} (h:SL w p n c H S) (hb:Below w.heap.size w w'):SL w' p n c H S:=⟨h.row.later hb,h.tells.later hb⟩
theorem info_step:(Tryd.prog.info? 24).map (fun i=>(i.zero,i.size,i.bytes))=some (some (.agg #[.int .u8 0,.int .u8 0,.slice none 0 0]),3,32):=by kernel_rfl
structure FillS (W wr:World) (v:Value) (H:List Hs) (S:List Stp) (N:Nat):Prop where
 own:wr.ownsRow W.heap.size 24 3 v H.length (z0m sc H)
 below:Below W.heap.size W wr
 most:H.length≤N
 tells:TellsAll wr H S
 apart:∀ h∈H,0<h.2.2.2.1→∀ ad,h.2.2.1=some ad→v.ownBlock≠some ad.block
theorem FillS.nil (W:World):FillS W W (.slice none 0 0) [] [] 0:=⟨World.ownsRow_nil _ _ _ _,Below.refl _ _,Nat.le_refl _,trivial,fun h hh=>by cases hh⟩
theorem FillS.later {W wr w':World} {v:Value} {H:List Hs} {S:List Stp} {N:Nat} (h:FillS W wr v H S N) (hb:Below wr.heap.size wr w'):FillS W w' v H S N:=by
 refine⟨⟨h.own.1,?_⟩,h.below.trans (hb.mono h.below.size),h.most,h.tells.later hb,h.apart⟩
 rcases h.own.2 with hn | ⟨g,cap,cur,rfl,h1,h2,h3⟩
 · exact .inl hn
 · exact .inr ⟨g,cap,cur,rfl,h1,(hb.block g (Array.getElem?_eq_some_iff.1 h2).1).trans h2,h3⟩
theorem FillS.mono {W wr:World} {v:Value} {H:List Hs} {S:List Stp} {N K:Nat} (h:FillS W wr v H S N) (hn:N≤K):FillS W wr v H S K:=⟨h.own,h.below,Nat.le_trans h.most hn,h.tells,h.apart⟩
def GivesS (W:World) (S:List Stp) (e:Ending) (w':World):Prop:=∃ p c H,e=.returned (.slice p S.length c)∧SL w' p S.length c H S∧Below W.heap.size W w'
theorem FillS.gives {W wr:World} {v:Value} {H:List Hs} {S:List Stp} {N:Nat} (h:FillS W wr v H S N):GivesS W S (.returned v) wr:=by
 obtain⟨p,c,rfl,hs,hp⟩:=SlG.of_own (d:=hs0) sc_len (by decide) h.own
 rw [h.tells.len] at hs ⊢
 exact⟨p,c,H,rfl,⟨hs,h.tells⟩,h.below⟩
theorem GivesS.since {W W2:World} {S:List Stp} {e:Ending} {w':World} (h:GivesS W2 S e w') (hb:Below W.heap.size W W2):GivesS W S e w':=by
 obtain⟨p,c,H,rfl,hs,hb2⟩:=h
 exact⟨p,c,H,rfl,hs,hb.trans (hb2.mono hb.size)⟩
theorem step_news {w:World} {B:Nat} {c:Array Value} {H:List Hs} (h:w.heap[B]?=some (.cells c 24 (0,0))) (hc:c.toList=z0m sc H):∀ ad,(some (⟨B,0,none⟩:Addr))=some ad→∀ j u,(z0m sc H)[j]?=some u→w.cell? (ad.add j)=some u:=by
 intro ad he j u hu
 cases he
 rw [Go.WideShapes.add_plain,Nat.zero_add]
 refine z0a h ?_
 rw [← hc] at hu
 simpa using hu
theorem wpList_append_steps {W w:World} {ops:Array Oper} {rest:List Oper} {o:Oper} {a:Act} {Q:Exit→Act→World→Prop} (hgd:o.guard=none) (s x:Operand)
 (ho:o.op=.call { callee:=.builtin .append,args:=#[s,x],argTypes:=#[39,39] })
 (v:Value) (H:List Hs) (S:List Stp) (N:Nat) (hs:a.eval s=v) (hF:FillS W w v H S N) (B m:Nat) (H':List Hs) (S':List Stp) (hx:a.eval x=.slice (some ⟨B,0,none⟩) m m) (hm:H'.length=m)
 (hnews:∀ ad,(some (⟨B,0,none⟩:Addr))=some ad→∀ j u,(z0m sc H')[j]?=some u→w.cell? (ad.add j)=some u) (hT:TellsAll w H' S') (hapart':∀ h∈H',0<h.2.2.2.1→∀ ad,h.2.2.1=some ad→v.ownBlock≠some ad.block) (hbig:N+m≤1000000)
 (h:∀ p' n' c' w',FillS W w' (.slice p' n' c') (H++H') (S++S') (N+m)→wpList Tryd.prog ops Q rest (a.put o.dst (.slice p' n' c')) w'):wpList Tryd.prog ops Q (o::rest) a w:=by
 have hmost:=hF.most
 have hapart:∀ h∈H++H',0<h.2.2.2.1→∀ ad,h.2.2.1=some ad→v.ownBlock≠some ad.block:=fun h hh=>by
  rcases List.mem_append.1 hh with hh | hh
  · exact hF.apart h hh
  · exact hapart' h hh
 have hold:∀ {K:List Hs} {R:List Stp},TellsAll w K R→∀ h∈K,0<h.2.2.2.1→∀ ad,h.2.2.1=some ad→ad.block<w.heap.size:=by
  intro K
  induction K with
  | nil=>intro R _ h hh;cases hh
  | cons g K ih=>intro R ht h hh h0 ad he;cases R with
   | nil=>exact ht.elim
   | cons s R =>
    rcases List.mem_cons.1 hh with rfl | hh
    · obtain⟨b,off,hp,hlt,_⟩:=ht.1.2.2.cell h0
      rw [he] at hp
      cases hp
      exact hlt
    · exact ih ht.2 h hh h0 ad he
 refine z0z (k:=3) (by decide) Tryd.underlying39 info_step rfl (by omega) hgd s x ho v H.length (z0m sc H) hs (z1k hF.own) (some ⟨B,0,none⟩) m m (z0m sc H') hx (by rw [z1e sc_len,hm]) (fun h=>by cases h) hnews (z1c sc_one H') (by omega) fun p' c' w' h1 h2 h3=>?_
 rw [← z0x] at h1
 have htell:∀ {K:List Hs} {R:List Stp},(∀ h∈K,0<h.2.2.2.1→∀ ad,h.2.2.1=some ad→v.ownBlock≠some ad.block)→TellsAll w K R→TellsAll w' K R:=by
  intro K
  induction K with
  | nil=>intro R _ hh;cases R with
   | nil=>trivial
   | cons s R=>exact hh.elim
  | cons g K ih=>intro R ha hh;cases R with
   | nil=>exact hh.elim
   | cons s R =>
    refine⟨⟨hh.1.1,hh.1.2.1,?_⟩,ih (fun x hx=>ha x (List.mem_cons.2 (.inr hx))) hh.2⟩
    exact hh.1.2.2.turn h2.size fun h0 ad he hlt=>h2.block ad.block hlt (ha g (List.mem_cons.2 (.inl rfl)) h0 ad he)
 have hall:=htell hapart (hF.tells.append hT)
 refine h p' (H.length+m) c' w' ⟨?_,Chg.below hF.below hF.below.size h2 fun k hk=>(hF.own.lt k hk).1,by rw [List.length_append,hm];omega,hall,fun g hg h0 ad he hb=>?_⟩
 · have hlen:(H++H').length=H.length+m:=by rw [List.length_append,hm]
   rw [hlen]
   refine⟨h1.1,?_⟩
   rcases h1.2 with hn | ⟨g,cap,cur,he,g1,g2,g3⟩
   · exact .inl hn
   · refine .inr ⟨g,cap,cur,he,?_,g2,g3⟩
     rcases h3 g (by rw [he];rfl) with hk | hk
     · exact (hF.own.lt g hk).1
     · exact Nat.le_trans hF.below.size hk
 · rcases h3 ad.block hb with hk | hk
   · exact hapart g hg h0 ad he hk
   · exact absurd (hold (hF.tells.append hT) g hg h0 ad he) (by omega)
theorem z2f {W w:World} {ops:Array Oper} {o:Oper} {a:Act} {K:Act→World→Prop} {Q:Exit→Act→World→Prop} {E:Prop} (hgd:o.guard=none) (s x:Operand)
 (ho:o.op=.call { callee:=.builtin .append,args:=#[s,x],argTypes:=#[39,39] })
 (v:Value) (H:List Hs) (S:List Stp) (N:Nat) (hs:a.eval s=v) (hF:FillS W w v H S N) (B m:Nat) (H':List Hs) (S':List Stp) (hx:a.eval x=.slice (some ⟨B,0,none⟩) m m) (hm:H'.length=m)
 (hnews:∀ ad,(some (⟨B,0,none⟩:Addr))=some ad→∀ j u,(z0m sc H')[j]?=some u→w.cell? (ad.add j)=some u) (hT:TellsAll w H' S') (hapart':∀ h∈H',0<h.2.2.2.1→∀ ad,h.2.2.1=some ad→v.ownBlock≠some ad.block) (hbig:N+m≤1000000)
 (h:∀ p' n' c' w',FillS W w' (.slice p' n' c') (H++H') (S++S') (N+m)→K (a.put o.dst (.slice p' n' c')) w') :
 if Region.wanted o (yielded ops a.tmps)=true then Oper.wp Tryd.prog o a w K Q else E:=by
 have hmost:=hF.most
 have hapart:∀ h∈H++H',0<h.2.2.2.1→∀ ad,h.2.2.1=some ad→v.ownBlock≠some ad.block:=fun h hh=>by
  rcases List.mem_append.1 hh with hh | hh
  · exact hF.apart h hh
  · exact hapart' h hh
 have hold:∀ {K:List Hs} {R:List Stp},TellsAll w K R→∀ h∈K,0<h.2.2.2.1→∀ ad,h.2.2.1=some ad→ad.block<w.heap.size:=by
  intro K
  induction K with
  | nil=>intro R _ h hh;cases hh
  | cons g K ih=>intro R ht h hh h0 ad he;cases R with
   | nil=>exact ht.elim
   | cons s R =>
    rcases List.mem_cons.1 hh with rfl | hh
    · obtain⟨b,off,hp,hlt,_⟩:=ht.1.2.2.cell h0
      rw [he] at hp
      cases hp
      exact hlt
    · exact ih ht.2 h hh h0 ad he
 refine z0r (k:=3) (by decide) Tryd.underlying39 info_step rfl (by omega) hgd s x ho v H.length (z0m sc H) hs (z1k hF.own) (some ⟨B,0,none⟩) m m (z0m sc H') hx (by rw [z1e sc_len,hm]) (fun h=>by cases h) hnews (z1c sc_one H') (by omega) fun p' c' w' h1 h2 h3=>?_
 rw [← z0x] at h1
 have htell:∀ {K:List Hs} {R:List Stp},(∀ h∈K,0<h.2.2.2.1→∀ ad,h.2.2.1=some ad→v.ownBlock≠some ad.block)→TellsAll w K R→TellsAll w' K R:=by
  intro K
  induction K with
  | nil=>intro R _ hh;cases R with
   | nil=>trivial
   | cons s R=>exact hh.elim
  | cons g K ih=>intro R ha hh;cases R with
   | nil=>exact hh.elim
   | cons s R =>
    refine⟨⟨hh.1.1,hh.1.2.1,?_⟩,ih (fun x hx=>ha x (List.mem_cons.2 (.inr hx))) hh.2⟩
    exact hh.1.2.2.turn h2.size fun h0 ad he hlt=>h2.block ad.block hlt (ha g (List.mem_cons.2 (.inl rfl)) h0 ad he)
 have hall:=htell hapart (hF.tells.append hT)
 refine h p' (H.length+m) c' w' ⟨?_,Chg.below hF.below hF.below.size h2 fun k hk=>(hF.own.lt k hk).1,by rw [List.length_append,hm];omega,hall,fun g hg h0 ad he hb=>?_⟩
 · have hlen:(H++H').length=H.length+m:=by rw [List.length_append,hm]
   rw [hlen]
   refine⟨h1.1,?_⟩
   rcases h1.2 with hn | ⟨g,cap,cur,he,g1,g2,g3⟩
   · exact .inl hn
   · refine .inr ⟨g,cap,cur,he,?_,g2,g3⟩
     rcases h3 g (by rw [he];rfl) with hk | hk
     · exact (hF.own.lt g hk).1
     · exact Nat.le_trans hF.below.size hk
 · rcases h3 ad.block hb with hk | hk
   · exact hapart g hg h0 ad he hk
   · exact absurd (hold (hF.tells.append hT) g hg h0 ad he) (by omega)
end Go.Proofs.YtclbkfpbdidaiaaDoor
