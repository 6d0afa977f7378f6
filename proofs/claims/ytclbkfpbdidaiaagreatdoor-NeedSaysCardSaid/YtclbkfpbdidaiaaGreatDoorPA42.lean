import Derived.Test.YtclbkfpbdidaiaaGreatDoorPA16
import Derived.Deep.Cut
namespace Go.Proofs.YtclbkfpbdidaiaaGreatDoor
open Go.RowKit Go.ChangeShapes Go.WideShapes
set_option linter.unusedVariables false
set_option linter.unusedSimpArgs false
set_option maxRecDepth 10000
structure FB (W wr:World) (v:Value) (L:List Nat):Prop where
 row:Row wr v L.length L
 below:Below W.heap.size W wr
 own:∀ k,v.ownBlock=some k→W.heap.size≤k
theorem FB.later {W wr w':World} {v:Value} {L:List Nat} (h:FB W wr v L) (hb:Below wr.heap.size wr w'):FB W w' v L :=
 ⟨h.row.keep fun k hk=>hb.block k (h.row.bound k hk),h.below.trans (hb.mono h.below.size),h.own⟩
theorem FB.app {W w w':World} {v:Value} {L M:List Nat} {n m:Nat} {p:Option Addr} {c:Nat} (h:FB W w v L) (hM:∀ x∈M,x<256) (h1:w'.ownsRow 0 5 1 (.slice p (n+m) c) (n+m) (vL L++vL M)) (h2:Chg (fun b=>v.ownBlock=some b) w w') (h3:∀ b,(Value.slice p (n+m) c).ownBlock=some b→v.ownBlock=some b∨w.heap.size≤b):FB W w' (.slice p (n+m) c) (L++M):=by
 rw [← vL_append] at h1
 have hl:(L++M).length=n+m:=by have:=h1.1;rw [z1p] at this;omega
 refine⟨?_,Chg.below h.below h.below.size h2 h.own,fun k hk=>?_⟩
 · rw [hl]
   exact⟨hl,fun x hx=>by rcases List.mem_append.1 hx with hx | hx;exact h.row.lt x hx;exact hM x hx,h1⟩
 · rcases h3 k hk with hk | hk
   · exact h.own k hk
   · exact Nat.le_trans h.below.size hk
theorem byte_news (w:World) (cs:Array Value) (M:List Nat) (hc:cs.toList=vL M):∀ ad,(some (⟨w.heap.size,0,none⟩:Addr))=some ad→∀ j u,(vL M)[j]?=some u→(w.alloc (.cells cs 5)).cell? (ad.add j)=some u:=by
 intro ad he j u hu
 cases he
 rw [Go.WideShapes.add_plain,Nat.zero_add]
 refine z0a (z0c w _) ?_
 rw [← hc] at hu
 simpa using hu
theorem FB.lit {W w:World} {cs:Array Value} {M:List Nat} {m:Nat} (hb:Below W.heap.size W w) (hc:cs.toList=vL M) (hm:M.length=m) (hbig:m≤1000) (hM:∀ x∈M,x<256):FB W (w.alloc (.cells cs 5)) (.slice (some ⟨w.heap.size,0,none⟩) m m) M:=by
 have hs:cs.size=m*1:=by rw [← Array.length_toList,hc,z1p,hm];omega
 have ho:=World.ownsRow_lit (e:=5) (base:=0) (size:=1) w cs m (Nat.zero_le _) (by unfold maxLen;omega) hs
 rw [hc] at ho
 exact⟨by rw [hm];exact⟨hm,hM,ho⟩,hb.alloc hb.size _,fun k hk=>by have:w.heap.size=k:=Option.some.inj hk;have:=hb.size;omega⟩
theorem z2e {w:World} {p:Option Addr} {n c:Nat} {L:List Nat} (h:Sl w p n c L):∀ ad,p=some ad→∀ j u,(vL L)[j]?=some u→w.cell? (ad.add j)=some u:=by
 intro ad ha j u hu
 have hj:j<L.length:=by have:=(List.getElem?_eq_some_iff.1 hu).1;rwa [z1p] at this
 have hn:=h.len
 obtain⟨b,off,rfl,_,hc⟩:=h.blk (by omega)
 cases ha
 rw [vL_at L j hj] at hu
 rw [Go.WideShapes.add_plain]
 rw [hc j (by omega)]
 exact hu
theorem z2d {w:World} {p:Option Addr} {n c:Nat} {L:List Nat} (h:Sl w p n c L):p=none→n=0∧c=0:=fun hp=>by
 have h1:=h.nil hp
 have h2:=h.cap
 exact⟨by omega,h1⟩
theorem le_one {x:Nat} (h:x<256):le x 1=[x]:=by
 show [x % 256]=[x]
 rw [Nat.mod_eq_of_lt h]
theorem rint_q (q:Int) (w:World) (hq:In64 q):Calls Tryz.prog 120 #[.int .i64 q] w (Copied w 8 (le (u64 q) 8)):=by
 have:=rint_any (u64 q) w (u64_lt q)
 rwa [sgn_u64 hq] at this
theorem u8_small (a:Nat) (h:a<256):IntKind.u8.wrap (a:Int)=a:=by simp [IntKind.wrap,IntKind.bits,IntKind.signed];omega
end Go.Proofs.YtclbkfpbdidaiaaGreatDoor
