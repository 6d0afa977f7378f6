import Derived.Test.YtfdgnniicjdjdaaGreatDoorPY09
import Derived.Test.YtfdgnniicjdjdaaGreatDoorPY13
namespace Go.Proofs.YtfdgnniicjdjdaaGreatDoor
set_option linter.unusedVariables false
set_option maxRecDepth 10000
set_option linter.unusedSimpArgs false
inductive Dw where
 | put (i:Int) (b:List Int)
 | grow (b:List Int)
 | drop (x:Int)
 | cut (x:Int)
def Dw.wt:Dw→Nat
 | .grow b=>b.length
 | _=>0
def Dw.sz:Dw→Nat
 | .put _ b=>b.length
 | .grow b=>b.length
 | _=>0
def dwV (s:Nat) (V:List (List Int)):Dw→List (List Int)
 | .put i b=>z6c s V i b s
 | _=>V
def dwT (z:Nat) (t:TS):Dw→TS
 | .grow b=>appT t b
 | .drop x=>z7y z t x
 | .cut x=>cutT z t x
 | .put _ _=>t
def dwVn (s:Nat) (n:Int) (V:List (List Int)):Dw→List (List Int)
 | .put i b=>z6c s V i b (kp n s)
 | _=>V
def dwTn (n:Int) (t:TS):Dw→TS
 | .grow b=>appT t (b.take (kp n b.length))
 | _=>t
def z5h (s:Nat) (V:List (List Int)) (L:List Dw):List (List Int):=L.foldl (dwV s) V
def z2y (z:Nat) (t:TS) (L:List Dw):TS:=L.foldl (dwT z) t
theorem z7x (s:Nat) (V:List (List Int)) (L:List Dw) (x:Dw):z5h s V (L ++ [x])=dwV s (z5h s V L) x:=by simp [z5h]
theorem z5v (z:Nat) (t:TS) (L:List Dw) (x:Dw):z2y z t (L ++ [x])=dwT z (z2y z t L) x:=by simp [z2y]
theorem dwV_len (s:Nat) (V:List (List Int)) (x:Dw):(dwV s V x).length=V.length:=by
 cases x <;> simp [dwV,tearV_len]
theorem z5o (s:Nat):∀ (L:List Dw) (V:List (List Int)),(z5h s V L).length=V.length
 | [],V=>rfl
 | x::L,V=>by
  show (z5h s (dwV s V x) L).length=_
  rw [z5o s L,dwV_len]
def TS.len (z:Nat) (t:TS):Nat:=t.f*z+t.B.length
def wts (L:List Dw):Nat:=(L.map Dw.wt).sum
theorem wts_snoc (L:List Dw) (x:Dw):wts (L ++ [x])=wts L+x.wt:=by simp [wts]
theorem wts_cons (L:List Dw) (x:Dw):wts (x::L)=x.wt+wts L:=by simp [wts]
theorem dwT_len {z:Nat} (hz:0<z) (t:TS) (x:Dw):(dwT z t x).len z≤t.len z+x.wt:=by
 unfold TS.len
 cases x with
 | put i b=>simp [dwT,Dw.wt]
 | grow b=>simp only [dwT,Dw.wt,appT,List.length_append];omega
 | drop k=>have:=drop_len hz t k;simp only [dwT,Dw.wt];omega
 | cut k =>
  have h1:=cut_len z t k
  have h2:=(z7a z t k).2
  have h3:(cutT z t k).f=t.f:=rfl
  simp only [dwT,Dw.wt]
  rw [h3]
  omega
theorem z9d {z:Nat} (hz:0<z):∀ (L:List Dw) (t:TS),(z2y z t L).len z≤t.len z+wts L
 | [],t=>by simp [z2y,wts]
 | x::L,t=>by
  have h1:=z9d hz L (dwT z t x)
  have h2:=dwT_len hz t x
  rw [wts_cons]
  show (z2y z (dwT z t x) L).len z≤_
  omega
theorem wts_take_drop (L:List Dw) (k:Nat):wts (L.take k)+wts (L.drop k)=wts L:=by
 unfold wts
 rw [← List.sum_append,← List.map_append,List.take_append_drop]
structure DS where
 M:Nat
 a:Int
 z:Nat
 s:Nat
 V:List (List Int)
 t:TS
 L:List Dw
def DS.sV (d:DS):List (List Int):=z5h d.s d.V d.L
def DS.sT (d:DS):TS:=z2y d.z d.t d.L
def DS.add (d:DS) (x:Dw):DS:={ d with L:=d.L ++ [x] }
def DS.tot (d:DS):Nat:=d.t.len d.z+wts d.L
theorem q2d (d:DS) (x:Dw):(d.add x).sV=dwV d.s d.sV x:=z7x ..
theorem q1j (d:DS) (x:Dw):(d.add x).sT=dwT d.z d.sT x:=z5v ..
theorem z9g (d:DS) (x:Dw):(d.add x).tot=d.tot+x.wt:=by
 show d.t.len d.z+wts (d.L ++ [x])=d.t.len d.z+wts d.L+x.wt
 rw [wts_snoc]
 omega
theorem DS.sT_len (d:DS) (hz:0<d.z):d.sT.len d.z≤d.tot:=z9d hz d.L d.t
def DS.sync (d:DS):DS:={ d with V:=d.sV,t:=d.sT,L:=[] }
theorem sync_tot (d:DS) (hz:0<d.z):d.sync.tot≤d.tot:=by
 have:=d.sT_len hz
 show d.sT.len d.z+wts []≤d.tot
 simp only [wts,List.map_nil,List.sum_nil]
 omega
def DS.putE (d:DS) (i:Int) (b:List Int):Int:=z8w d.s d.V i b
def DS.addE (d:DS) (b:List Int):Int:=if 65536<b.length then 7 else if (d.M:Int)<(d.sT.B.length:Int)+b.length then 4 else 0
theorem tearE_len (s:Nat) {V V':List (List Int)} (h:V.length=V'.length) (i:Int) (b:List Int):z8w s V i b=z8w s V' i b:=by unfold z8w;rw [h]
theorem putE_seen (d:DS) (i:Int) (b:List Int):z8w d.s d.sV i b=d.putE i b:=tearE_len _ (z5o ..) i b
def DS.put (d:DS) (i:Int) (b:List Int):DS:=if d.putE i b=0 then d.add (.put i b) else d
def DS.app (d:DS) (b:List Int):DS:=if d.addE b=0 then d.add (.grow b) else d
end Go.Proofs.YtfdgnniicjdjdaaGreatDoor
