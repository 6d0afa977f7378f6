import Derived.Test.YtfdgnniicjdjdaaGreatDoorPS09
import Derived.Test.YtfdgnniicjdjdaaGreatDoorPS13
namespace Go.Proofs.YtfdgnniicjdjdaaGreatDoor
set_option linter.unusedVariables false
set_option maxRecDepth 10000
set_option linter.unusedSimpArgs false
inductive Dw where
 | put (i:Int) (b:List Int)
 | grow (b:List Int)
 | drop (x:Int)
 | cut (x:Int)
def Dw.wt:Dw→Nat
 | .grow b=>b.length
 | _=>0
def dwV (s:Nat) (V:List (List Int)):Dw→List (List Int)
 | .put i b=>tearV s V i b s
 | _=>V
def dwT (z:Nat) (t:TS):Dw→TS
 | .grow b=>appT t b
 | .drop x=>q0t z t x
 | .cut x=>cutT z t x
 | .put _ _=>t
def q1i (s:Nat) (V:List (List Int)) (L:List Dw):List (List Int):=L.foldl (dwV s) V
def z8t (z:Nat) (t:TS) (L:List Dw):TS:=L.foldl (dwT z) t
theorem foldV_snoc (s:Nat) (V:List (List Int)) (L:List Dw) (x:Dw):q1i s V (L ++ [x])=dwV s (q1i s V L) x:=by simp [q1i]
theorem foldT_snoc (z:Nat) (t:TS) (L:List Dw) (x:Dw):z8t z t (L ++ [x])=dwT z (z8t z t L) x:=by simp [z8t]
def TS.len (z:Nat) (t:TS):Nat:=t.f*z+t.B.length
def wts (L:List Dw):Nat:=(L.map Dw.wt).sum
theorem wts_snoc (L:List Dw) (x:Dw):wts (L ++ [x])=wts L+x.wt:=by simp [wts]
theorem wts_cons (L:List Dw) (x:Dw):wts (x::L)=x.wt+wts L:=by simp [wts]
theorem dwT_len {z:Nat} (hz:0<z) (t:TS) (x:Dw):(dwT z t x).len z≤t.len z+x.wt:=by
 unfold TS.len
 cases x with
 | put i b=>simp [dwT,Dw.wt]
 | grow b=>simp only [dwT,Dw.wt,appT,List.length_append];omega
 | drop k=>have:=drop_len hz t k;simp only [dwT,Dw.wt];omega
 | cut k =>
  have h1:=cut_len z t k
  have h2:=(z9o z t k).2
  have h3:(cutT z t k).f=t.f:=rfl
  simp only [dwT,Dw.wt]
  rw [h3]
  omega
theorem z9r {z:Nat} (hz:0<z):∀ (L:List Dw) (t:TS),(z8t z t L).len z≤t.len z+wts L
 | [],t=>by simp [z8t,wts]
 | x::L,t=>by
  have h1:=z9r hz L (dwT z t x)
  have h2:=dwT_len hz t x
  rw [wts_cons]
  show (z8t z (dwT z t x) L).len z≤_
  omega
theorem wts_take_drop (L:List Dw) (k:Nat):wts (L.take k)+wts (L.drop k)=wts L:=by
 unfold wts
 rw [← List.sum_append,← List.map_append,List.take_append_drop]
structure DS where
 M:Nat
 a:Int
 z:Nat
 s:Nat
 V:List (List Int)
 t:TS
 L:List Dw
def DS.sV (d:DS):List (List Int):=q1i d.s d.V d.L
def DS.sT (d:DS):TS:=z8t d.z d.t d.L
def DS.add (d:DS) (x:Dw):DS:={ d with L:=d.L ++ [x] }
def DS.tot (d:DS):Nat:=d.t.len d.z+wts d.L
theorem q2s (d:DS) (x:Dw):(d.add x).sV=dwV d.s d.sV x:=foldV_snoc ..
theorem q2b (d:DS) (x:Dw):(d.add x).sT=dwT d.z d.sT x:=foldT_snoc ..
theorem DS.sT_len (d:DS) (hz:0<d.z):d.sT.len d.z≤d.tot:=z9r hz d.L d.t
def DS.sync (d:DS):DS:={ d with V:=d.sV,t:=d.sT,L:=[] }
def DS.putE (d:DS) (i:Int) (b:List Int):Int:=tearE d.s d.V i b
def DS.addE (d:DS) (b:List Int):Int:=if 65536<b.length then 7 else if (d.M:Int)<(d.sT.B.length:Int)+b.length then 4 else 0
def DS.put (d:DS) (i:Int) (b:List Int):DS:=if d.putE i b=0 then d.add (.put i b) else d
def DS.app (d:DS) (b:List Int):DS:=if d.addE b=0 then d.add (.grow b) else d
end Go.Proofs.YtfdgnniicjdjdaaGreatDoor
