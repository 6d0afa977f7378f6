import Derived.Test.YtclbkfpbdidaiaaGreatDoorRows
import Derived.RowKit
namespace Go.Proofs.YtclbkfpbdidaiaaGreatDoor
open Go.RowKit
set_option linter.unusedVariables false
set_option maxRecDepth 10000
abbrev K:=Int × Int × Int
def Kok (k:K):Prop:=(0≤k.1∧k.1≤255)∧(0≤k.2.1∧k.2.1≤255)∧(0≤k.2.2∧k.2.2≤255)
def kc (k:K):List Value:=[.int .u8 k.1,.int .u8 k.2.1,.int .u8 k.2.2]
def z0m (s w:Int):Bool:=decide (1≤s) && decide (s≤4) && decide (1≤w) && decide (w≤4)
def z6s (a w:Int):Int:=if a=1∨a=2 then w else if a=3∨a=4 then 1 else 0
def z5o (s w a b c:Int):Bool:=z0m s w && decide (b<s) && decide (c<z6s a w)
def z7g (k l:K):Bool:=if k.1≠l.1 then decide (k.1<l.1) else if k.2.1≠l.2.1 then decide (k.2.1<l.2.1) else decide (k.2.2<l.2.2)
theorem less_iff (k l:K):z7g k l=true ↔ k.1<l.1∨k.1=l.1∧(k.2.1<l.2.1∨k.2.1=l.2.1∧k.2.2<l.2.2):=by
 unfold z7g
 by_cases h1:k.1=l.1
 · by_cases h2:k.2.1=l.2.1
   · simp [h1,h2]
   · simp [h1,h2]
 · simp [h1]
theorem less_trans (a b c:K) (h1:z7g a b=true) (h2:z7g b c=true):z7g a c=true:=by
 rw [less_iff] at *
 omega
theorem less_total (a b:K) (h1:z7g a b=false) (h2:z7g b a=false):a=b:=by
 have g1:¬ z7g a b=true:=by simp [h1]
 have g2:¬ z7g b a=true:=by simp [h2]
 rw [less_iff] at g1 g2
 exact Prod.ext (by omega) (Prod.ext (by omega) (by omega))
end Go.Proofs.YtclbkfpbdidaiaaGreatDoor
