import Derived.Laws.CopyOwn
namespace Go.Proofs.YtfdgnniicjdjdaaGreatDoor
open Go
set_option linter.unusedVariables false
set_option maxRecDepth 10000
set_option linter.unusedSimpArgs false
theorem splice_all {α:Type} (L M:List α) (h:M.length=L.length):splice L 0 M=M:=by simp [splice,h]
def tearL (old b:List Int) (t:Nat):List Int:=b.take t++(List.replicate (t-b.length) 0++old.drop t)
theorem len_flatten (s:Nat):∀ (V:List (List Int)),(∀ x∈V,x.length=s)→V.flatten.length=V.length*s
 | [],_=>by simp
 | x::V,h=>by
  rw [List.flatten_cons,List.length_append,len_flatten s V (fun y hy=>h y (List.mem_cons_of_mem _ hy)),h x List.mem_cons_self,List.length_cons,Nat.add_mul]
  omega
def kp (x hi:Int):Nat:=(min (max x 0) hi).toNat
theorem q3c (x hi:Int) (h:0≤hi):(kp x hi:Int)≤hi:=by unfold kp;omega
def tearV (s:Nat) (V:List (List Int)) (i:Int) (b:List Int) (t:Nat):List (List Int):=if (0≤i∧i<V.length)∧b.length≤s then V.set i.toNat (tearL (V.getD i.toNat []) b t) else V
def tearE (s:Nat) (V:List (List Int)) (i:Int) (b:List Int):Int:=if ¬ (0≤i∧i<V.length) then 1 else if s<b.length then 7 else 0
end Go.Proofs.YtfdgnniicjdjdaaGreatDoor
