import Derived.Laws.CopyOwn
namespace Go.Proofs.YtfdgnniicjdjdaaGreatDoor
open Go
set_option linter.unusedVariables false
set_option maxRecDepth 10000
set_option linter.unusedSimpArgs false
theorem splice_all {α:Type} (L M:List α) (h:M.length=L.length):splice L 0 M=M:=by simp [splice,h]
def z4a (old b:List Int) (t:Nat):List Int:=b.take t++(List.replicate (t-b.length) 0++old.drop t)
theorem tear_len (old b:List Int) (t:Nat) (h:t≤old.length):(z4a old b t).length=old.length:=by
 simp only [z4a,List.length_append,List.length_take,List.length_replicate,List.length_drop]
 omega
theorem tear_at (old b:List Int) (t k:Nat) (ht:t≤old.length) (hk:k<old.length):(z4a old b t).getD k 0=if k<t then (if k<b.length then b.getD k 0 else 0) else old.getD k 0:=by
 unfold z4a
 rw [List.getD,List.getElem?_append]
 by_cases h1:k<t
 · rw [if_pos h1]
   by_cases h2:k<b.length
   · rw [if_pos h2,if_pos (by rw [List.length_take];omega),List.getElem?_take,if_pos h1,List.getD]
   · rw [if_neg h2,if_neg (by rw [List.length_take];omega),List.length_take,List.getElem?_append_left (by rw [List.length_replicate];omega),List.getElem?_replicate,if_pos (by omega)]
     rfl
 · rw [if_neg h1,if_neg (by rw [List.length_take];omega),List.length_take,List.getElem?_append_right (by rw [List.length_replicate];omega),List.length_replicate,List.getElem?_drop,List.getD]
   rw [show t+(k-min t b.length-(t-b.length))=k by omega]
theorem len_flatten (s:Nat):∀ (V:List (List Int)),(∀ x∈V,x.length=s)→V.flatten.length=V.length*s
 | [],_=>by simp
 | x::V,h=>by
  rw [List.flatten_cons,List.length_append,len_flatten s V (fun y hy=>h y (List.mem_cons_of_mem _ hy)),h x List.mem_cons_self,List.length_cons,Nat.add_mul]
  omega
theorem getD_len {s:Nat} {V:List (List Int)} (h:∀ y∈V,y.length=s) {i:Nat} (hi:i<V.length):(V.getD i []).length=s:=by
 rw [List.getD,List.getElem?_eq_getElem hi]
 exact h _ (List.getElem_mem hi)
theorem getD_set {V:List (List Int)} {i j:Nat} {x:List Int} (hj:j<V.length):(V.set i x).getD j []=if i=j then x else V.getD j []:=by
 rw [List.getD,List.getElem?_set]
 split
 · rw [if_pos (by omega)]
   rfl
 · rfl
def kp (x hi:Int):Nat:=(min (max x 0) hi).toNat
theorem q0f (x hi:Int) (h:0≤hi):(kp x hi:Int)≤hi:=by unfold kp;omega
def z6c (s:Nat) (V:List (List Int)) (i:Int) (b:List Int) (t:Nat):List (List Int):=if (0≤i∧i<V.length)∧b.length≤s then V.set i.toNat (z4a (V.getD i.toNat []) b t) else V
def z8w (s:Nat) (V:List (List Int)) (i:Int) (b:List Int):Int:=if ¬ (0≤i∧i<V.length) then 1 else if s<b.length then 7 else 0
theorem tearV_len (s:Nat) (V:List (List Int)) (i:Int) (b:List Int) (t:Nat):(z6c s V i b t).length=V.length:=by
 unfold z6c
 split <;> simp
end Go.Proofs.YtfdgnniicjdjdaaGreatDoor
