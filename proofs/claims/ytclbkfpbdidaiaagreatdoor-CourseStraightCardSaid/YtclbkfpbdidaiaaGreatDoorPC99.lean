namespace Go.Proofs.YtclbkfpbdidaiaaGreatDoor
theorem sIB {α : Type} (l : List α) (i : Nat) (a : α) : l.toArray.setIfInBounds i a = (l.set i a).toArray := List.setIfInBounds_toArray ..
theorem sCZ {α : Type} {a : α} {l : List α} {b : α} : (a :: l).set 0 b = b :: l := List.set_cons_zero
theorem sCS {α : Type} {a : α} {l : List α} {n : Nat} {b : α} : (a :: l).set (n + 1) b = a :: l.set n b := List.set_cons_succ
end Go.Proofs.YtclbkfpbdidaiaaGreatDoor
