import Derived.Test.YtfdgnniicjdjdaaGreatDoorPY43
import Derived.Test.YtfdgnniicjdjdaaGreatDoorPY48
import Derived.LoopIn
import Derived.OwnWalkIn
import Derived.Great.BuildSlice
namespace Go.Proofs.YtfdgnniicjdjdaaGreatDoor
open Go.RowKit Go.ChangeShapes Go.WideShapes
set_option linter.unusedVariables false
set_option linter.unusedSimpArgs false
set_option maxRecDepth 10000
def Byt (L:List Nat):Prop:=∀ x∈L,x<256
theorem z1u {L M:List Nat} (h:Byt L) (h':Byt M):Byt (L++M):=fun x hx=>(List.mem_append.1 hx).elim (h x) (h' x)
theorem z2s (x n:Nat):Byt (le x n):=fun y hy=>z9j n x y hy
theorem z8b:Byt []:=fun x hx=>by cases hx
theorem z8c {c:Prop} [Decidable c] {L M:List Nat} (h:Byt L) (h':Byt M):Byt (if c then L else M):=by
 split
 · exact h
 · exact h'
theorem byt_flat {α:Type} {f:α→List Nat} (hf:∀ a,Byt (f a)) (L:List α):Byt (L.flatMap f):=fun x hx=>by
 obtain⟨a,_,h⟩:=List.mem_flatMap.1 hx
 exact hf a x h
theorem byt_ln (x:Ln):Byt (lnB x):=z1u (z2s _ _) (z2s _ _)
theorem byt_tk (x:Tk):Byt (tkBy x):=z1u (z1u (z1u (z2s _ _) (z2s _ _)) (z2s _ _)) (z2s _ _)
theorem byt_lns (L:List Ln):Byt (lnsB L):=z1u (z2s _ _) (byt_flat byt_ln L)
theorem byt_tks (L:List Tk):Byt (tksB L):=z1u (z2s _ _) (byt_flat byt_tk L)
theorem byt_pg (P:Pg):Byt (z1x P):=z1u (z1u (z1u (z1u (z1u (z1u (z1u (z1u (z1u (z2s _ _) (z2s _ _)) (z2s _ _)) (byt_lns _)) (byt_tks _)) (byt_lns _)) (z2s _ _)) (z2s _ _)) (z2s _ _)) (z2s _ _)
theorem byt_bit (b:Bool):Byt [bitN b]:=fun x hx=>by
 rw [List.mem_singleton] at hx
 subst hx
 cases b <;> decide
theorem byt_key {k:K} (h:Kok k):Byt (keyB k):=fun x hx=>by
 obtain⟨h1,h2,h3⟩:=h
 unfold keyB at hx
 simp only [List.mem_cons,List.not_mem_nil,or_false] at hx
 rcases hx with rfl | rfl | rfl <;> omega
theorem byt_x {X:Rx} (h:Rxok X):Byt (z0n X):=z1u (z2s _ _) (z1u (z8c (z2s _ _) z8b) (z1u (z8c (z2s _ _) z8b) (z1u (z8c (z1u (z2s _ _) (byt_bit _)) z8b) (z1u (z8c (z1u (byt_key h.key) (z2s _ _)) z8b) (z1u (z8c (z2s _ _) z8b) (z8c (z1u (z2s _ _) (byt_pg _)) z8b))))))
theorem byt_frm {X:Rx} (h:Rxok X):Byt (frmX X):=frmX_lt X (byt_x h)
end Go.Proofs.YtfdgnniicjdjdaaGreatDoor
