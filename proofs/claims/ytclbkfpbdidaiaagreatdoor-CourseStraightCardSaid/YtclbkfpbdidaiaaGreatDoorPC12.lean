namespace Go.Proofs.YtclbkfpbdidaiaaGreatDoor
set_option maxRecDepth 10000
def le:Nat→Nat→List Nat
 | _,0=>[]
 | x,k+1=>x % 256::le (x / 256) k
theorem z0t:∀ (k x:Nat),(le x k).length=k
 | 0,_=>rfl
 | k+1,x=>by simp [le,z0t k]
theorem le_lt:∀ (k x y:Nat),y∈le x k→y<256
 | 0,_,_,h=>by cases h
 | k+1,x,y,h=>by
  simp only [le,List.mem_cons] at h
  rcases h with rfl | h
  · omega
  · exact le_lt k _ _ h
theorem le_get:∀ (k x j:Nat),j<k→(le x k).getD j 0=x / 256 ^ j % 256
 | 0,_,j,h=>by omega
 | k+1,x,0,_=>by simp [le]
 | k+1,x,j+1,h=>by
  have:=le_get k (x / 256) j (by omega)
  rw [le,List.getD_cons_succ,this,Nat.div_div_eq_div_mul,Nat.pow_succ,Nat.mul_comm 256]
theorem q1d (j:Nat):256 ^ j=2 ^ (8*j):=by rw [Nat.pow_mul]
abbrev St:=Int × List Nat
def bad (e:Int) (S:St):St:=if S.1=0 then (e,S.2) else S
def rawW (most:Int) (S:St) (M:List Nat):St:=if S.1=0 then if most<(S.2.length:Int)+(M.length:Int) then (7,S.2) else (0,S.2++M) else S
def numW (most:Int) (S:St) (x:Nat) (size:Int):St:=if 1≤size∧size≤8∧x<256 ^ size.toNat then rawW most S (le x size.toNat) else bad 1 S
def q1t (most:Int) (S:St) (M:List Nat):St:=if 65535<M.length then bad 7 S else rawW most S (le M.length 2++M)
end Go.Proofs.YtclbkfpbdidaiaaGreatDoor
