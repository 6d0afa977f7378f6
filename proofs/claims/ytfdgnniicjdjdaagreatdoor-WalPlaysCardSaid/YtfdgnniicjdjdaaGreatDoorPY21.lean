namespace Go.Proofs.YtfdgnniicjdjdaaGreatDoor
set_option maxRecDepth 10000
def le:Nat→Nat→List Nat
 | _,0=>[]
 | x,k+1=>x % 256::le (x / 256) k
def un:List Nat→Nat
 | []=>0
 | b::l=>b+256*un l
theorem z0o:∀ (k x:Nat),(le x k).length=k
 | 0,_=>rfl
 | k+1,x=>by simp [le,z0o k]
theorem z9j:∀ (k x y:Nat),y∈le x k→y<256
 | 0,_,_,h=>by cases h
 | k+1,x,y,h=>by
  simp only [le,List.mem_cons] at h
  rcases h with rfl | h
  · omega
  · exact z9j k _ _ h
theorem le_un:∀ (l:List Nat),(∀ y∈l,y<256)→le (un l) l.length=l
 | [],_=>rfl
 | b::l,h=>by
  have hb:b<256:=h b (List.mem_cons_self ..)
  have h1:(b+256*un l) % 256=b:=by omega
  have h2:(b+256*un l) / 256=un l:=by omega
  rw [List.length_cons,un,le,h1,h2,le_un l fun y hy=>h y (List.mem_cons_of_mem _ hy)]
theorem le_get:∀ (k x j:Nat),j<k→(le x k).getD j 0=x / 256 ^ j % 256
 | 0,_,j,h=>by omega
 | k+1,x,0,_=>by simp [le]
 | k+1,x,j+1,h=>by
  have:=le_get k (x / 256) j (by omega)
  rw [le,List.getD_cons_succ,this,Nat.div_div_eq_div_mul,Nat.pow_succ,Nat.mul_comm 256]
theorem le_snoc:∀ (k x:Nat),le x (k+1)=le x k ++ [x / 256 ^ k % 256]
 | 0,x=>by simp [le]
 | k+1,x=>by
  rw [le,le_snoc k (x / 256),le,Nat.div_div_eq_div_mul,Nat.pow_succ,Nat.mul_comm (256 ^ k)]
  rfl
theorem q1b (j:Nat):256 ^ j=2 ^ (8*j):=by rw [Nat.pow_mul]
abbrev St:=Int × List Nat
def bad (e:Int) (S:St):St:=if S.1=0 then (e,S.2) else S
def rawW (most:Int) (S:St) (M:List Nat):St:=if S.1=0 then if most<(S.2.length:Int)+(M.length:Int) then (7,S.2) else (0,S.2++M) else S
def numW (most:Int) (S:St) (x:Nat) (size:Int):St:=if 1≤size∧size≤8∧x<256 ^ size.toNat then rawW most S (le x size.toNat) else bad 1 S
def q1i (most:Int) (S:St) (M:List Nat):St:=if 65535<M.length then bad 7 S else rawW most S (le M.length 2++M)
def q2h (S:St) (n:Nat):St × List Nat:=if S.1=0 then if S.2.length<n then ((6,S.2),[]) else ((0,S.2.drop n),S.2.take n) else (S,[])
def numR (S:St) (size:Int):St × Nat:=if 1≤size∧size≤8 then ((q2h S size.toNat).1,un (q2h S size.toNat).2) else (bad 1 S,0)
end Go.Proofs.YtfdgnniicjdjdaaGreatDoor
