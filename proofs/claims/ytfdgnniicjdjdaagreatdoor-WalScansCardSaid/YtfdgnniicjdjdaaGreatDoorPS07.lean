import Derived.KernelRfl
import Derived.Test.YtfdgnniicjdjdaaGreatDoorPS19
namespace Go.Proofs.YtfdgnniicjdjdaaGreatDoor
set_option linter.unusedVariables false
def stp (x:Nat):Nat:=x / 2 ^^^ (if x % 2=1 then 3988292384 else 0)
def its:Nat→Nat→Nat
 | 0,x=>x
 | n+1,x=>its n (stp x)
def runF (r:Nat) (f:Nat→Nat):Nat→Nat
 | 0=>r
 | n+1=>its 8 (runF r f n ^^^ f n)
def sumF (f:Nat→Nat) (n:Nat):Nat:=4294967295-runF 4294967295 f n
theorem stp_xor (x y:Nat):stp (x ^^^ y)=stp x ^^^ stp y:=by
 unfold stp
 have hm:=@Nat.xor_mod_two_eq_one x y
 rw [Nat.xor_div_two]
 rcases Nat.mod_two_eq_zero_or_one x with hx | hx <;> rcases Nat.mod_two_eq_zero_or_one y with hy | hy
 · rw [if_neg (fun h=>by have:=hm.1 h;simp [hx,hy] at this),if_neg (by omega),if_neg (by omega)];simp
 · rw [if_pos (hm.2 (by simp [hx,hy])),if_neg (by omega),if_pos (by omega)];simp [Nat.xor_assoc]
 · rw [if_pos (hm.2 (by simp [hx,hy])),if_pos (by omega),if_neg (by omega)];simp only [Nat.xor_zero];ac_rfl
 · rw [if_neg (fun h=>by have:=hm.1 h;simp [hx,hy] at this),if_pos (by omega),if_pos (by omega)]
   rw [show x / 2 ^^^ 3988292384 ^^^ (y / 2 ^^^ 3988292384)=x / 2 ^^^ y / 2 ^^^ (3988292384 ^^^ 3988292384) by ac_rfl,Nat.xor_self,Nat.xor_zero]
theorem stp_double (y:Nat):stp (y*2)=y:=by
 unfold stp
 rw [if_neg (by omega),Nat.xor_zero];omega
theorem its_xor (n:Nat):∀ x y,its n (x ^^^ y)=its n x ^^^ its n y:=by
 induction n with
 | zero=>intro x y;rfl
 | succ n ih=>intro x y;unfold its;rw [stp_xor,ih]
theorem its_add (m:Nat):∀ n x,its (m+n) x=its n (its m x):=by
 induction m with
 | zero=>intro n x;rw [Nat.zero_add];rfl
 | succ m ih=>intro n x;rw [show m+1+n=(m+n)+1 by omega];exact ih n _
theorem its_shift (m:Nat):∀ x,its m (x*2 ^ m)=x:=by
 induction m with
 | zero=>intro x;simp [its]
 | succ m ih=>intro x;rw [show x*2 ^ (m+1)=(x*2 ^ m)*2 by rw [Nat.pow_succ];ac_rfl];unfold its;rw [stp_double];exact ih x
theorem stp_lt (x:Nat) (h:x<4294967296):stp x<4294967296:=by
 unfold stp
 refine Nat.xor_lt_two_pow (n:=32) (by omega) ?_
 split <;> omega
theorem q2q (n:Nat):∀ x,x<4294967296→its n x<4294967296:=by
 induction n with
 | zero=>intro x h;exact h
 | succ n ih=>intro x h;exact ih _ (stp_lt x h)
theorem q0i (r:Nat) (f:Nat→Nat) (hr:r<4294967296):∀ n,(∀ j,j<n→f j<256)→runF r f n<4294967296:=by
 intro n
 induction n with
 | zero=>intro _;exact hr
 | succ n ih =>
  intro h
  unfold runF
  exact q2q 8 _ (Nat.xor_lt_two_pow (n:=32) (ih fun j hj=>h j (by omega)) (by have:=h n (by omega);omega))
theorem not_nat (a:Nat) (h:a<4294967296):4294967295-a=4294967295 ^^^ a:=by
 apply Nat.eq_of_testBit_eq
 intro i
 rw [show 4294967295-a=2 ^ 32-(a+1) by omega,Nat.testBit_two_pow_sub_succ (by omega),Nat.testBit_xor,show 4294967295=2 ^ 32-1 by rfl,Nat.testBit_two_pow_sub_one]
 by_cases hi:i<32
 · simp [hi]
 · have:a.testBit i=false:=Nat.testBit_lt_two_pow (Nat.lt_of_lt_of_le h (show 2 ^ 32≤2 ^ i from Nat.pow_le_pow_right (by omega) (by omega)))
   simp [hi,this]
theorem sumF_lt (f:Nat→Nat) (n:Nat):sumF f n<4294967296:=by unfold sumF;omega
def halfTab:List Nat:=[0,498536548,997073096,651767980,1994146192,1802195444,1303535960,1342533948,3988292384,4027552580,3604390888,3412177804,2607071920,2262029012,2685067896,3183342108]
theorem halfTab_its:∀ x,x<16→halfTab.getD x 0=its 4 x:=by decide +kernel
theorem halfTab_lt:∀ x,x<16→halfTab.getD x 0<4294967296:=by decide +kernel
theorem half_its (x:Nat):x / 16 ^^^ halfTab.getD (x % 16) 0=its 4 x:=by
 rw [halfTab_its _ (Nat.mod_lt _ (by omega))]
 have e:x=(x / 16*2 ^ 4) ^^^ (x % 16):=by
  apply Nat.eq_of_testBit_eq
  intro i
  rw [Nat.testBit_xor]
  conv=>lhs;rw [show x=2 ^ 4*(x / 16)+x % 16 by omega,Nat.testBit_two_pow_mul_add _ (Nat.mod_lt _ (by omega))]
  rw [Nat.mul_comm,Nat.testBit_two_pow_mul]
  by_cases hi:i<4
  · simp [hi,Nat.not_le.2 hi]
  · have:(x % 16).testBit i=false:=Nat.testBit_lt_two_pow (Nat.lt_of_lt_of_le (Nat.mod_lt _ (by omega)) (show 2 ^ 4≤2 ^ i from Nat.pow_le_pow_right (by omega) (by omega)))
    simp [hi,this,Nat.not_lt.1 hi]
 conv=>rhs;rw [e,its_xor,its_shift]
theorem its_eight (x:Nat):its 4 (its 4 x)=its 8 x:=(its_add 4 4 x).symm
def sumL (P:List Nat):Nat:=sumF (fun j=>P.getD j 0) P.length
theorem sumL_lt (P:List Nat):sumL P<4294967296:=sumF_lt _ _
def frm (P:List Nat):List Nat:=le P.length 2++(le (sumL P) 4++P)
def good (P:List Nat):Bool:=decide (1≤P.length∧P.length≤512)
theorem z7r (P:List Nat):good P=true ↔ 1≤P.length∧P.length≤512:=by simp [good]
theorem frm_len (P:List Nat):(frm P).length=6+P.length:=by
 unfold frm
 rw [List.length_append,List.length_append,z0r,z0r]
 omega
def nN (B:List Nat):Nat:=un (B.take 2)
def nS (B:List Nat):Nat:=un ((B.drop 2).take 4)
def nP (B:List Nat):List Nat:=(B.drop 6).take (nN B)
def nE (B:List Nat):Int:=if B.length<6 then 6 else if nN B=0∨512<nN B then 8 else if B.length<6+nN B then 6 else if sumL (nP B)=nS B then 0 else 9
theorem nE_short {B:List Nat} (h:B.length<6):nE B=6:=if_pos h
theorem nE_form {B:List Nat} (h:¬ B.length<6) (h2:nN B=0∨512<nN B):nE B=8:=by unfold nE;rw [if_neg h,if_pos h2]
theorem nE_less {B:List Nat} (h:¬ B.length<6) (h2:¬ (nN B=0∨512<nN B)) (h3:B.length<6+nN B):nE B=6:=by unfold nE;rw [if_neg h,if_neg h2,if_pos h3]
theorem nE_ok {B:List Nat} (h:¬ B.length<6) (h2:¬ (nN B=0∨512<nN B)) (h3:¬ B.length<6+nN B) (h4:sumL (nP B)=nS B):nE B=0:=by unfold nE;rw [if_neg h,if_neg h2,if_neg h3,if_pos h4]
theorem nE_sum {B:List Nat} (h:¬ B.length<6) (h2:¬ (nN B=0∨512<nN B)) (h3:¬ B.length<6+nN B) (h4:¬ sumL (nP B)=nS B):nE B=9:=by unfold nE;rw [if_neg h,if_neg h2,if_neg h3,if_neg h4]
theorem z7c {B:List Nat} (h:nE B=0):6≤B.length∧1≤nN B∧nN B≤512∧6+nN B≤B.length:=by
 unfold nE at h
 split at h
 · omega
 · split at h
   · omega
   · split at h
     · omega
     · omega
theorem q1x {B:List Nat} (h:nE B=0):(nP B).length=nN B:=by
 have:=z7c h
 unfold nP
 rw [List.length_take,List.length_drop]
 omega
def q2w:Nat→List Nat→List (List Nat) × Nat × Int
 | 0,_=>([],0,0)
 | f+1,B=>if B.length=0 then ([],0,0) else if nE B=0 then (nP B::(q2w f (B.drop (6+nN B))).1,6+nN B+(q2w f (B.drop (6+nN B))).2.1,(q2w f (B.drop (6+nN B))).2.2) else ([],0,nE B)
def scan (B:List Nat):List (List Nat) × Nat × Int:=q2w B.length B
def fr (n s:Nat) (Q X:List Nat):List Nat:=le n 2++(le s 4++(Q++X))
def flat (G:List (List Nat)):List Nat:=G.flatMap frm
def put (Ls:List (List Nat)) (i:Nat):List (List Nat):=(Ls.take i).filter good
end Go.Proofs.YtfdgnniicjdjdaaGreatDoor
