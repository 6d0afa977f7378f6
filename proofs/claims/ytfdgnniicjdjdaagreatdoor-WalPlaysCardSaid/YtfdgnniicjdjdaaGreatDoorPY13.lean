import Derived.Test.YtfdgnniicjdjdaaGreatDoorRows
namespace Go.Proofs.YtfdgnniicjdjdaaGreatDoor
set_option linter.unusedVariables false
set_option maxRecDepth 10000
set_option linter.unusedSimpArgs false
def cl (x:Int) (lo hi:Nat):Nat:=(min (max x lo) hi).toNat
theorem q2o (x:Int) (lo hi:Nat):min (max x (lo:Int)) (hi:Int)=((cl x lo hi:Nat):Int):=by unfold cl;omega
theorem q2k (x:Int) (lo hi:Nat):cl x lo hi≤hi:=by unfold cl;omega
theorem q2n (x:Int) {lo hi:Nat} (h:lo≤hi):lo≤cl x lo hi:=by unfold cl;omega
def sgD (s:Nat) (B:List Int) (i:Nat):List Int:=(B.drop (i*s)).take s
def nSD (s n:Nat):Nat:=(n+s-1) / s
theorem z6z {s n i:Nat} (hs:0<s):i<nSD s n ↔ i*s<n:=by
 unfold nSD
 rw [Nat.lt_div_iff_mul_lt hs]
 omega
theorem z9i {s n m:Nat} (hs:0<s) (h1:¬ m*s<n) (h2:∀ i,i<m→i*s<n):nSD s n=m:=by
 have a1:¬ m<nSD s n:=fun h=>h1 ((z6z hs).1 h)
 rcases Nat.lt_or_ge (nSD s n) m with h | h
 · have:=h2 _ h
   rw [← z6z hs] at this
   omega
 · omega
theorem q0b {s n:Nat} (hs:0<s):nSD s n≤n:=by
 rcases Nat.lt_or_ge n (nSD s n) with h | h
 · have h1:=(z6z hs).1 h
   have h2:=Nat.le_mul_of_pos_right n hs
   omega
 · exact h
theorem z6q (s:Nat) (B:List Int) (i:Nat):(sgD s B i).length=min s (B.length-i*s):=by simp [sgD]
theorem z1w {i j s:Nat} (h:i<j):i*s+s≤j*s:=by
 have:=Nat.mul_le_mul_right s (show i+1≤j from h)
 rwa [Nat.add_mul,Nat.one_mul] at this
theorem z3j {s n:Nat}:n / s*s+n % s=n:=by
 have:=Nat.div_add_mod n s
 rw [Nat.mul_comm] at this
 exact this
theorem sg_app_same {s:Nat} (hs:0<s) (B x:List Int) (hx:x.length≤s-B.length % s):sgD s (B++x) (B.length / s)=sgD s B (B.length / s)++x:=by
 have h1:B.length / s*s+B.length % s=B.length:=z3j
 have h2:=Nat.mod_lt B.length hs
 unfold sgD
 rw [List.drop_append_of_le_length (by omega),List.take_of_length_le (by simp;omega),List.take_of_length_le (by simp;omega)]
theorem sg_app_other {s:Nat} (B x:List Int) {j:Nat} (hj:j*s+s≤B.length):sgD s (B++x) j=sgD s B j:=by
 unfold sgD
 rw [List.drop_append_of_le_length (by omega),List.take_append_of_le_length (by simp;omega)]
theorem sg_drop (s:Nat) (B:List Int) (d j:Nat):sgD s (B.drop (d*s)) j=sgD s B (d+j):=by
 unfold sgD
 rw [List.drop_drop,Nat.add_mul]
theorem sg_take_lt {s c:Nat} (B:List Int) {j:Nat} (hj:j*s+s≤c):sgD s (B.take c) j=sgD s B j:=by
 unfold sgD
 rw [List.drop_take,List.take_take,Nat.min_eq_left (by omega)]
theorem sg_take_all (s l i:Nat) (B:List Int):sgD s (B.take l) i=(sgD s B i).take (l-i*s):=by
 unfold sgD
 rw [List.drop_take,List.take_take,List.take_take,Nat.min_comm]
theorem nS_div {s l:Nat} (hs:0<s):nSD s l=if 0<l % s then l / s+1 else l / s:=by
 have h1:l / s*s+l % s=l:=z3j
 have h2:=Nat.mod_lt l hs
 refine z9i hs ?_ fun i hi=>?_
 · split
   · rw [Nat.add_mul];omega
   · omega
 · have h3:i≤l / s:=by split at hi <;> omega
   have h4:=Nat.mul_le_mul_right s h3
   split at hi
   · omega
   · have:=z1w (s:=s) hi
     omega
theorem nS_mono {s a b:Nat} (h:a≤b):nSD s a≤nSD s b:=Nat.div_le_div_right (by omega)
theorem part_step (s:Nat) (B:List Int) (x i:Nat) (hx:i*s≤x) (hB:x≤B.length):(B.take (i*s)).drop x++(sgD s B i).drop (x-i*s)=(B.take (i*s+s)).drop x:=by
 have e1:(B.take (i*s)).drop x=[]:=List.drop_eq_nil_of_le (by simp;omega)
 rw [e1,List.nil_append]
 unfold sgD
 have e2:(B.take (i*s+s)).drop x=((B.take (i*s+s)).drop (i*s)).drop (x-i*s):=by rw [List.drop_drop,show i*s+(x-i*s)=x by omega]
 rw [e2]
 congr 1
 rw [List.drop_take,show i*s+s-i*s=s by omega]
theorem part_nextD (s:Nat) (B:List Int) (x i:Nat) (hx:x≤i*s) (hi:i*s≤B.length):(B.take (i*s)).drop x++sgD s B i=(B.take (i*s+s)).drop x:=by
 unfold sgD
 have e:B.take (i*s+s)=B.take (i*s)++(B.drop (i*s)).take s:=List.take_add
 rw [e,List.drop_append_of_le_length (by simp;omega)]
structure TS where
 f:Nat
 B:List Int
def appT (t:TS) (b:List Int):TS:=⟨t.f,t.B++b⟩
def gone (s:Nat) (t:TS) (keep:Int):Nat:=cl keep (t.f*s) (t.f*s+t.B.length) / s-t.f
def z7y (s:Nat) (t:TS) (keep:Int):TS:=⟨t.f+gone s t keep,t.B.drop (gone s t keep*s)⟩
def q0w (s:Nat) (t:TS) (e:Int):Nat:=cl e (t.f*s) (t.f*s+t.B.length)-t.f*s
def cutT (s:Nat) (t:TS) (e:Int):TS:=⟨t.f,t.B.take (q0w s t e)⟩
def q1n (s:Nat) (t:TS) (x:Int):Nat:=(max x (t.f*s:Nat)-(t.f*s:Nat)).toNat
def z8e (s:Nat) (t:TS) (x:Int):List Int:=t.B.drop (q1n s t x)
theorem z9c {s:Nat} (hs:0<s) (t:TS) (keep:Int):cl keep (t.f*s) (t.f*s+t.B.length) / s=t.f+gone s t keep∧gone s t keep*s≤t.B.length∧(t.f+gone s t keep)*s=t.f*s+gone s t keep*s∧(∀ c,cl keep (t.f*s) (t.f*s+t.B.length)=c→gone s t keep*s≤c-t.f*s∧c-t.f*s<gone s t keep*s+s):=by
 have h1:=q2n keep (lo:=t.f*s) (hi:=t.f*s+t.B.length) (by omega)
 have h2:=q2k keep (t.f*s) (t.f*s+t.B.length)
 generalize hc:cl keep (t.f*s) (t.f*s+t.B.length)=c at *
 have h3:t.f≤c / s:=(Nat.le_div_iff_mul_le hs).2 h1
 have h4:c / s*s+c % s=c:=z3j
 have hm:=Nat.mod_lt c hs
 have h5:c / s=t.f+gone s t keep:=by unfold gone;rw [hc];omega
 have h6:(t.f+gone s t keep)*s=t.f*s+gone s t keep*s:=Nat.add_mul ..
 rw [h5] at h4
 rw [h6] at h4
 refine⟨h5,by omega,h6,?_⟩
 rintro c' rfl
 omega
theorem z7a (s:Nat) (t:TS) (e:Int):cl e (t.f*s) (t.f*s+t.B.length)=t.f*s+q0w s t e∧q0w s t e≤t.B.length:=by
 have h1:=q2n e (lo:=t.f*s) (hi:=t.f*s+t.B.length) (by omega)
 have h2:=q2k e (t.f*s) (t.f*s+t.B.length)
 unfold q0w
 omega
theorem drop_len {s:Nat} (hs:0<s) (t:TS) (keep:Int):(z7y s t keep).f*s+(z7y s t keep).B.length=t.f*s+t.B.length:=by
 obtain⟨h1,h2,h3,_⟩:=z9c hs t keep
 simp only [z7y,List.length_drop]
 omega
theorem cut_len (s:Nat) (t:TS) (e:Int):(cutT s t e).B.length=q0w s t e:=by
 have:=(z7a s t e).2
 simp only [cutT,List.length_take]
 omega
end Go.Proofs.YtfdgnniicjdjdaaGreatDoor
