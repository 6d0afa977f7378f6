import Derived.Test.YtfdgnniicjdjdaaGreatDoorRows
namespace Go.Proofs.YtfdgnniicjdjdaaGreatDoor
set_option linter.unusedVariables false
set_option maxRecDepth 10000
set_option linter.unusedSimpArgs false
def cl (x:Int) (lo hi:Nat):Nat:=(min (max x lo) hi).toNat
theorem cl_eq (x:Int) (lo hi:Nat):min (max x (lo:Int)) (hi:Int)=((cl x lo hi:Nat):Int):=by unfold cl;omega
theorem q2z (x:Int) (lo hi:Nat):cl x lo hi≤hi:=by unfold cl;omega
theorem q3d (x:Int) {lo hi:Nat} (h:lo≤hi):lo≤cl x lo hi:=by unfold cl;omega
def sgD (s:Nat) (B:List Int) (i:Nat):List Int:=(B.drop (i*s)).take s
def nSD (s n:Nat):Nat:=(n+s-1) / s
theorem z8c {s n i:Nat} (hs:0<s):i<nSD s n ↔ i*s<n:=by
 unfold nSD
 rw [Nat.lt_div_iff_mul_lt hs]
 omega
theorem z9x {s n m:Nat} (hs:0<s) (h1:¬ m*s<n) (h2:∀ i,i<m→i*s<n):nSD s n=m:=by
 have a1:¬ m<nSD s n:=fun h=>h1 ((z8c hs).1 h)
 rcases Nat.lt_or_ge (nSD s n) m with h | h
 · have:=h2 _ h
   rw [← z8c hs] at this
   omega
 · omega
theorem q1f {s n:Nat} (hs:0<s):nSD s n≤n:=by
 rcases Nat.lt_or_ge n (nSD s n) with h | h
 · have h1:=(z8c hs).1 h
   have h2:=Nat.le_mul_of_pos_right n hs
   omega
 · exact h
theorem z9h (s:Nat) (B:List Int) (i:Nat):(sgD s B i).length=min s (B.length-i*s):=by simp [sgD]
theorem z2s {i j s:Nat} (h:i<j):i*s+s≤j*s:=by
 have:=Nat.mul_le_mul_right s (show i+1≤j from h)
 rwa [Nat.add_mul,Nat.one_mul] at this
theorem z5e {s n:Nat}:n / s*s+n % s=n:=by
 have:=Nat.div_add_mod n s
 rw [Nat.mul_comm] at this
 exact this
theorem sg_app_same {s:Nat} (hs:0<s) (B x:List Int) (hx:x.length≤s-B.length % s):sgD s (B++x) (B.length / s)=sgD s B (B.length / s)++x:=by
 have h1:B.length / s*s+B.length % s=B.length:=z5e
 have h2:=Nat.mod_lt B.length hs
 unfold sgD
 rw [List.drop_append_of_le_length (by omega),List.take_of_length_le (by simp;omega),List.take_of_length_le (by simp;omega)]
theorem sg_app_other {s:Nat} (B x:List Int) {j:Nat} (hj:j*s+s≤B.length):sgD s (B++x) j=sgD s B j:=by
 unfold sgD
 rw [List.drop_append_of_le_length (by omega),List.take_append_of_le_length (by simp;omega)]
theorem sg_drop (s:Nat) (B:List Int) (d j:Nat):sgD s (B.drop (d*s)) j=sgD s B (d+j):=by
 unfold sgD
 rw [List.drop_drop,Nat.add_mul]
theorem sg_take_lt {s c:Nat} (B:List Int) {j:Nat} (hj:j*s+s≤c):sgD s (B.take c) j=sgD s B j:=by
 unfold sgD
 rw [List.drop_take,List.take_take,Nat.min_eq_left (by omega)]
theorem sg_take_all (s l i:Nat) (B:List Int):sgD s (B.take l) i=(sgD s B i).take (l-i*s):=by
 unfold sgD
 rw [List.drop_take,List.take_take,List.take_take,Nat.min_comm]
theorem nS_div {s l:Nat} (hs:0<s):nSD s l=if 0<l % s then l / s+1 else l / s:=by
 have h1:l / s*s+l % s=l:=z5e
 have h2:=Nat.mod_lt l hs
 refine z9x hs ?_ fun i hi=>?_
 · split
   · rw [Nat.add_mul];omega
   · omega
 · have h3:i≤l / s:=by split at hi <;> omega
   have h4:=Nat.mul_le_mul_right s h3
   split at hi
   · omega
   · have:=z2s (s:=s) hi
     omega
theorem nS_mono {s a b:Nat} (h:a≤b):nSD s a≤nSD s b:=Nat.div_le_div_right (by omega)
structure TS where
 f:Nat
 B:List Int
def appT (t:TS) (b:List Int):TS:=⟨t.f,t.B++b⟩
def gone (s:Nat) (t:TS) (keep:Int):Nat:=cl keep (t.f*s) (t.f*s+t.B.length) / s-t.f
def q0t (s:Nat) (t:TS) (keep:Int):TS:=⟨t.f+gone s t keep,t.B.drop (gone s t keep*s)⟩
def q2h (s:Nat) (t:TS) (e:Int):Nat:=cl e (t.f*s) (t.f*s+t.B.length)-t.f*s
def cutT (s:Nat) (t:TS) (e:Int):TS:=⟨t.f,t.B.take (q2h s t e)⟩
theorem gone_spec {s:Nat} (hs:0<s) (t:TS) (keep:Int):cl keep (t.f*s) (t.f*s+t.B.length) / s=t.f+gone s t keep∧gone s t keep*s≤t.B.length∧(t.f+gone s t keep)*s=t.f*s+gone s t keep*s∧(∀ c,cl keep (t.f*s) (t.f*s+t.B.length)=c→gone s t keep*s≤c-t.f*s∧c-t.f*s<gone s t keep*s+s):=by
 have h1:=q3d keep (lo:=t.f*s) (hi:=t.f*s+t.B.length) (by omega)
 have h2:=q2z keep (t.f*s) (t.f*s+t.B.length)
 generalize hc:cl keep (t.f*s) (t.f*s+t.B.length)=c at *
 have h3:t.f≤c / s:=(Nat.le_div_iff_mul_le hs).2 h1
 have h4:c / s*s+c % s=c:=z5e
 have hm:=Nat.mod_lt c hs
 have h5:c / s=t.f+gone s t keep:=by unfold gone;rw [hc];omega
 have h6:(t.f+gone s t keep)*s=t.f*s+gone s t keep*s:=Nat.add_mul ..
 rw [h5] at h4
 rw [h6] at h4
 refine⟨h5,by omega,h6,?_⟩
 rintro c' rfl
 omega
theorem z9o (s:Nat) (t:TS) (e:Int):cl e (t.f*s) (t.f*s+t.B.length)=t.f*s+q2h s t e∧q2h s t e≤t.B.length:=by
 have h1:=q3d e (lo:=t.f*s) (hi:=t.f*s+t.B.length) (by omega)
 have h2:=q2z e (t.f*s) (t.f*s+t.B.length)
 unfold q2h
 omega
theorem drop_len {s:Nat} (hs:0<s) (t:TS) (keep:Int):(q0t s t keep).f*s+(q0t s t keep).B.length=t.f*s+t.B.length:=by
 obtain⟨h1,h2,h3,_⟩:=gone_spec hs t keep
 simp only [q0t,List.length_drop]
 omega
theorem cut_len (s:Nat) (t:TS) (e:Int):(cutT s t e).B.length=q2h s t e:=by
 have:=(z9o s t e).2
 simp only [cutT,List.length_take]
 omega
end Go.Proofs.YtfdgnniicjdjdaaGreatDoor
