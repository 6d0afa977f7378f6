import Derived.Test.YtnpjpelbcmgodaaGreatDoorPA41
import Derived.Sort.LotD2
namespace Go.Proofs.YtnpjpelbcmgodaaGreatDoor
open Go.RowKit Go.ChangeShapes Go.WideShapes
set_option linter.unusedVariables false
set_option linter.unusedSimpArgs false
set_option maxRecDepth 10000
structure PI (p:Int→Int→Bool) (a b:Nat) (d:Array Int) (v:Int) (i j:Nat) (dk:Array Int):Prop where
 piv:dk[a]! = v
 lo:a<i
 mid:i≤j+1
 hi:j<b
 size:b≤dk.size
 perm:Sort.PermIn a b d dk
 left:∀ t,a<t→t<i→p dk[t]! dk[a]! = true
 right:∀ t,j<t→t<b→p dk[t]! dk[a]! = false
theorem PI.start {p:Int→Int→Bool} {a b:Nat} {v:Int} {d dk:Array Int} (hv:dk[a]! = v) (hp:Sort.PermIn a b d dk) (hab:a<b) (hb:b≤dk.size):PI p a b d v (a+1) (b-1) dk :=
 ⟨hv,by omega,by omega,by omega,hb,hp,fun t h1 h2=>by omega,fun t h1 h2=>by omega⟩
theorem PI.up {p:Int→Int→Bool} {a b i j:Nat} {v:Int} {d dk:Array Int} (h:PI p a b d v i j dk) (hij:i≤j) (hp:p dk[i]! dk[a]! = true):PI p a b d v (i+1) j dk :=
 ⟨h.piv,by have:=h.lo;omega,by omega,h.hi,h.size,h.perm,fun t h1 h2=>by
  by_cases ht:t=i
  · subst ht
    exact hp
  · exact h.left t h1 (by omega),h.right⟩
theorem PI.down {p:Int→Int→Bool} {a b i j:Nat} {v:Int} {d dk:Array Int} (h:PI p a b d v i j dk) (hij:i≤j) (hp:p dk[j]! dk[a]! = false):PI p a b d v i (j-1) dk :=
 ⟨h.piv,h.lo,by have:=h.lo;omega,by have:=h.hi;omega,h.size,h.perm,h.left,fun t h1 h2=>by
  by_cases ht:t=j
  · subst ht
    exact hp
  · exact h.right t (by omega) h2⟩
theorem z9w {d:Array Int} {i j:Nat} (hi:i<d.size) (hj:j<d.size) (t:Nat):(Sort.swp d i j)[t]! = if t=j then d[i]! else if t=i then d[j]! else d[t]!:=by
 unfold Sort.swp
 by_cases hj':t=j
 · subst hj'
   rw [if_pos rfl,Sort.getElem!_set_same _ _ _ (by simpa using hj)]
 · rw [if_neg hj',Sort.getElem!_set_other _ _ _ _ hj']
   by_cases hi':t=i
   · subst hi'
     rw [if_pos rfl,Sort.getElem!_set_same _ _ _ hi]
   · rw [if_neg hi',Sort.getElem!_set_other _ _ _ _ hi']
theorem PI.lt {p:Int→Int→Bool} {a b i j:Nat} {v:Int} {d dk:Array Int} (h:PI p a b d v i j dk) (hij:i≤j) (h1:p dk[i]! dk[a]! = false) (h2:p dk[j]! dk[a]! = true):i<j:=by
 rcases Nat.lt_or_eq_of_le hij with h3 | h3
 · exact h3
 · rw [h3,h2] at h1
   cases h1
theorem PI.swap {p:Int→Int→Bool} {a b i j:Nat} {v:Int} {d dk:Array Int} (h:PI p a b d v i j dk) (hij:i<j) (h1:p dk[i]! dk[a]! = false) (h2:p dk[j]! dk[a]! = true):PI p a b d v (i+1) (j-1) (Sort.swp dk i j):=by
 have hlo:=h.lo
 have hhi:=h.hi
 have hs:=h.size
 have e:=fun t=>z9w (d:=dk) (i:=i) (j:=j) (by omega) (by omega) t
 have ea:(Sort.swp dk i j)[a]! = dk[a]!:=by rw [e,if_neg (by omega),if_neg (by omega)]
 refine⟨by rw [ea];exact h.piv,by omega,by omega,by omega,by rw [Sort.swp_size];exact hs,z4p h.perm hs (by omega) (by omega) (by omega) (by omega),fun t t1 t2=>?_,fun t t1 t2=>?_⟩
 · rw [ea,e,if_neg (by omega)]
   by_cases ht:t=i
   · rw [if_pos ht]
     exact h2
   · rw [if_neg ht]
     exact h.left t t1 (by omega)
 · rw [ea,e]
   by_cases ht:t=j
   · rw [if_pos ht]
     exact h1
   · rw [if_neg ht,if_neg (by omega)]
     exact h.right t (by omega) t2
def z5m (a b mid:Nat) (d d':Array Int):Prop:=a≤mid∧mid<b∧Sort.PermIn a b d d'∧(∀ t,a≤t→t<mid→Sort.ltInt d'[t]! d'[mid]! = true)∧(∀ t,mid<t→t<b→Sort.ltInt d'[t]! d'[mid]! = false)
theorem PI.parted {a b i j:Nat} {v:Int} {d dk:Array Int} (h:PI Sort.ltInt a b d v i j dk) (hij:¬ i≤j):z5m a b j d (Sort.swp dk j a):=by
 have hlo:=h.lo
 have hmid:=h.mid
 have hhi:=h.hi
 have hs:=h.size
 have e:=fun t=>z9w (d:=dk) (i:=j) (j:=a) (by omega) (by omega) t
 have ej:(Sort.swp dk j a)[j]! = dk[a]!:=by
  rw [e]
  by_cases hja:j=a
  · rw [if_pos hja,hja]
  · rw [if_neg hja,if_pos rfl]
 refine⟨by omega,hhi,z4p h.perm hs (by omega) hhi (Nat.le_refl _) (by omega),fun t t1 t2=>?_,fun t t1 t2=>?_⟩
 · rw [ej,e]
   by_cases ht:t=a
   · rw [if_pos ht]
     exact h.left j (by omega) (by omega)
   · rw [if_neg ht,if_neg (by omega)]
     exact h.left t (by omega) (by omega)
 · rw [ej,e,if_neg (by omega),if_neg (by omega)]
   exact h.right t t1 t2
def z8i (a b mid:Nat) (v:Int) (d d':Array Int):Prop:=d'[a]! = v∧a<mid∧mid≤b∧Sort.PermIn a b d d'∧(∀ t,a<t→t<mid→Sort.ltInt d'[a]! d'[t]! = false)∧(∀ t,mid≤t→t<b→Sort.ltInt d'[a]! d'[t]! = true)
def geI (x v:Int):Bool:=!Sort.ltInt v x
theorem PI.partedE {a b i j:Nat} {v:Int} {d dk:Array Int} (h:PI geI a b d v i j dk) (hij:¬ i≤j):z8i a b i v d dk:=by
 have hlo:=h.lo
 have hmid:=h.mid
 have hhi:=h.hi
 refine⟨h.piv,hlo,by omega,h.perm,fun t t1 t2=>?_,fun t t1 t2=>?_⟩
 · have:=h.left t t1 t2
   simpa [geI] using this
 · have:=h.right t (by omega) t2
   simpa [geI] using this
theorem parted_end {a b mid:Nat} {dk d4 R:Array Int} (h:z5m a b mid dk d4) (hP:Sort.PermIn a b d4 R) (hm:R[mid]! = d4[mid]!) (hl:∀ i,a≤i→i<mid→Sort.ltInt R[i]! d4[mid]! = true) (hr:∀ i,mid<i→i<b→Sort.ltInt R[i]! d4[mid]! = false)
 (s1:Sort.SortedIn Sort.ltInt a mid R) (s2:Sort.SortedIn Sort.ltInt (mid+1) b R):Sort.PermIn a b dk R∧Sort.SortedIn Sort.ltInt a b R:=by
 refine⟨Sort.permIn_trans _ _ _ _ _ h.2.2.1 hP,Sort.sorted_glue Sort.swo_ltInt s1 s2 (fun i h1 h2=>?_) fun i h1 h2=>?_⟩
 · rw [hm]
   exact hl i h1 h2
 · rw [hm]
   exact hr i h1 h2
theorem glue_left {a b mid:Nat} {dk d4 L R:Array Int} (hb:b≤dk.size) (h:z5m a b mid dk d4) (l1:Sort.PermIn a mid d4 L) (l2:Sort.SortedIn Sort.ltInt a mid L) (r1:Sort.PermIn (mid+1) b L R) (r2:Sort.SortedIn Sort.ltInt (mid+1) b R):Sort.PermIn a b dk R∧Sort.SortedIn Sort.ltInt a b R:=by
 obtain⟨h1,h2,h3,h4,h5⟩:=h
 have b4:b≤d4.size:=by rw [h3.1];exact hb
 have bL:b≤L.size:=by rw [l1.1];exact b4
 have eR:∀ i,i≤mid→R[i]! = L[i]!:=fun i hi=>r1.2.1 i (.inl (by omega))
 have eL:∀ i,mid≤i→L[i]! = d4[i]!:=fun i hi=>l1.2.1 i (.inr hi)
 refine parted_end ⟨h1,h2,h3,h4,h5⟩ (Sort.permIn_trans _ _ _ _ _ (Sort.permIn_mono _ _ a mid a b (Nat.le_refl _) (by omega) b4 l1) (Sort.permIn_mono _ _ (mid+1) b a b (by omega) (Nat.le_refl _) bL r1)) (by rw [eR mid (Nat.le_refl _),eL mid (Nat.le_refl _)]) (fun i i1 i2=>?_) (fun i i1 i2=>?_) (Sort.SortedIn.congr l2 fun i i1 i2=>eR i (by omega)) r2
 · rw [eR i (by omega)]
   exact Sort.permIn_all d4 L a mid (fun x=>Sort.ltInt x d4[mid]! = true) (by omega) l1 h4 i i1 i2
 · exact Sort.permIn_all L R (mid+1) b (fun x=>Sort.ltInt x d4[mid]! = false) bL r1 (fun k k1 k2=>by rw [eL k (by omega)];exact h5 k (by omega) k2) i (by omega) i2
theorem glue_right {a b mid:Nat} {dk d4 L R:Array Int} (hb:b≤dk.size) (h:z5m a b mid dk d4) (l1:Sort.PermIn (mid+1) b d4 L) (l2:Sort.SortedIn Sort.ltInt (mid+1) b L) (r1:Sort.PermIn a mid L R) (r2:Sort.SortedIn Sort.ltInt a mid R):Sort.PermIn a b dk R∧Sort.SortedIn Sort.ltInt a b R:=by
 obtain⟨h1,h2,h3,h4,h5⟩:=h
 have b4:b≤d4.size:=by rw [h3.1];exact hb
 have bL:b≤L.size:=by rw [l1.1];exact b4
 have eR:∀ i,mid≤i→R[i]! = L[i]!:=fun i hi=>r1.2.1 i (.inr hi)
 have eL:∀ i,i≤mid→L[i]! = d4[i]!:=fun i hi=>l1.2.1 i (.inl (by omega))
 refine parted_end ⟨h1,h2,h3,h4,h5⟩ (Sort.permIn_trans _ _ _ _ _ (Sort.permIn_mono _ _ (mid+1) b a b (by omega) (Nat.le_refl _) b4 l1) (Sort.permIn_mono _ _ a mid a b (Nat.le_refl _) (by omega) bL r1)) (by rw [eR mid (Nat.le_refl _),eL mid (Nat.le_refl _)]) (fun i i1 i2=>?_) (fun i i1 i2=>?_) r2 (Sort.SortedIn.congr l2 fun i i1 i2=>eR i (by omega))
 · exact Sort.permIn_all L R a mid (fun x=>Sort.ltInt x d4[mid]! = true) (by omega) r1 (fun k k1 k2=>by rw [eL k (by omega)];exact h4 k k1 k2) i i1 i2
 · rw [eR i (by omega)]
   exact Sort.permIn_all d4 L (mid+1) b (fun x=>Sort.ltInt x d4[mid]! = false) b4 l1 (fun k k1 k2=>h5 k (by omega) k2) i (by omega) i2
theorem below_first {a b mid:Nat} {dk d4:Array Int} (hb:b≤dk.size) (h:z5m a b mid dk d4) (hB:Sort.Below Sort.ltInt a b dk):Sort.Below Sort.ltInt a mid d4:=(Sort.Below.perm hB hb h.2.2.1).mono (by have:=h.2.1;omega)
theorem below_second {a b mid:Nat} {dk d4:Array Int} (h:z5m a b mid dk d4):Sort.Below Sort.ltInt (mid+1) b d4:=.inr fun i h1 h2=>by
 rw [Nat.add_sub_cancel]
 exact h.2.2.2.2 i (by omega) h2
theorem below_after_first {a b mid:Nat} {dk d4 L:Array Int} (h:z5m a b mid dk d4) (l1:Sort.PermIn a mid d4 L):Sort.Below Sort.ltInt (mid+1) b L:=.inr fun i h1 h2=>by
 rw [Nat.add_sub_cancel,l1.2.1 i (.inr (by omega)),l1.2.1 mid (.inr (Nat.le_refl _))]
 exact h.2.2.2.2 i (by omega) h2
theorem below_after_second {a b mid:Nat} {dk d4 L:Array Int} (hb:b≤dk.size) (h:z5m a b mid dk d4) (hB:Sort.Below Sort.ltInt a b dk) (l1:Sort.PermIn (mid+1) b d4 L):Sort.Below Sort.ltInt a mid L:=by
 rcases below_first hb h hB with h0 | h0
 · exact .inl h0
 · exact .inr fun i h1 h2=>by
    rw [l1.2.1 i (.inl (by omega)),l1.2.1 (a-1) (.inl (by have:=h.1;omega))]
    exact h0 i h1 h2
theorem glue_eq {a b mid pivot:Nat} {dk d4 R:Array Int} (hb:b≤dk.size) (h:z8i a b mid dk[pivot]! dk d4) (hB:Sort.Below Sort.ltInt a b dk) (h0:0<a) (hn:Sort.ltInt dk[a-1]! dk[pivot]! = false) (r1:Sort.PermIn mid b d4 R) (r2:Sort.SortedIn Sort.ltInt mid b R):Sort.PermIn a b dk R∧Sort.SortedIn Sort.ltInt a b R:=by
 obtain⟨hv,h1,h2,h3,h4,h5⟩:=h
 have b4:b≤d4.size:=by rw [h3.1];exact hb
 have hge:∀ i,a≤i→i<b→Sort.ltInt dk[i]! dk[pivot]! = false:=fun i i1 i2=>by
  rcases hB with hB | hB
  · omega
  · exact Sort.swo_ltInt.ntrans _ _ _ (hB i i1 i2) hn
 have hge4:=Sort.permIn_all dk d4 a b (fun x=>Sort.ltInt x dk[pivot]! = false) hb h3 hge
 rw [hv] at h4 h5
 have eR:∀ i,i<mid→R[i]! = d4[i]!:=fun i hi=>r1.2.1 i (.inl hi)
 refine⟨Sort.permIn_trans _ _ _ _ _ h3 (Sort.permIn_mono _ _ mid b a b (by omega) (Nat.le_refl _) b4 r1),Sort.sorted_glue_eq Sort.swo_ltInt dk[pivot]! r2 (fun i i1 i2=>?_) (fun i i1 i2=>?_) (Sort.permIn_all d4 R mid b (fun x=>Sort.ltInt dk[pivot]! x=true) b4 r1 h5)⟩
 · rw [eR i i2]
   by_cases hi:i=a
   · subst hi
     rw [hv]
     exact Sort.swo_ltInt.irrefl _
   · exact h4 i (by omega) i2
 · rw [eR i i2]
   exact hge4 i i1 (by omega)
theorem below_eq {a b mid:Nat} {v:Int} {dk d4:Array Int} (h:z8i a b mid v dk d4):Sort.Below Sort.ltInt mid b d4:=.inr fun i i1 i2=>by
 obtain⟨hv,h1,h2,h3,h4,h5⟩:=h
 have g1:=h5 i i1 i2
 by_cases hm:mid-1=a
 · rw [hm]
   simp only [Sort.ltInt,decide_eq_true_eq,decide_eq_false_iff_not] at g1 ⊢
   omega
 · have g2:=h4 (mid-1) (by omega) (by omega)
   simp only [Sort.ltInt,decide_eq_true_eq,decide_eq_false_iff_not] at g1 g2 ⊢
   omega
end Go.Proofs.YtnpjpelbcmgodaaGreatDoor
