import Derived.Test.YtnpjpelbcmgodaaGreatDoorPA07
import Derived.Test.YtnpjpelbcmgodaaGreatDoorPA18
namespace Go.Proofs.YtnpjpelbcmgodaaGreatDoor
open Go.Lib (hid)
set_option maxHeartbeats 2000000
open Go.RowKit Go.ChangeShapes Go.WideShapes
set_option linter.unusedVariables false
set_option linter.unusedSimpArgs false
set_option maxRecDepth 10000
theorem insertion_none (p:Option Addr) (cap:Nat) (w:World):Calls Tryz.prog 130 #[.slice p 0 cap,.int .i64 0,.int .i64 0] w fun e w'=>e=.returned (.tuple #[])∧w'=w:=by
 go_enter Tryz.func130,Tryz.ntmps130
 go_wp2
 refine wp_loop_rounds 1 ?_
 rw [rounds_succ]
 go_wp2
 go_end0
 exact⟨rfl,rfl⟩
theorem pdq_none (p:Option Addr) (cap:Nat) (lim:Int) (w:World):Calls Tryz.prog 107 #[.slice p 0 cap,.int .i64 0,.int .i64 0,.int .i64 lim] w fun e w'=>e=.returned (.tuple #[])∧w'=w:=by
 go_enter Tryz.func107,Tryz.ntmps107
 go_wp2
 refine wp_loop_rounds 1 ?_
 rw [rounds_succ]
 go_wp2_with fail
 refine (insertion_none p cap w).mono ?_
 rintro e w' ⟨rfl,hw⟩
 subst hw
 go_wp2_with fail
 (try simp only [Exit.inBlock,Exit.then])
 refine bodyPost_ret (results_none rfl _ _ _) rfl ?_
 exact⟨rfl,rfl⟩
theorem len64_any (n:Nat) (hn:n≤255) (w:World):Calls Tryz.prog 140 #[.int .u64 n] w fun e w'=>(∃ v:Int,e=.returned (.int .i64 v))∧w'=w:=by
 have t1:¬ (4294967296:Int)≤n:=by omega
 have t2:¬ (65536:Int)≤n:=by omega
 have t3:¬ (256:Int)≤n:=by omega
 go_enter Tryz.func140,Tryz.ntmps140
 go_wp2_with fail
 go_ret
 exact⟨⟨_,rfl⟩,rfl⟩
theorem jlen_any (n:Nat) (hn:n≤255) (w:World):Calls Tryz.prog 108 #[.int .u64 n] w fun e w'=>(∃ v:Int,e=.returned (.int .i64 v))∧w'=w:=by
 have h:=len64_any n hn w
 clear hn
 go_enter Tryz.func108,Tryz.ntmps108
 go_wp2_with fail
 refine h.mono ?_
 rintro e w' ⟨⟨v,rfl⟩,hw⟩
 subst hw
 go_wp2_with fail
 go_ret
 exact⟨⟨v,rfl⟩,rfl⟩
theorem sort_none (p:Option Addr) (cap:Nat) (w:World):Calls Tryz.prog 86 #[.slice p 0 cap] w fun e w'=>e=.returned (.tuple #[])∧w'=w:=by
 have hb:=jlen_any 0 (by omega) w
 have hp:=fun v=>pdq_none p cap v w
 go_enter Tryz.func86,Tryz.ntmps86
 go_wp2_with fail
 refine hb.mono ?_
 rintro e w' ⟨⟨v,rfl⟩,hw⟩
 subst hw
 go_wp2_with fail
 refine (hp v).mono ?_
 rintro e w'' ⟨rfl,hw⟩
 subst hw
 go_wp2_with fail
 go_end0
 exact⟨rfl,rfl⟩
def z7x (L:List Int):List Int:=L.mergeSort fun x y=>decide (x≤y)
theorem z7b (L:List Int):(z7x L).Perm L:=List.mergeSort_perm L _
theorem sortI_len (L:List Int):(z7x L).length=L.length:=(z7b L).length_eq
theorem sortI_up {L M:List Int} (hn:L.Nodup) (hm:UpT id M) (h:∀ x,x∈L ↔ x∈M):z7x L=M:=by
 have hs:(z7x L).Pairwise fun a b=>decide (a≤b)=true:=List.pairwise_mergeSort (fun a b c h1 h2=>by simp at *;omega) (fun a b=>by simp;omega) L
 have hd:(z7x L).Nodup:=(z7b L).nodup_iff.2 hn
 have hu:UpT id (z7x L):=by
  rw [up_int]
  refine (hs.and hd).imp ?_
  rintro a b ⟨h1,h2⟩
  simp at h1
  omega
 exact up_same hu hm fun x=>by rw [(z7b L).mem_iff,h]
theorem hd_row {w:World} {base g n c:Nat} {L:List Int} (h:w.ownsRow base 32 1 (.slice (some ⟨g,0,none⟩) n c) n (uL L)):HdU w g 0 L.toArray∧L.length=n∧n≤c∧c≤maxLen:=by
 have hl:L.length=n:=by
  have h1:=h.1
  unfold uL at h1
  rw [z2l juc_len] at h1
  omega
 rcases h.2 with hn | ⟨g',cap,cur,he,h1,h2,h3,h4,h5,h6⟩
 · cases hn.1
 · cases he
   refine⟨⟨cur,h2,fun t ht=>?_⟩,hl,h3,h4⟩
   have ht':t<L.length:=by simpa using ht
   have e1:(uL L)[t*1+0]?=(juc (L.getD t 0))[0]?:=z5v juc_len L t 0 ht' (by omega)
   rw [Nat.mul_one,Nat.add_zero,← h6,List.getElem?_take,if_pos (by omega)] at e1
   rw [Nat.zero_add,← Array.getElem?_toList,e1,getElem!_pos L.toArray t (by simpa using ht')]
   simp [juc,List.getD,List.getElem?_eq_getElem ht']
abbrev ULj (w:World) (p:Option Addr) (n c:Nat) (L:List Int):Prop:=SlG juc 1 0 w p n c L
theorem ul_hd {w:World} {g n c:Nat} {L:List Int} (h:HdU w g 0 L.toArray) (hl:L.length=n) (hc:n≤c) (hm:c≤maxLen):ULj w (some ⟨g,0,none⟩) n c L:=by
 refine⟨hl,hc,hm,(fun e=>by cases e),fun h0=>⟨g,0,rfl,h.lt,fun j hj i v hv=>?_⟩⟩
 have hi:i<1:=(List.getElem?_eq_some_iff.1 hv).1
 obtain rfl:i=0:=by omega
 have hj':j<L.length:=by omega
 have h1:=h.cell (t:=j) (by simpa using hj')
 rw [getElem!_pos L.toArray j (by simpa using hj')] at h1
 rw [Nat.mul_one,Nat.add_zero,h1]
 simpa [juc,List.getD,List.getElem?_eq_getElem hj'] using hv
def z9i (NB:Nat):Prop:=∀ (g n c:Nat) (L:List Int) (w:World),HdU w g 0 L.toArray→L.length=n→n≤NB→n≤c→Calls Tryz.prog 86 #[.slice (some ⟨g,0,none⟩) n c] w fun e w'=>e=.returned (.tuple #[])∧Sd w g 0 (z7x L).toArray w'
theorem len64_u (n:Nat) (hn:n≤255) (w:World):Calls Tryz.prog 140 #[.int .u64 n] w fun e w'=>(∃ v:Int,e=.returned (.int .i64 v)∧0≤v∧v≤8∧(n=0∨2 ^ v.toNat≤2*n))∧w'=w:=by
 have t1:¬ (4294967296:Int)≤n:=by omega
 have t2:¬ (65536:Int)≤n:=by omega
 have t3:¬ (256:Int)≤n:=by omega
 go_enter Tryz.func140,Tryz.ntmps140
 go_wp2_with fail
 go_ret
 refine⟨⟨_,rfl,?_⟩,rfl⟩
 clear t1 t2
 obtain⟨m,rfl⟩:∃ m:Fin 256,n=m.val:=⟨⟨n,by omega⟩,rfl⟩
 clear hn
 revert t3
 revert m
 decide +kernel
theorem jlen_u (n:Nat) (hn:n≤255) (w:World):Calls Tryz.prog 108 #[.int .u64 n] w fun e w'=>(∃ v:Nat,e=.returned (.int .i64 v)∧v≤8∧(n=0∨2 ^ v≤2*n))∧w'=w:=by
 have h:=len64_u n hn w
 clear hn
 go_enter Tryz.func108,Tryz.ntmps108
 go_wp2_with fail
 refine h.mono ?_
 rintro e w' ⟨⟨v,rfl,hv⟩,hw⟩
 subst hw
 have HV:=hid hv
 clear hv
 go_wp2_with fail
 go_ret
 obtain⟨h1,h2,h3⟩:=HV.out
 exact⟨⟨v.toNat,by rw [Int.toNat_of_nonneg h1];rfl,by omega,h3⟩,rfl⟩
end Go.Proofs.YtnpjpelbcmgodaaGreatDoor
