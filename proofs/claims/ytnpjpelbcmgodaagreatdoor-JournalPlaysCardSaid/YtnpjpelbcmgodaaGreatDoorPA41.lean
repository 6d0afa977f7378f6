import Derived.Test.YtnpjpelbcmgodaaGreatDoorPA07
import Derived.Sort.LotB
namespace Go.Proofs.YtnpjpelbcmgodaaGreatDoor
open Go.Lib (hid)
set_option maxHeartbeats 8000000
open Go.RowKit Go.ChangeShapes Go.WideShapes
set_option linter.unusedVariables false
set_option linter.unusedSimpArgs false
set_option maxRecDepth 10000
def Pm (w:World) (blk off a b:Nat) (d:Array Int) (w':World):Prop:=∃ d',Sort.PermIn a b d d'∧Sd w blk off d' w'
theorem z4p {a b i j:Nat} {d dk:Array Int} (h:Sort.PermIn a b d dk) (hb:b≤dk.size) (h1:a≤i) (h2:i<b) (h3:a≤j) (h4:j<b):Sort.PermIn a b d (Sort.swp dk i j) :=
 Sort.permIn_trans _ _ _ _ _ h (Sort.swp_permIn _ _ _ _ _ h1 h2 h3 h4 hb)
set_option maxRecDepth 100000 in
theorem reverse_u (blk off cap a b n:Nat) (d:Array Int) (w:World) (hH:HdU w blk off d) (hdn:d.size=n) (hab:a<b) (hb:b≤n) (hsz:n≤1000000000) :
 Calls Tryz.prog 134 #[.slice (some ⟨blk,off,none⟩) n cap,.int .i64 a,.int .i64 b] w fun e w'=>e=.returned (.tuple #[])∧Pm w blk off a b d w':=by
 have HS:=hid (Sd.refl hH)
 have HDN:=hid hdn
 clear hH hdn
 go_enter Tryz.func134,Tryz.ntmps134
 go_wp2_with fail
 go_loopw [6,7] (fun vi vj wr=>∃ (i j:Nat) (dk:Array Int),vi=.int .i64 (i:Int)∧vj=.int .i64 (j:Int)∧a≤i∧j<b∧i≤j+2∧Hid (dk.size=n)∧Hid (Sd w blk off dk wr)∧Hid (Sort.PermIn a b d dk)) (fun vi vj _=>(Go.RowKit.intOf vj-Go.RowKit.intOf vi+2).toNat)
 case atStart=>exact⟨a,b-1,d,rfl,by congr 1;omega,Nat.le_refl _,by omega,by omega,HDN,HS,hid (Sort.permIn_refl _ _ _)⟩
 case round =>
  obtain⟨i,j,dk,rfl,rfl,hai,hjb,hij,HK,HW,HP⟩:=hrel
  by_cases hlt:i<j
  · have hlt':(i:Int)<j:=by omega
    obtain⟨G,hG⟩:∃ G:Nat→Int,∀ t,G t=dk[t]!:=⟨fun t=>dk[t]!,fun _=>rfl⟩
    have hcw:∀ t,t<n→wr.cell? ⟨blk,off+t,none⟩=some (.int .u32 (G t)):=fun t ht=>by
     rw [hG]
     exact HW.out.1.cell (by rw [HK.out];exact ht)
    have hfw:∀ t,t<n→wr.frozen? ⟨blk,off+t,none⟩=false:=fun t _=>HW.out.1.free t
    have HG:=hid hG
    clear hG
    go_wp2
    go_region
    all_goals go_wp2
    go_roundw
    case rel =>
     refine⟨i+1,j-1,Sort.swp dk i j,by go_num,by congr 1;omega,by omega,by omega,by omega,hid (by rw [Sort.swp_size];exact HK.out),hid ?_,hid (z4p HP.out (by rw [HK.out];exact hb) hai (by omega) (by omega) hjb)⟩
     have h1:=(HW.out.drewN 1).swap (i:=i) (j:=j) (by rw [HK.out];omega) (by rw [HK.out];omega)
     rw [← HG.out,← HG.out] at h1
     exact h1
    case measure =>
     simp [Go.RowKit.intOf]
     omega
  · have hlt':¬ (i:Int)<j:=by omega
    go_wp2_with fail
    go_end0
    exact⟨rfl,dk,HP.out,HW.out⟩
end Go.Proofs.YtnpjpelbcmgodaaGreatDoor
