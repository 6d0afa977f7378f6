import Derived.Test.YtfdgnniicjdjdaaGreatDoorPS03
import Derived.WalkSpells
namespace Go.Proofs.YtfdgnniicjdjdaaGreatDoor
open Go.RowKit Go.ChangeShapes Go.WideShapes
set_option linter.unusedVariables false
set_option maxRecDepth 10000
set_option linter.unusedSimpArgs false
theorem kept_any (x hi:Int) (w:World) (h0:0≤hi):Calls Tryz.prog 99 #[.int .i64 x,.int .i64 hi] w fun e w'=>e=.returned (.int .i64 (kp x hi:Nat))∧w'=w:=by
 have hk:(if hi<(if x<0 then 0 else x) then hi else (if x<0 then 0 else x))=((kp x hi:Nat):Int):=by unfold kp;split <;> split <;> omega
 have hk2:min (max x 0) hi=((kp x hi:Nat):Int):=by unfold kp;omega
 have hk3:min hi (max x 0)=((kp x hi:Nat):Int):=by unfold kp;omega
 generalize kp x hi=y at *
 go_enter Tryz.func99,Tryz.ntmps99
 go_wp2_with fail
 all_goals (go_ret;exact⟨rfl,rfl⟩)
theorem blocks_any (B G s:Nat) (V:List (List Int)) (w:World) (h:Vo w B G s V):Calls Tryz.prog 147 #[.pointer (some ⟨B,0,none⟩)] w fun e w'=>e=.returned (.int .i64 (V.length:Nat))∧w'=w:=by
 obtain⟨c0,c1,c2⟩:=h.cells
 clear h
 generalize V.length=n at *
 go_enter Tryz.func147,Tryz.ntmps147
 go_wp2_with fail
 go_ret
 exact⟨rfl,rfl⟩
theorem size_anyD (B G s:Nat) (V:List (List Int)) (w:World) (h:Vo w B G s V):Calls Tryz.prog 148 #[.pointer (some ⟨B,0,none⟩)] w fun e w'=>e=.returned (.int .i64 (s:Nat))∧w'=w:=by
 obtain⟨c0,c1,c2⟩:=h.cells
 clear h
 go_enter Tryz.func148,Tryz.ntmps148
 go_wp2_with fail
 go_ret
 exact⟨rfl,rfl⟩
end Go.Proofs.YtfdgnniicjdjdaaGreatDoor
