import Derived.Test.YtclbkfpbdidaiaaGreatDoorPC06
import Derived.BigQuiet
namespace Go.Proofs.YtclbkfpbdidaiaaGreatDoor
open Go.Lib (hid)
open Go.RowKit Go.ChangeShapes Go.WideShapes
set_option linter.unusedVariables false
set_option maxRecDepth 10000
theorem good_any (s w a b c:Int) (hb:0≤b∧b≤255) (hc:0≤c∧c≤255) (W:World) :
 Calls Tryz.prog 121 #[.int .i64 s,.int .i64 w,.agg #[.int .u8 a,.int .u8 b,.int .u8 c]] W fun e w'=>e=.returned (.bool (z5o s w a b c))∧Gr W w':=by
 obtain⟨hb0,hb1⟩:=hb
 obtain⟨hc0,hc1⟩:=hc
 have hz:=fun W=>ksized_any s w W
 have hx:=fun W=>width_any a w W
 cases h1:z0m s w with
 | false =>
  have hF:z5o s w a b c=false:=by simp [z5o,h1]
  rw [hF]
  rw [h1] at hz
  clear hF h1
  go_enter Tryz.func121,Tryz.ntmps121
  go_wp2_with fail
  have HG:=hid ((Gr.refl W).alloc (.cells #[.int .u8 a,.int .u8 b,.int .u8 c] 40))
  have e0:(W.alloc (.cells #[.int .u8 a,.int .u8 b,.int .u8 c] 40)).cell? ⟨W.heap.size,0,none⟩=some (.int .u8 a):=by simp
  have e1:(W.alloc (.cells #[.int .u8 a,.int .u8 b,.int .u8 c] 40)).cell? ⟨W.heap.size,1,none⟩=some (.int .u8 b):=by simp
  have e2:(W.alloc (.cells #[.int .u8 a,.int .u8 b,.int .u8 c] 40)).cell? ⟨W.heap.size,2,none⟩=some (.int .u8 c):=by simp
  generalize W.alloc (.cells #[.int .u8 a,.int .u8 b,.int .u8 c] 40)=W1 at *
  generalize W.heap.size=X at *
  go_quiet (first
   | (go_at_call 140;exact Calls.quiet_of_same (hz _)))
  go_wp2_with fail
  go_ret
  exact⟨rfl,HG.out.drewN _⟩
 | true =>
  rw [h1] at hz
  by_cases h2:b<s
  · have hF:z5o s w a b c=decide (c<z6s a w):=by simp [z5o,h1,h2]
    rw [hF]
    clear hF h1
    generalize z6s a w=x at *
    go_enter Tryz.func121,Tryz.ntmps121
    go_wp2_with fail
    have HG:=hid ((Gr.refl W).alloc (.cells #[.int .u8 a,.int .u8 b,.int .u8 c] 40))
    have e0:(W.alloc (.cells #[.int .u8 a,.int .u8 b,.int .u8 c] 40)).cell? ⟨W.heap.size,0,none⟩=some (.int .u8 a):=by simp
    have e1:(W.alloc (.cells #[.int .u8 a,.int .u8 b,.int .u8 c] 40)).cell? ⟨W.heap.size,1,none⟩=some (.int .u8 b):=by simp
    have e2:(W.alloc (.cells #[.int .u8 a,.int .u8 b,.int .u8 c] 40)).cell? ⟨W.heap.size,2,none⟩=some (.int .u8 c):=by simp
    generalize W.alloc (.cells #[.int .u8 a,.int .u8 b,.int .u8 c] 40)=W1 at *
    generalize W.heap.size=X at *
    go_quiet (first
     | (go_at_call 140;exact Calls.quiet_of_same (hz _))
     | (go_at_call 141;exact Calls.quiet_of_same (hx _)))
    go_wp2_with fail
    go_ret
    exact⟨rfl,HG.out.drewN _⟩
  · have hF:z5o s w a b c=false:=by simp [z5o,h2]
    rw [hF]
    clear hF h1
    have h2':decide (b<s)=false:=by simpa using h2
    go_enter Tryz.func121,Tryz.ntmps121
    go_wp2_with fail
    have HG:=hid ((Gr.refl W).alloc (.cells #[.int .u8 a,.int .u8 b,.int .u8 c] 40))
    have e0:(W.alloc (.cells #[.int .u8 a,.int .u8 b,.int .u8 c] 40)).cell? ⟨W.heap.size,0,none⟩=some (.int .u8 a):=by simp
    have e1:(W.alloc (.cells #[.int .u8 a,.int .u8 b,.int .u8 c] 40)).cell? ⟨W.heap.size,1,none⟩=some (.int .u8 b):=by simp
    have e2:(W.alloc (.cells #[.int .u8 a,.int .u8 b,.int .u8 c] 40)).cell? ⟨W.heap.size,2,none⟩=some (.int .u8 c):=by simp
    generalize W.alloc (.cells #[.int .u8 a,.int .u8 b,.int .u8 c] 40)=W1 at *
    generalize W.heap.size=X at *
    go_quiet (first
     | (go_at_call 140;exact Calls.quiet_of_same (hz _)))
    go_wp2_with fail
    go_ret
    exact⟨rfl,HG.out.drewN _⟩
end Go.Proofs.YtclbkfpbdidaiaaGreatDoor
