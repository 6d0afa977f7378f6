import Derived.WalkKit
namespace Go.Proofs.YtclbkfpbdidaiaaGreatDoor
set_option maxRecDepth 10000
def val (z:Int):Int:=if -9223372036854775808≤z∧z≤9223372036854775807 then z else 0
def okB (z:Int):Bool:=decide (-9223372036854775808≤z∧z≤9223372036854775807)
theorem z6t (z:Int) (h:-9223372036854775808≤z∧z≤9223372036854775807):val z=z:=if_pos h
theorem val_out (z:Int) (h:¬ (-9223372036854775808≤z∧z≤9223372036854775807)):val z=0:=if_neg h
theorem q2j (z:Int) (h:-9223372036854775808≤z∧z≤9223372036854775807):okB z=true:=decide_eq_true h
theorem q1f (z:Int) (h:¬ (-9223372036854775808≤z∧z≤9223372036854775807)):okB z=false:=decide_eq_false h
theorem z8q (z:Int) (h:-9223372036854775808≤z∧z≤9223372036854775807):Ending.returned (.tuple #[.int .i64 z,.bool true])=Ending.returned (.tuple #[.int .i64 (val z),.bool (okB z)]):=by rw [z6t z h,q2j z h]
theorem z9r (z:Int) (h:¬ (-9223372036854775808≤z∧z≤9223372036854775807)):Ending.returned (.tuple #[.int .i64 0,.bool false])=Ending.returned (.tuple #[.int .i64 (val z),.bool (okB z)]):=by rw [val_out z h,q1f z h]
theorem ret_int {k:IntKind} {a b:Int} (h:a=b):Ending.returned (.int k a)=.returned (.int k b):=by rw [h]
def sg (x:Int):Int:=if x<0 then 18446744073709551615 else 0
theorem u64w (x:Int):IntKind.u64.wrap x=x % 18446744073709551616:=by simp [IntKind.wrap,IntKind.bits,IntKind.signed]
end Go.Proofs.YtclbkfpbdidaiaaGreatDoor
