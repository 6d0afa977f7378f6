import Derived.WalkKit
namespace Go.Proofs.YtclbkfpbdidaiaaGreatDoor
set_option maxRecDepth 10000
def val (z:Int):Int:=if -9223372036854775808≤z∧z≤9223372036854775807 then z else 0
def okB (z:Int):Bool:=decide (-9223372036854775808≤z∧z≤9223372036854775807)
theorem val_in (z:Int) (h:-9223372036854775808≤z∧z≤9223372036854775807):val z=z:=if_pos h
theorem val_out (z:Int) (h:¬ (-9223372036854775808≤z∧z≤9223372036854775807)):val z=0:=if_neg h
theorem okB_in (z:Int) (h:-9223372036854775808≤z∧z≤9223372036854775807):okB z=true:=decide_eq_true h
theorem okB_out (z:Int) (h:¬ (-9223372036854775808≤z∧z≤9223372036854775807)):okB z=false:=decide_eq_false h
theorem two_in (z:Int) (h:-9223372036854775808≤z∧z≤9223372036854775807):Ending.returned (.tuple #[.int .i64 z,.bool true])=Ending.returned (.tuple #[.int .i64 (val z),.bool (okB z)]):=by rw [val_in z h,okB_in z h]
theorem two_out (z:Int) (h:¬ (-9223372036854775808≤z∧z≤9223372036854775807)):Ending.returned (.tuple #[.int .i64 0,.bool false])=Ending.returned (.tuple #[.int .i64 (val z),.bool (okB z)]):=by rw [val_out z h,okB_out z h]
theorem ret_int {k:IntKind} {a b:Int} (h:a=b):Ending.returned (.int k a)=.returned (.int k b):=by rw [h]
def sg (x:Int):Int:=if x<0 then 18446744073709551615 else 0
theorem u64w (x:Int):IntKind.u64.wrap x=x % 18446744073709551616:=by simp [IntKind.wrap,IntKind.bits,IntKind.signed]
end Go.Proofs.YtclbkfpbdidaiaaGreatDoor
