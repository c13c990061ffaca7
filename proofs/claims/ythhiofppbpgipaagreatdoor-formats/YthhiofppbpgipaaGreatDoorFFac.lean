import Derived.WalkKit
import Derived.Test.YthhiofppbpgipaaGreatDoorRows
import Derived.OpenShut
import Derived.JoinedOf
namespace Go.Proofs.YthhiofppbpgipaaGreatDoor
open Go.ChangeShapes Go.WideShapes Go.RowKit
theorem lf_lift : (Rows.formatsRow.lifted == Tryz.prog.liftsFinal) = true := by kernel_rfl
theorem lf_keys : (Rows.formatsRow.plainKeys == Tryz.prog.plainKeys) = true := by kernel_rfl
theorem lf_make : (Tryz.prog.make == some Rows.formatsRow.make) = true := by kernel_rfl
end Go.Proofs.YthhiofppbpgipaaGreatDoor
