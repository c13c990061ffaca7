import Derived.WalkKit
import Derived.Test.YthhiofppbpgipaaGreatDoorRows
import Derived.OpenShut
import Derived.JoinedOf
namespace Go.Proofs.YthhiofppbpgipaaGreatDoor
open Go.ChangeShapes Go.WideShapes Go.RowKit
theorem ls_lift : (Rows.splitsRow.lifted == Tryz.prog.liftsFinal) = true := by kernel_rfl
theorem ls_keys : (Rows.splitsRow.plainKeys == Tryz.prog.plainKeys) = true := by kernel_rfl
theorem ls_make : (Tryz.prog.make == some Rows.splitsRow.make) = true := by kernel_rfl
end Go.Proofs.YthhiofppbpgipaaGreatDoor
