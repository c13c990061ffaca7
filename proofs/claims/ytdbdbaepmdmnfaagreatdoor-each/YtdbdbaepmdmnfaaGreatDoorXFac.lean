import Derived.WalkKit
import Derived.Test.YtdbdbaepmdmnfaaGreatDoorRows
import Derived.OpenShut
import Derived.JoinedOf
namespace Go.Proofs.YtdbdbaepmdmnfaaGreatDoor
open Go.ChangeShapes Go.WideShapes Go.RowKit
theorem each_maps : mapsRowed Tryz.prog = true := by kernel_rfl
theorem each_heard : Tryz.prog.stopsHeard = true := by kernel_rfl
theorem each_enter : Tryz.prog.mayEnter = true := by kernel_rfl
theorem each_lift : (Rows.eachRow.lifted == Tryz.prog.liftsFinal) = true := by kernel_rfl
theorem each_keys : (Rows.eachRow.plainKeys == Tryz.prog.plainKeys) = true := by kernel_rfl
theorem each_make : (Tryz.prog.make == some Rows.eachRow.make) = true := by kernel_rfl
end Go.Proofs.YtdbdbaepmdmnfaaGreatDoor
