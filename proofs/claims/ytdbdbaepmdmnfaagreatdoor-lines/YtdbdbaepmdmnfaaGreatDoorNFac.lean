import Derived.Test.YtdbdbaepmdmnfaaGreatDoorRows
import Derived.WalkKit
import Derived.OpenShut
import Derived.JoinedOf
namespace Go.Proofs.YtdbdbaepmdmnfaaGreatDoor
open Go.ChangeShapes Go.WideShapes Go.RowKit
theorem lines_maps : mapsRowed Tryz.prog = true := by kernel_rfl
theorem lines_heard : Tryz.prog.stopsHeard = true := by kernel_rfl
theorem lines_enter : Tryz.prog.mayEnter = true := by kernel_rfl
theorem lines_lift : (Rows.linesRow.lifted == Tryz.prog.liftsFinal) = true := by kernel_rfl
theorem lines_keys : (Rows.linesRow.plainKeys == Tryz.prog.plainKeys) = true := by kernel_rfl
theorem lines_make : (Tryz.prog.make == some Rows.linesRow.make) = true := by kernel_rfl
end Go.Proofs.YtdbdbaepmdmnfaaGreatDoor
