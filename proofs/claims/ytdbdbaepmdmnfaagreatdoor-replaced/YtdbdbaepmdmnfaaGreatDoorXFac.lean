import Derived.WalkKit
import Derived.Test.YtdbdbaepmdmnfaaGreatDoorRows
import Derived.OpenShut
import Derived.JoinedOf
namespace Go.Proofs.YtdbdbaepmdmnfaaGreatDoor
open Go.ChangeShapes Go.WideShapes Go.RowKit
theorem replaced_maps : mapsRowed Tryz.prog = true := by kernel_rfl
theorem replaced_heard : Tryz.prog.stopsHeard = true := by kernel_rfl
theorem replaced_enter : Tryz.prog.mayEnter = true := by kernel_rfl
theorem replaced_lift : (Rows.replacedRow.lifted == Tryz.prog.liftsFinal) = true := by kernel_rfl
theorem replaced_keys : (Rows.replacedRow.plainKeys == Tryz.prog.plainKeys) = true := by kernel_rfl
theorem replaced_make : (Tryz.prog.make == some Rows.replacedRow.make) = true := by kernel_rfl
end Go.Proofs.YtdbdbaepmdmnfaaGreatDoor
