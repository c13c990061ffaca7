import Derived.WalkKit
import Derived.Test.YtdbdbaepmdmnfaaGreatDoorRows
import Derived.OpenShut
import Derived.JoinedOf
namespace Go.Proofs.YtdbdbaepmdmnfaaGreatDoor
open Go.ChangeShapes Go.WideShapes Go.RowKit
theorem fields_maps : mapsRowed Tryz.prog = true := by kernel_rfl
theorem fields_heard : Tryz.prog.stopsHeard = true := by kernel_rfl
theorem fields_enter : Tryz.prog.mayEnter = true := by kernel_rfl
theorem fields_lift : (Rows.fieldsRow.lifted == Tryz.prog.liftsFinal) = true := by kernel_rfl
theorem fields_keys : (Rows.fieldsRow.plainKeys == Tryz.prog.plainKeys) = true := by kernel_rfl
theorem fields_make : (Tryz.prog.make == some Rows.fieldsRow.make) = true := by kernel_rfl
end Go.Proofs.YtdbdbaepmdmnfaaGreatDoor
