import Derived.WalkKit
import Derived.Test.YthkknpjoifoanaaGreatDoorRows
import Derived.OpenShut
import Derived.JoinedOf
namespace Go.Proofs.YthkknpjoifoanaaGreatDoor
open Go.ChangeShapes Go.WideShapes Go.RowKit
theorem longest_maps : mapsRowed Tryz.prog = true := by kernel_rfl
theorem longest_heard : Tryz.prog.stopsHeard = true := by kernel_rfl
theorem longest_enter : Tryz.prog.mayEnter = true := by kernel_rfl
theorem longest_lift : (Rows.longestRow.lifted == Tryz.prog.liftsFinal) = true := by kernel_rfl
theorem longest_keys : (Rows.longestRow.plainKeys == Tryz.prog.plainKeys) = true := by kernel_rfl
theorem longest_make : (Tryz.prog.make == some Rows.longestRow.make) = true := by kernel_rfl
end Go.Proofs.YthkknpjoifoanaaGreatDoor
