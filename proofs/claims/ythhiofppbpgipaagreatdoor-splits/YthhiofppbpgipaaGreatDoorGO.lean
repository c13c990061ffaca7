import Derived.WalkKit
import Derived.Test.YthhiofppbpgipaaGreatDoorRows
import Derived.OpenShut
import Derived.JoinedOf
namespace Go.Proofs.YthhiofppbpgipaaGreatDoor
open Go.ChangeShapes Go.WideShapes Go.RowKit
theorem l_maps : mapsRowed Tryz.prog = true := by kernel_rfl
theorem l_heard : Tryz.prog.stopsHeard = true := by kernel_rfl
theorem l_enter : Tryz.prog.mayEnter = true := by kernel_rfl
end Go.Proofs.YthhiofppbpgipaaGreatDoor

namespace Go.Proofs.YthhiofppbpgipaaGreatDoor
open Go.ChangeShapes Go.WideShapes Go.RowKit
theorem l_lift : (Rows.matchesRow.lifted == Tryz.prog.liftsFinal) = true := by kernel_rfl
theorem l_keys : (Rows.matchesRow.plainKeys == Tryz.prog.plainKeys) = true := by kernel_rfl
theorem l_make : (Tryz.prog.make == some Rows.matchesRow.make) = true := by kernel_rfl
end Go.Proofs.YthhiofppbpgipaaGreatDoor

