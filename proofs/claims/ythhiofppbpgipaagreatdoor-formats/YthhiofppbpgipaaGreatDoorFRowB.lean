import Derived.Test.YthhiofppbpgipaaGreatDoorFRow
namespace Go.Proofs.YthhiofppbpgipaaGreatDoor
open Go.RowKit
set_option maxRecDepth 100000 in
theorem row313 (u : TypeId) (h : Tryz.prog.typeName? 3 u = some "*errors.errorString") : u = 532 := by
  refine typeName_ptr_named (P := Tryz.prog) (nm := "errors.errorString") (tp := 532) ?_ tn_all (by decide) u (by rw [star]; exact h)
  rw [star]
  exact tr_all
end Go.Proofs.YthhiofppbpgipaaGreatDoor
