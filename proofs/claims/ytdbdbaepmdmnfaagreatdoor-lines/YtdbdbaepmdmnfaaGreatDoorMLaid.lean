import Derived.Test.YtdbdbaepmdmnfaaGreatDoorRows
import Derived.WalkKit
import Derived.OpenShut
namespace Go.Proofs.YtdbdbaepmdmnfaaGreatDoor
open Go.ChangeShapes Go.WideShapes Go.RowKit
theorem all_range {f : Nat → Bool} {n : Nat} (h : ∀ i, i < n → f i = true) : (List.range n).all f = true := List.all_eq_true.2 fun i hi => h i (List.mem_range.1 hi)
theorem all_part {f : Nat → Bool} {a m : Nat} (h : (List.range' a m).all f = true) : ∀ i, a ≤ i → i < a + m → f i = true := fun i h1 h2 => List.all_eq_true.1 h i (List.mem_range'_1.2 ⟨h1, h2⟩)
theorem rows_0 : (List.range' 0 60).all (rowFine Tryz.prog) = true := by kernel_rfl
theorem rows_60 : (List.range' 60 60).all (rowFine Tryz.prog) = true := by kernel_rfl
theorem rows_120 : (List.range' 120 60).all (rowFine Tryz.prog) = true := by kernel_rfl
theorem rows_180 : (List.range' 180 60).all (rowFine Tryz.prog) = true := by kernel_rfl
theorem rows_240 : (List.range' 240 60).all (rowFine Tryz.prog) = true := by kernel_rfl
theorem rows_300 : (List.range' 300 60).all (rowFine Tryz.prog) = true := by kernel_rfl
theorem rows_360 : (List.range' 360 60).all (rowFine Tryz.prog) = true := by kernel_rfl
theorem rows_420 : (List.range' 420 60).all (rowFine Tryz.prog) = true := by kernel_rfl
theorem rows_480 : (List.range' 480 60).all (rowFine Tryz.prog) = true := by kernel_rfl
theorem rows_540 : (List.range' 540 50).all (rowFine Tryz.prog) = true := by kernel_rfl
theorem ntypes : Tryz.prog.types.size = 590 := by kernel_rfl
theorem glob_fine : Tryz.prog.globals.all (fun g => decide (g.type < Tryz.prog.types.size)) = true := by kernel_rfl
theorem func_fine : Tryz.prog.funcs.all (fun f => f.params.all fun t => decide (t < Tryz.prog.types.size)) = true := by kernel_rfl
theorem m_laidOut : laidOutB Tryz.prog = true := by
  unfold laidOutB
  rw [glob_fine, func_fine, Bool.and_true, Bool.and_true]
  refine all_range fun i hi => ?_
  rw [ntypes] at hi
  by_cases h0 : i < 60
  · exact all_part rows_0 i (by omega) (by omega)
  by_cases h60 : i < 120
  · exact all_part rows_60 i (by omega) (by omega)
  by_cases h120 : i < 180
  · exact all_part rows_120 i (by omega) (by omega)
  by_cases h180 : i < 240
  · exact all_part rows_180 i (by omega) (by omega)
  by_cases h240 : i < 300
  · exact all_part rows_240 i (by omega) (by omega)
  by_cases h300 : i < 360
  · exact all_part rows_300 i (by omega) (by omega)
  by_cases h360 : i < 420
  · exact all_part rows_360 i (by omega) (by omega)
  by_cases h420 : i < 480
  · exact all_part rows_420 i (by omega) (by omega)
  by_cases h480 : i < 540
  · exact all_part rows_480 i (by omega) (by omega)
  exact all_part rows_540 i (by omega) (by omega)
end Go.Proofs.YtdbdbaepmdmnfaaGreatDoor
