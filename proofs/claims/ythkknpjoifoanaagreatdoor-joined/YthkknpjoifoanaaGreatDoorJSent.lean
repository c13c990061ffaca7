import Derived.Test.YthkknpjoifoanaaGreatDoorFRow
import Derived.Test.YthkknpjoifoanaaGreatDoorQ35
import Derived.OpenShut
import Derived.Deep.DeepHandedRow
import Derived.Deep.DeepWitnessRowRef
import Derived.Lib.LaidTab
import Derived.Stop.LaidTwo
namespace Go.Proofs.YthkknpjoifoanaaGreatDoor
open Go.ChangeShapes Go.WideShapes Go.ChangeAt Go.RowKit
/-- Of a list that is laid the second may be left out. -/
theorem laidMet_drop2 {P : Program} {x y : String × DataW Unit} {r : List (String × DataW Unit)} {W : World} (h : laidMet P (x :: y :: r) W) : laidMet P (x :: r) W := by
  obtain ⟨ps, ⟨g0, t0, cs0, f0, p0, q0, hg0, ht0, hv0, hd0, ⟨g1, t1, cs1, f1, p1, q1, hg1, ht1, hv1, hd1, hr, e1⟩, e0⟩, hnd, hrows⟩ := h
  subst e1
  subst e0
  refine ⟨_, ⟨g0, t0, cs0, f0, p0, q1, hg0, ht0, hv0, hd0, hr, rfl⟩, ?_, fun b off hm => hrows b off ?_⟩
  · exact List.Sublist.nodup (List.Sublist.append (List.Sublist.refl _) (List.sublist_append_right _ _)) hnd
  · exact (List.Sublist.append (List.Sublist.refl _) (List.sublist_append_right _ _)).subset hm
theorem cells556 : Tryz.prog.cellsOf 556 = 1 := by kernel_rfl
theorem cells9e : Tryz.prog.cellsOf 9 = 1 := by kernel_rfl
theorem g_ErrFuel : Tryz.prog.globalNamed "glean/fault.ErrFuel" = some 0 := by kernel_rfl
theorem t_ErrFuel : (Tryz.prog.globals[0]?).map (·.type) = some 61 := by kernel_rfl
theorem g_ErrZero : Tryz.prog.globalNamed "glean/fault.ErrZero" = some 1 := by kernel_rfl
theorem t_ErrZero : (Tryz.prog.globals[1]?).map (·.type) = some 61 := by kernel_rfl
theorem g_ErrField : Tryz.prog.globalNamed "glean/fault.ErrField" = some 2 := by kernel_rfl
theorem t_ErrField : (Tryz.prog.globals[2]?).map (·.type) = some 61 := by kernel_rfl
theorem g_ErrRegex : Tryz.prog.globalNamed "glean/fault.ErrRegex" = some 3 := by kernel_rfl
theorem t_ErrRegex : (Tryz.prog.globals[3]?).map (·.type) = some 61 := by kernel_rfl
theorem g_ErrText : Tryz.prog.globalNamed "glean/fault.ErrText" = some 4 := by kernel_rfl
theorem t_ErrText : (Tryz.prog.globals[4]?).map (·.type) = some 61 := by kernel_rfl
theorem g_ErrDeep : Tryz.prog.globalNamed "glean/fault.ErrDeep" = some 5 := by kernel_rfl
theorem t_ErrDeep : (Tryz.prog.globals[5]?).map (·.type) = some 61 := by kernel_rfl
theorem g_ErrFormat : Tryz.prog.globalNamed "glean/fault.ErrFormat" = some 6 := by kernel_rfl
theorem t_ErrFormat : (Tryz.prog.globals[6]?).map (·.type) = some 61 := by kernel_rfl
theorem g_ErrOut : Tryz.prog.globalNamed "glean/fault.ErrOut" = some 7 := by kernel_rfl
theorem t_ErrOut : (Tryz.prog.globals[7]?).map (·.type) = some 61 := by kernel_rfl
def ErrAt (W : World) (g : Nat) : Prop := ∃ a, W.cell? ⟨g, 0, none⟩ = some (.iface 554 (.pointer (some a)))
theorem errs_two {n0 n1 : String} {t0 t1 : List UInt8} {r : List (String × DataW Unit)} {W : World} {g0 g1 : Nat} (h : laidMet Tryz.prog ((n0, .iface "*errors.errorString" (.ptr (.agg [.lit (.string t0)]))) :: (n1, .iface "*errors.errorString" (.ptr (.agg [.lit (.string t1)]))) :: r) W)
    (hg0 : Tryz.prog.globalNamed n0 = some g0) (ht0 : (Tryz.prog.globals[g0]?).map (·.type) = some 61) (hg1 : Tryz.prog.globalNamed n1 = some g1) (ht1 : (Tryz.prog.globals[g1]?).map (·.type) = some 61) : ErrAt W g0 ∧ ErrAt W g1 := by
  obtain ⟨a0, a1, _, _, _, _, _, _, hv0, hv1, _⟩ := laid_sentinels2 h hg0 ht0 hg1 ht1 Tryz.underlying61 row554 Tryz.underlying554 Tryz.underlying556 rfl rfl Tryz.underlying9 cells556 cells9e
  exact ⟨⟨a0, by simpa using World.var?_cell hg0 hv0 0⟩, ⟨a1, by simpa using World.var?_cell hg1 hv1 0⟩⟩
theorem joined_sent {W : World} (hL : laidMetH Tryz.prog Rows.joinedRow.laid W) : Sent W := by
  have e : laidMetH Tryz.prog Rows.joinedRow.laid W = laidMet Tryz.prog Rows.joinedRow.laid W := by kernel_rfl
  rw [e] at hL
  have h1 := laidMet.tail hL
  have h2 := laidMet.tail h1
  have h3 := laidMet.tail h2
  have h4 := laidMet.tail h3
  have h5 := laidMet.tail h4
  have h6 := laidMet.tail h5
  have h7 := laidMet.tail h6
  have h8 := laidMet.tail h7
  have h9 := laidMet.tail h8
  have h10 := laidMet.tail h9
  have h11 := laidMet.tail h10
  have h12 := laidMet.tail h11
  obtain ⟨e3, e2⟩ := errs_two h5 g_ErrRegex t_ErrRegex g_ErrField t_ErrField
  obtain ⟨e4, e5⟩ := errs_two h7 g_ErrText t_ErrText g_ErrDeep t_ErrDeep
  obtain ⟨e6, e1⟩ := errs_two h9 g_ErrFormat t_ErrFormat g_ErrZero t_ErrZero
  obtain ⟨e0, e7⟩ := errs_two h11 g_ErrFuel t_ErrFuel g_ErrOut t_ErrOut
  intro k hk
  match k, hk with
  | 0, _ => exact e0
  | 1, _ => exact e1
  | 2, _ => exact e2
  | 3, _ => exact e3
  | 4, _ => exact e4
  | 5, _ => exact e5
  | 6, _ => exact e6
  | 7, _ => exact e7
theorem longest_sent {W : World} (hL : laidMetH Tryz.prog Rows.longestRow.laid W) : Sent W := by
  have e : laidMetH Tryz.prog Rows.longestRow.laid W = laidMet Tryz.prog Rows.longestRow.laid W := by kernel_rfl
  rw [e] at hL
  have h1 := laidMet.tail hL
  have h2 := laidMet.tail h1
  have h3 := laidMet.tail h2
  have h4 := laidMet.tail h3
  have h5 := laidMet.tail h4
  have h6 := laidMet.tail h5
  have h7 := laidMet.tail h6
  have h8 := laidMet.tail h7
  have h9 := laidMet.tail h8
  have h10 := laidMet.tail h9
  have h11 := laidMet.tail h10
  have h12 := laidMet.tail h11
  obtain ⟨e3, e2⟩ := errs_two h5 g_ErrRegex t_ErrRegex g_ErrField t_ErrField
  obtain ⟨e4, e5⟩ := errs_two h7 g_ErrText t_ErrText g_ErrDeep t_ErrDeep
  obtain ⟨e6, e1⟩ := errs_two h9 g_ErrFormat t_ErrFormat g_ErrZero t_ErrZero
  obtain ⟨e0, e7⟩ := errs_two h11 g_ErrFuel t_ErrFuel g_ErrOut t_ErrOut
  intro k hk
  match k, hk with
  | 0, _ => exact e0
  | 1, _ => exact e1
  | 2, _ => exact e2
  | 3, _ => exact e3
  | 4, _ => exact e4
  | 5, _ => exact e5
  | 6, _ => exact e6
  | 7, _ => exact e7
end Go.Proofs.YthkknpjoifoanaaGreatDoor
