import Derived.Test.YtdbdbaepmdmnfaaGreatDoorFRow
import Derived.Test.YtdbdbaepmdmnfaaGreatDoorZ43
import Derived.OpenShut
import Derived.Deep.DeepHandedRow
import Derived.Deep.DeepWitnessRowRef
import Derived.Lib.LaidTab
import Derived.Stop.LaidTwo
namespace Go.Proofs.YtdbdbaepmdmnfaaGreatDoor
open Go.ChangeShapes Go.WideShapes Go.ChangeAt Go.RowKit
/-- Of a list that is laid the second may be left out. -/
theorem laidMet_drop2 {P : Program} {x y : String × DataW Unit} {r : List (String × DataW Unit)} {W : World} (h : laidMet P (x :: y :: r) W) : laidMet P (x :: r) W := by
  obtain ⟨ps, ⟨g0, t0, cs0, f0, p0, q0, hg0, ht0, hv0, hd0, ⟨g1, t1, cs1, f1, p1, q1, hg1, ht1, hv1, hd1, hr, e1⟩, e0⟩, hnd, hrows⟩ := h
  subst e1
  subst e0
  refine ⟨_, ⟨g0, t0, cs0, f0, p0, q1, hg0, ht0, hv0, hd0, hr, rfl⟩, ?_, fun b off hm => hrows b off ?_⟩
  · exact List.Sublist.nodup (List.Sublist.append (List.Sublist.refl _) (List.sublist_append_right _ _)) hnd
  · exact (List.Sublist.append (List.Sublist.refl _) (List.sublist_append_right _ _)).subset hm
theorem cells560 : Tryz.prog.cellsOf 560 = 1 := by kernel_rfl
theorem cells9e : Tryz.prog.cellsOf 9 = 1 := by kernel_rfl
theorem cells113 : Tryz.prog.cellsOf 113 = 1 := by kernel_rfl
theorem cells488 : Tryz.prog.cellsOf 488 = 20 := by kernel_rfl
theorem g_pow : Tryz.prog.globalNamed "internal/strconv.uint64pow10" = some 9 := by kernel_rfl
theorem t_pow : (Tryz.prog.globals[9]?).map (·.type) = some 488 := by kernel_rfl
theorem g_ErrFuel : Tryz.prog.globalNamed "glean/fault.ErrFuel" = some 0 := by kernel_rfl
theorem t_ErrFuel : (Tryz.prog.globals[0]?).map (·.type) = some 74 := by kernel_rfl
theorem g_ErrZero : Tryz.prog.globalNamed "glean/fault.ErrZero" = some 1 := by kernel_rfl
theorem t_ErrZero : (Tryz.prog.globals[1]?).map (·.type) = some 74 := by kernel_rfl
theorem g_ErrField : Tryz.prog.globalNamed "glean/fault.ErrField" = some 2 := by kernel_rfl
theorem t_ErrField : (Tryz.prog.globals[2]?).map (·.type) = some 74 := by kernel_rfl
theorem g_ErrRegex : Tryz.prog.globalNamed "glean/fault.ErrRegex" = some 3 := by kernel_rfl
theorem t_ErrRegex : (Tryz.prog.globals[3]?).map (·.type) = some 74 := by kernel_rfl
theorem g_ErrText : Tryz.prog.globalNamed "glean/fault.ErrText" = some 4 := by kernel_rfl
theorem t_ErrText : (Tryz.prog.globals[4]?).map (·.type) = some 74 := by kernel_rfl
theorem g_ErrDeep : Tryz.prog.globalNamed "glean/fault.ErrDeep" = some 5 := by kernel_rfl
theorem t_ErrDeep : (Tryz.prog.globals[5]?).map (·.type) = some 74 := by kernel_rfl
theorem g_ErrFormat : Tryz.prog.globalNamed "glean/fault.ErrFormat" = some 6 := by kernel_rfl
theorem t_ErrFormat : (Tryz.prog.globals[6]?).map (·.type) = some 74 := by kernel_rfl
theorem g_ErrOut : Tryz.prog.globalNamed "glean/fault.ErrOut" = some 7 := by kernel_rfl
theorem t_ErrOut : (Tryz.prog.globals[7]?).map (·.type) = some 74 := by kernel_rfl
/-- An error variable holds an error, which is a block of its own. -/
def ErrAt (W : World) (g : Nat) (a : Addr) : Prop := W.cell? ⟨g, 0, none⟩ = some (.iface 558 (.pointer (some a))) ∧ ∃ c t, W.heap[a.block]? = some (.cells c t (0, 0))
theorem ErrAt.same {W : World} {g : Nat} {a b : Addr} (h : ErrAt W g a) (k : ErrAt W g b) : a = b := by
  have := h.1.symm.trans k.1
  simpa using this
theorem errs_two {n0 n1 : String} {t0 t1 : List UInt8} {r : List (String × DataW Unit)} {W : World} {g0 g1 : Nat} (h : laidMet Tryz.prog ((n0, .iface "*errors.errorString" (.ptr (.agg [.lit (.string t0)]))) :: (n1, .iface "*errors.errorString" (.ptr (.agg [.lit (.string t1)]))) :: r) W)
    (hg0 : Tryz.prog.globalNamed n0 = some g0) (ht0 : (Tryz.prog.globals[g0]?).map (·.type) = some 74) (hg1 : Tryz.prog.globalNamed n1 = some g1) (ht1 : (Tryz.prog.globals[g1]?).map (·.type) = some 74) : ∃ a0 a1, ErrAt W g0 a0 ∧ ErrAt W g1 a1 ∧ a0 ≠ a1 := by
  obtain ⟨a0, a1, _, _, c0, c1, t0, t1, hv0, hv1, _, _, _, _, _, _, hne, hb0, hb1⟩ := laid_sentinels2 h hg0 ht0 hg1 ht1 Tryz.underlying74 row558 Tryz.underlying558 Tryz.underlying560 rfl rfl Tryz.underlying9 cells560 cells9e
  exact ⟨a0, a1, ⟨by simpa using World.var?_cell hg0 hv0 0, c0, t0, hb0⟩, ⟨by simpa using World.var?_cell hg1 hv1 0, c1, t1, hb1⟩, hne⟩
theorem replaced_laid {W : World} (hL : laidMetH Tryz.prog Rows.replacedRow.laid W) : (∃ a, SentF W a) ∧ Lib.TabIs Tryz.prog W "internal/strconv.uint64pow10" .u64 Lib.pow10Tab := by
  have e : laidMetH Tryz.prog Rows.replacedRow.laid W = laidMet Tryz.prog Rows.replacedRow.laid W := by kernel_rfl
  rw [e] at hL
  have h1 := laidMet.tail hL
  have h2 := laidMet.tail h1
  have h3 := laidMet.tail h2
  have h4 := laidMet.tail h3
  have h5 := laidMet.tail h4
  have h6 := laidMet.tail h5
  have h7 := laidMet.tail h6
  have h8 := laidMet.tail h7
  have h9 := laidMet.tail h8
  have h10 := laidMet.tail h9
  have h11 := laidMet.tail h10
  have h12 := laidMet.tail h11
  obtain ⟨a3, a2, e3, e2, _⟩ := errs_two h5 g_ErrRegex t_ErrRegex g_ErrField t_ErrField
  obtain ⟨a4, a5, e4, e5, _⟩ := errs_two h7 g_ErrText t_ErrText g_ErrDeep t_ErrDeep
  obtain ⟨a6, a1, e6, e1, _⟩ := errs_two h9 g_ErrFormat t_ErrFormat g_ErrZero t_ErrZero
  obtain ⟨a0, a7, e0, e7, _⟩ := errs_two h11 g_ErrFuel t_ErrFuel g_ErrOut t_ErrOut
  obtain ⟨f0, b0, d0, c0, m0⟩ := errs_two (laidMet_drop2 (laidMet_drop2 (laidMet_drop2 (laidMet_drop2 h6)))) g_ErrField t_ErrField g_ErrFuel t_ErrFuel
  obtain ⟨f1, b1, d1, c1, m1⟩ := errs_two (laidMet_drop2 (laidMet_drop2 (laidMet_drop2 h6))) g_ErrField t_ErrField g_ErrZero t_ErrZero
  obtain rfl := e2.same d0
  obtain rfl := d0.same d1
  refine ⟨⟨a2, ⟨?_, e2.1, e2.2, ?_⟩⟩, ?_⟩
  · intro k hk
    match k, hk with
    | 0, _ => exact ⟨_, e0.1⟩
    | 1, _ => exact ⟨_, e1.1⟩
    | 2, _ => exact ⟨_, e2.1⟩
    | 3, _ => exact ⟨_, e3.1⟩
    | 4, _ => exact ⟨_, e4.1⟩
    | 5, _ => exact ⟨_, e5.1⟩
    | 6, _ => exact ⟨_, e6.1⟩
    | 7, _ => exact ⟨_, e7.1⟩
  · intro k hk
    match k, hk with
    | 0, _ => exact ⟨b0, c0.1, m0, c0.2⟩
    | 1, _ => exact ⟨b1, c1.1, m1, c1.2⟩
  · exact Lib.tabIs_of_head (zs := Lib.pow10Tab) g_pow t_pow Tryz.underlying488 Tryz.underlying113 cells113 cells488 h2
end Go.Proofs.YtdbdbaepmdmnfaaGreatDoor
