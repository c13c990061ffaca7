import Derived.Test.YthhiofppbpgipaaGreatDoorRows
import Derived.Test.YthhiofppbpgipaaGreatDoorOpen
import Derived.Test.YthhiofppbpgipaaGreatDoorFRowB
import Derived.Test.YthhiofppbpgipaaGreatDoorLDrop
import Derived.OpenShut
import Derived.Deep.DeepHandedRow
import Derived.Deep.DeepWitnessRowRef
import Derived.Lib.LaidTab
import Derived.Stop.LaidTwo
namespace Go.Proofs.YthhiofppbpgipaaGreatDoor
open Go.ChangeShapes Go.WideShapes Go.ChangeAt Go.RowKit
theorem g_tz : Tryz.prog.globalNamed "math/bits.deBruijn64tab" = some 13 := by kernel_rfl
theorem t_tz : (Tryz.prog.globals[13]?).map (·.type) = some 644 := by kernel_rfl
theorem t_pow : (Tryz.prog.globals[10]?).map (·.type) = some 499 := by kernel_rfl
theorem g_ErrFormat : Tryz.prog.globalNamed "glean/fault.ErrFormat" = some 0 := by kernel_rfl
theorem t_ErrFormat : (Tryz.prog.globals[0]?).map (·.type) = some 79 := by kernel_rfl
theorem g_ErrText : Tryz.prog.globalNamed "glean/fault.ErrText" = some 1 := by kernel_rfl
theorem t_ErrText : (Tryz.prog.globals[1]?).map (·.type) = some 79 := by kernel_rfl
theorem g_ErrFuel : Tryz.prog.globalNamed "glean/fault.ErrFuel" = some 2 := by kernel_rfl
theorem t_ErrFuel : (Tryz.prog.globals[2]?).map (·.type) = some 79 := by kernel_rfl
theorem g_ErrZero : Tryz.prog.globalNamed "glean/fault.ErrZero" = some 3 := by kernel_rfl
theorem t_ErrZero : (Tryz.prog.globals[3]?).map (·.type) = some 79 := by kernel_rfl
theorem g_ErrField : Tryz.prog.globalNamed "glean/fault.ErrField" = some 4 := by kernel_rfl
theorem t_ErrField : (Tryz.prog.globals[4]?).map (·.type) = some 79 := by kernel_rfl
theorem g_ErrRegex : Tryz.prog.globalNamed "glean/fault.ErrRegex" = some 5 := by kernel_rfl
theorem t_ErrRegex : (Tryz.prog.globals[5]?).map (·.type) = some 79 := by kernel_rfl
theorem g_ErrDeep : Tryz.prog.globalNamed "glean/fault.ErrDeep" = some 6 := by kernel_rfl
theorem t_ErrDeep : (Tryz.prog.globals[6]?).map (·.type) = some 79 := by kernel_rfl
theorem g_ErrOut : Tryz.prog.globalNamed "glean/fault.ErrOut" = some 7 := by kernel_rfl
theorem t_ErrOut : (Tryz.prog.globals[7]?).map (·.type) = some 79 := by kernel_rfl
theorem cells336 : Tryz.prog.cellsOf 644 = 64 := by kernel_rfl
theorem cells307 : Tryz.prog.cellsOf 499 = 20 := by kernel_rfl
theorem cells5 : Tryz.prog.cellsOf 5 = 1 := by kernel_rfl
theorem cells121 : Tryz.prog.cellsOf 134 = 1 := by kernel_rfl
theorem cells315 : Tryz.prog.cellsOf 534 = 1 := by kernel_rfl
theorem cells9e : Tryz.prog.cellsOf 9 = 1 := by kernel_rfl
def tz64 : List Int := [0, 1, 56, 2, 57, 49, 28, 3, 61, 58, 42, 50, 38, 29, 17, 4, 62, 47, 59, 36, 45, 43, 51, 22, 53, 39, 33, 30, 24, 18, 12, 5, 63, 55, 48, 27, 60, 41, 37, 16, 46, 35, 44, 21, 52, 32, 23, 11, 54, 26, 40, 15, 34, 20, 31, 10, 25, 14, 19, 9, 13, 8, 7, 6]
/-- Two errors that lie apart. -/
def Two (W : World) (g h : Nat) : Prop := ∃ a b, W.cell? ⟨g, 0, none⟩ = some (.iface 532 (.pointer (some a))) ∧ W.cell? ⟨h, 0, none⟩ = some (.iface 532 (.pointer (some b))) ∧ a ≠ b ∧ (∃ c t, W.heap[a.block]? = some (.cells c t (0, 0))) ∧ ∃ c t, W.heap[b.block]? = some (.cells c t (0, 0))
theorem Two.symm {W g h} (x : Two W g h) : Two W h g := by
  obtain ⟨a, b, h1, h2, h3, h4, h5⟩ := x
  exact ⟨b, a, h2, h1, fun e => h3 e.symm, h5, h4⟩
theorem Two.of {n0 n1 : String} {t0 t1 : List UInt8} {r : List (String × DataW Unit)} {W : World} {g0 g1 : Nat} (h : laidMet Tryz.prog ((n0, .iface "*errors.errorString" (.ptr (.agg [.lit (.string t0)]))) :: (n1, .iface "*errors.errorString" (.ptr (.agg [.lit (.string t1)]))) :: r) W)
    (hg0 : Tryz.prog.globalNamed n0 = some g0) (ht0 : (Tryz.prog.globals[g0]?).map (·.type) = some 79) (hg1 : Tryz.prog.globalNamed n1 = some g1) (ht1 : (Tryz.prog.globals[g1]?).map (·.type) = some 79) : Two W g0 g1 := by
  obtain ⟨a0, a1, s0, s1, c0, c1, t0, t1, hv0, hv1, _, _, _, _, _, _, hne, hb0, hb1⟩ := laid_sentinels2 h hg0 ht0 hg1 ht1 Tryz.underlying79 row313 Tryz.underlying532 Tryz.underlying534 rfl rfl Tryz.underlying9 cells315 cells9e
  exact ⟨a0, a1, by simpa using World.var?_cell hg0 hv0 0, by simpa using World.var?_cell hg1 hv1 0, hne, ⟨c0, t0, hb0⟩, ⟨c1, t1, hb1⟩⟩
theorem Errs.of {W : World} (h01 : Two W 0 1) (h0 : ∀ k, 2 ≤ k → k ≤ 7 → Two W 0 k) (h1 : ∀ k, 2 ≤ k → k ≤ 7 → Two W 1 k) : ∃ a0 a1, Errs W a0 a1 := by
  obtain ⟨a0, a1, e0, e1, hne, b0, b1⟩ := h01
  refine ⟨a0, a1, e0, e1, fun e => hne e.symm, b0, b1, fun k hk1 hk2 => ?_⟩
  obtain ⟨x0, a, x1, x2, x3, _, x5⟩ := h0 k hk1 hk2
  obtain ⟨y1, a', y2, y3, y4, _⟩ := h1 k hk1 hk2
  rw [e0] at x1
  rw [e1] at y2
  rw [x2] at y3
  cases x1
  cases y2
  cases y3
  exact ⟨a, x2, x3, y4, x5⟩
theorem laidFacts {W : World} (h0 : laidMetH Tryz.prog Rows.formatsRow.laid W) : Tabs W ∧ ∃ a0 a1, Errs W a0 a1 := by
  have e : laidMetH Tryz.prog Rows.formatsRow.laid W = laidMet Tryz.prog Rows.formatsRow.laid W := by kernel_rfl
  rw [e] at h0
  have h1 := laidMet.tail h0
  have h2 := laidMet.tail h1
  have h3 := laidMet.tail h2
  have h4 := laidMet.tail h3
  have tT : Lib.TabIs Tryz.prog W "math/bits.deBruijn64tab" .u8 tz64 := Lib.tabIs_of_head (zs := tz64) g_tz t_tz Tryz.underlying644 Tryz.underlying5 cells5 cells336 h4
  have tP : Lib.TabIs Tryz.prog W "internal/strconv.uint64pow10" .u64 Lib.pow10Tab := Lib.tabIs_of_head (zs := Lib.pow10Tab) g_pow t_pow Tryz.underlying499 Tryz.underlying134 cells121 cells307 h2
  have p01 : Two W 0 1 := Two.of h0 g_ErrFormat t_ErrFormat g_ErrText t_ErrText
  have q0 := laidMet_drop2 (laidMet_drop2 (laidMet_drop2 (laidMet_drop2 h0)))
  have q1 := laidMet_drop2 (laidMet_drop2 (laidMet_drop2 h1))
  have p02 : Two W 0 2 := Two.of q0 g_ErrFormat t_ErrFormat g_ErrFuel t_ErrFuel
  have p12 : Two W 1 2 := Two.of q1 g_ErrText t_ErrText g_ErrFuel t_ErrFuel
  have p03 : Two W 0 3 := Two.of (laidMet_drop2 q0) g_ErrFormat t_ErrFormat g_ErrZero t_ErrZero
  have p13 : Two W 1 3 := Two.of (laidMet_drop2 q1) g_ErrText t_ErrText g_ErrZero t_ErrZero
  have p04 : Two W 0 4 := Two.of (laidMet_drop2 (laidMet_drop2 q0)) g_ErrFormat t_ErrFormat g_ErrField t_ErrField
  have p14 : Two W 1 4 := Two.of (laidMet_drop2 (laidMet_drop2 q1)) g_ErrText t_ErrText g_ErrField t_ErrField
  have p05 : Two W 0 5 := Two.of (laidMet_drop2 (laidMet_drop2 (laidMet_drop2 q0))) g_ErrFormat t_ErrFormat g_ErrRegex t_ErrRegex
  have p15 : Two W 1 5 := Two.of (laidMet_drop2 (laidMet_drop2 (laidMet_drop2 q1))) g_ErrText t_ErrText g_ErrRegex t_ErrRegex
  have p06 : Two W 0 6 := Two.of (laidMet_drop2 (laidMet_drop2 (laidMet_drop2 (laidMet_drop2 q0)))) g_ErrFormat t_ErrFormat g_ErrDeep t_ErrDeep
  have p16 : Two W 1 6 := Two.of (laidMet_drop2 (laidMet_drop2 (laidMet_drop2 (laidMet_drop2 q1)))) g_ErrText t_ErrText g_ErrDeep t_ErrDeep
  have p07 : Two W 0 7 := Two.of (laidMet_drop2 (laidMet_drop2 (laidMet_drop2 (laidMet_drop2 (laidMet_drop2 q0))))) g_ErrFormat t_ErrFormat g_ErrOut t_ErrOut
  have p17 : Two W 1 7 := Two.of (laidMet_drop2 (laidMet_drop2 (laidMet_drop2 (laidMet_drop2 (laidMet_drop2 q1))))) g_ErrText t_ErrText g_ErrOut t_ErrOut
  have cz := tT.cell g_tz 15 (by decide)
  refine ⟨⟨tP, cz, lt_of_cell cz⟩, Errs.of p01 (fun k hk1 hk2 => ?_) (fun k hk1 hk2 => ?_)⟩
  · match k, hk1, hk2 with
    | 2, _, _ => exact p02
    | 3, _, _ => exact p03
    | 4, _, _ => exact p04
    | 5, _, _ => exact p05
    | 6, _, _ => exact p06
    | 7, _, _ => exact p07
  · match k, hk1, hk2 with
    | 2, _, _ => exact p12
    | 3, _, _ => exact p13
    | 4, _, _ => exact p14
    | 5, _, _ => exact p15
    | 6, _, _ => exact p16
    | 7, _, _ => exact p17
end Go.Proofs.YthhiofppbpgipaaGreatDoor
