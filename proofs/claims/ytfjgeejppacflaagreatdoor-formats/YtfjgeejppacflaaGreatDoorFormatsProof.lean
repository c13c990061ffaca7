import Derived.Test.YtfjgeejppacflaaGreatDoorCards
import Derived.Test.YtfjgeejppacflaaGreatDoorTie
import Derived.Test.YtfjgeejppacflaaGreatDoorOpen
import Derived.OpenShut
import Derived.Deep.DeepHandedRow
import Derived.Deep.DeepWitnessRowRef
import Derived.Lib.LaidTab
import Derived.Stop.LaidTwo
namespace Go.Proofs.YtfjgeejppacflaaGreatDoor
open Go.ChangeShapes Go.WideShapes Go.ChangeAt Go.RowKit

theorem own : ownKnob Tryz.prog.godebug = none := by kernel_rfl
theorem laidOut : laidOutB Tryz.prog = true := by kernel_rfl
theorem g_tz : Tryz.prog.globalNamed "math/bits.deBruijn64tab" = some 7 := by kernel_rfl
theorem g_fmt : Tryz.prog.globalNamed "glean/layout.ErrFormat" = some 0 := by kernel_rfl
theorem g_txt : Tryz.prog.globalNamed "glean/layout.ErrText" = some 1 := by kernel_rfl
theorem t_tz : (Tryz.prog.globals[7]?).map (·.type) = some 492 := by kernel_rfl
theorem t_pow : (Tryz.prog.globals[4]?).map (·.type) = some 425 := by kernel_rfl
theorem t_fmt : (Tryz.prog.globals[0]?).map (·.type) = some 78 := by kernel_rfl
theorem t_txt : (Tryz.prog.globals[1]?).map (·.type) = some 78 := by kernel_rfl
theorem cells336 : Tryz.prog.cellsOf 492 = 64 := by kernel_rfl
theorem cells307 : Tryz.prog.cellsOf 425 = 20 := by kernel_rfl
theorem cells5 : Tryz.prog.cellsOf 5 = 1 := by kernel_rfl
theorem cells121 : Tryz.prog.cellsOf 128 = 1 := by kernel_rfl
theorem cells315 : Tryz.prog.cellsOf 460 = 1 := by kernel_rfl
theorem star : "*" ++ "errors.errorString" = "*errors.errorString" := by decide
theorem row313 (u : TypeId) (h : Tryz.prog.typeName? 3 u = some "*errors.errorString") : u = 458 :=
  typeName_ptr_named (nm := "errors.errorString") (by rw [star]; kernel_rfl) (by kernel_rfl) (by decide) u (by rw [star]; exact h)
def tz64 : List Int := [0, 1, 56, 2, 57, 49, 28, 3, 61, 58, 42, 50, 38, 29, 17, 4, 62, 47, 59, 36, 45, 43, 51, 22, 53, 39, 33, 30, 24, 18, 12, 5, 63, 55, 48, 27, 60, 41, 37, 16, 46, 35, 44, 21, 52, 32, 23, 11, 54, 26, 40, 15, 34, 20, 31, 10, 25, 14, 19, 9, 13, 8, 7, 6]
theorem laidFacts {W : World} (h0 : laidMetH Tryz.prog Rows.formatsRow.laid W) : Tabs W ∧ ∃ a0 a1, Errs W a0 a1 := by
  have e : laidMetH Tryz.prog Rows.formatsRow.laid W = laidMet Tryz.prog Rows.formatsRow.laid W := by kernel_rfl
  rw [e] at h0
  have h1 := laidMet.tail h0
  have h2 := laidMet.tail h1
  have h5 := laidMet.tail (laidMet.tail (laidMet.tail h2))
  have tT : Lib.TabIs Tryz.prog W "math/bits.deBruijn64tab" .u8 tz64 := Lib.tabIs_of_head (zs := tz64) g_tz t_tz Tryz.underlying492 Tryz.underlying5 cells5 cells336 h1
  have tP : Lib.TabIs Tryz.prog W "internal/strconv.uint64pow10" .u64 Lib.pow10Tab := Lib.tabIs_of_head (zs := Lib.pow10Tab) g_pow t_pow Tryz.underlying425 Tryz.underlying128 cells121 cells307 h2
  obtain ⟨a0, a1, s0, s1, c0, c1, t0, t1, hv0, hv1, hc0, hs0, hz0, hc1, hs1, hz1, hne, hb0, hb1⟩ := laid_sentinels2 h5 g_fmt t_fmt g_txt t_txt Tryz.underlying78 row313 Tryz.underlying458 Tryz.underlying460 rfl rfl Tryz.underlying9 cells315 cells9
  have cz := tT.cell g_tz 15 (by decide)
  have hg0 : W.cell? ⟨0, 0, none⟩ = some (.iface 458 (.pointer (some a0))) := by simpa using World.var?_cell g_fmt hv0 0
  have hg1 : W.cell? ⟨1, 0, none⟩ = some (.iface 458 (.pointer (some a1))) := by simpa using World.var?_cell g_txt hv1 0
  exact ⟨⟨tP, cz, lt_of_cell cz⟩, a0, a1, hg0, hg1, hne.symm, ⟨c0, t0, hb0⟩, ⟨c1, t1, hb1⟩⟩
end Go.Proofs.YtfjgeejppacflaaGreatDoor
