import Derived.Shelf.Bits.Mul64
import Derived.Test.YthhiofppbpgipaaGreatDoorProg
import Derived.Test.YthhiofppbpgipaaGreatDoorGH
import Derived.Laws.CopyOwn
import Derived.Deep.LoopGhost
import Derived.Laws.OwnMore
import Derived.Deep.OwnRows
namespace Go.Proofs
open Go.Shelf
def Tryz.mlays264_ren : Go.Shelf.Ren := ⟨fun | 264 => 259 | n => n, fun | 53 => 134 | 46 => 320 | n => n, fun | n => n⟩
theorem Tryz.mlays264 : Go.Proofs.Lays.n264 Tryz.prog Tryz.mlays264_ren := {
  mixed := by kernel_rfl
  f264 := Tryz.func259.trans (congrArg some (by kernel_rfl))
  t46 := Tryz.underlying320
  a46 := Tryz.isAgg320
  z46 := Tryz.sizeOf320
  v46 := Tryz.zeroValue320
  t53 := Tryz.underlying134
  a53 := Tryz.isAgg134
  z53 := Tryz.sizeOf134
  v53 := Tryz.zeroValue134 }
open Go.RowKit Go.Lib in
theorem Tryz.mbits_Mul64 (x y : Nat) (hx : x < 18446744073709551616) (hy : y < 18446744073709551616) (w : World) :
    Calls Tryz.prog 259 #[.int .u64 x, .int .u64 y] w fun e w' => e = .returned (.tuple #[.int .u64 ((x * y / 18446744073709551616 : Nat) : Int), .int .u64 ((x * y % 18446744073709551616 : Nat) : Int)]) ∧ w' = w := Any.bits_Mul64 Tryz.mlays264 x y hx hy w
def Tryz.mlays212_ren : Go.Shelf.Ren := ⟨fun | 212 => 188 | 263 => 258 | 264 => 259 | n => n, fun | 46 => 320 | 51 => 399 | 146 => 400 | 53 => 134 | 148 => 402 | n => n, fun | n => n⟩
theorem Tryz.mlays212 : Go.Proofs.Lays.n212 Tryz.prog Tryz.mlays212_ren := {
  mixed := by kernel_rfl
  f212 := Tryz.func188.trans (congrArg some (by kernel_rfl))
  f263 := Tryz.func258.trans (congrArg some (by kernel_rfl))
  f264 := Tryz.func259.trans (congrArg some (by kernel_rfl))
  t46 := Tryz.underlying320
  a46 := Tryz.isAgg320
  z46 := Tryz.sizeOf320
  v46 := Tryz.zeroValue320
  t51 := Tryz.underlying399
  a51 := Tryz.isAgg399
  z51 := Tryz.sizeOf399
  v51 := Tryz.zeroValue399
  t53 := Tryz.underlying134
  a53 := Tryz.isAgg134
  z53 := Tryz.sizeOf134
  v53 := Tryz.zeroValue134
  t146 := Tryz.underlying400
  a146 := Tryz.isAgg400
  z146 := Tryz.sizeOf400
  v146 := Tryz.zeroValue400
  t148 := Tryz.underlying402
  a148 := Tryz.isAgg402
  z148 := Tryz.sizeOf402
  v148 := Tryz.zeroValue402 }
open Go.RowKit Go.Lib in
theorem Tryz.mbits_Mul (x y : Nat) (hx : x < 18446744073709551616) (hy : y < 18446744073709551616) (w : World) :
    Calls Tryz.prog 188 #[.int .u64 x, .int .u64 y] w fun e w' => e = .returned (.tuple #[.int .u64 ((x * y / 18446744073709551616 : Nat) : Int), .int .u64 ((x * y % 18446744073709551616 : Nat) : Int)]) ∧ w' = w := Any.bits_Mul Tryz.mlays212 x y hx hy w
end Go.Proofs

namespace Go.Proofs.YthhiofppbpgipaaGreatDoor
open Go.RowKit
/-- A row of N whole numbers, the first k of them -1, the others 0. -/
def half (k N : Nat) : List Value := List.replicate k (.int .i64 (-1)) ++ List.replicate (N - k) (.int .i64 0)
theorem half_len {k N : Nat} (h : k ≤ N) : (half k N).length = N := by simp [half]; omega
theorem half_zero (N : Nat) : madeCells #[.int .i64 0] N = (half 0 N).toArray := by
  apply Array.ext'
  rw [toList_madeCells_one]
  simp [half]
theorem half_splice {k m N : Nat} (h : k + m ≤ N) : splice (half k N) k (List.replicate m (.int .i64 (-1))) = half (k + m) N := by
  unfold splice half
  rw [List.take_append_of_le_length (by simp), List.take_of_length_le (by simp), List.length_replicate, List.drop_append, List.drop_of_length_le (by simp), List.nil_append, List.length_replicate, List.drop_replicate, ← List.append_assoc, List.replicate_append_replicate]
  congr 2
  omega
theorem half_get {k N j : Nat} {v : Value} (h : (List.replicate k (Value.int .i64 (-1)))[j]? = some v) : (half k N)[j]? = some v := by
  unfold half
  rw [List.getElem?_append_left (List.getElem?_eq_some_iff.1 h).1]; exact h
theorem add_at (g o j : Nat) : (⟨g, o, none⟩ : Addr).add j = ⟨g, o + j, none⟩ := by unfold Addr.add; split <;> simp_all
theorem minus_one (m : Nat) : ∀ v ∈ List.replicate m (Value.int .i64 (-1)), v.oneCell' = true := by
  intro v hv
  rw [(List.mem_replicate.1 hv).2]; rfl
theorem int_size : (Tryz.prog.info? 3).map (·.size) = some 1 := by kernel_rfl
/-- Some of the row's own cells are copied behind them. -/
theorem copy_half {w W : World} {g k m N : Nat} {p : Addr} {dc sl sc : Nat} (hg : W.heap[g]? = some (.cells (half k N).toArray 3 (0, 0))) (hk : k + m ≤ N) (hm : m = Nat.min sl (N - k)) (hsrc : ∀ j, j < m → W.cell? (p.add j) = some (.int .i64 (-1))) (B : Nat) (hB : Below B w W) (hBg : B ≤ g) :
    ∃ W', (Builtin.copy_ #[147, 147] 3 #[.slice (some ⟨g, k, none⟩) (N - k) dc, .slice (some p) sl sc]).run Tryz.prog W = .ok (goInt m) W' ∧ Hid (W'.heap[g]? = some (.cells (half (k + m) N).toArray 3 (0, 0))) ∧ Hid (Below B w W') := by
  have h := run_copy_row (P := Tryz.prog) W 147 147 3 3 g k (N - k) dc p sl sc (half k N).toArray 3 (List.replicate m (.int .i64 (-1))) Tryz.underlying147 int_size hg (by rw [List.length_replicate]; exact hm) (fun j v hj => by
    have hl := (List.getElem?_eq_some_iff.1 hj).1
    rw [List.length_replicate] at hl
    rw [List.getElem?_replicate, if_pos hl] at hj
    cases hj
    exact hsrc j hl) (by rw [List.length_replicate]; show k + m ≤ (half k N).length; rw [half_len (by omega)]; exact hk) (minus_one m)
  rw [List.length_replicate] at h
  refine ⟨_, h, ?_, below_setRow hB hBg _⟩
  refine (setRow_heap W g _ _ 3 (0, 0) hg).trans ?_
  rw [← half_splice hk]
  unfold splice
  rw [List.length_replicate, List.append_assoc]
set_option maxRecDepth 100000 in
set_option maxHeartbeats 4000000 in
theorem repeat_any (xb N : Nat) (h1 : 1 ≤ N) (hN : N ≤ 100000) (w : World) (hx : w.cell? ⟨xb, 0, none⟩ = some (.int .i64 (-1))) :
    Calls Tryz.prog 109 #[.slice (some ⟨xb, 0, none⟩) 1 1, .int .i64 N] w fun e w' => Below w.heap.size w w' ∧ e = .returned (.slice (some ⟨w.heap.size, 0, none⟩) N N) ∧ w'.heap[w.heap.size]? = some (.cells (half N N).toArray 3 (0, 0)) := by
  have hMul := Tryz.mbits_Mul 1 N (by omega) (by omega) w
  rw [Nat.one_mul, Nat.div_eq_of_lt (by omega : N < 18446744073709551616), Nat.mod_eq_of_lt (by omega : N < 18446744073709551616)] at hMul
  have hmk := run_make_row' (P := Tryz.prog) 147 3 (.int .i64 0) 8 Tryz.underlying147 info3 rfl .i64 .i64 N (by omega) (by omega)
  have hxl := World.block_lt_of_cell? w _ hx
  have hW : (w.alloc (.cells (madeCells #[.int .i64 0] N) 3)).heap[w.heap.size]? = some (.cells (half 0 N).toArray 3 (0, 0)) := by
    rw [← half_zero]; exact heap_alloc_new w _
  have hx2 : (w.alloc (.cells (madeCells #[.int .i64 0] N) 3)).cell? ⟨xb, 0, none⟩ = some (.int .i64 (-1)) := (World.cell?_of_block (a := ⟨xb, 0, none⟩) (Below.heap_alloc _ _ _ hxl)).trans hx
  obtain ⟨W1, hcp, HG1, HB1⟩ := copy_half (w := w) (dc := N) (sl := 1) (sc := 1) (p := ⟨xb, 0, none⟩) (m := 1) hW (by omega) (show 1 = Nat.min 1 (N - 0) by rw [Nat.sub_zero]; exact (Nat.min_eq_left h1).symm) (fun j hj => by have hj0 : j = 0 := (by omega); subst hj0; rw [add_at]; exact hx2) w.heap.size ((Below.refl _ w).alloc (Nat.le_refl _) _) (Nat.le_refl _)
  rw [Nat.sub_zero] at hcp
  clear hW hx2 hx
  go_enter Tryz.func109, Tryz.ntmps109
  go_wp2_with (go_at_call 188; refine hMul.mono ?_; rintro e w' ⟨rfl, hw⟩; rw [hw])
  clear hcp hmk hMul
  go_loopg [8] (N - 1) (fun g s8 wr => ∃ k : Nat, s8 = .int .i64 k ∧ 1 ≤ k ∧ k ≤ N ∧ g = N - k ∧ wr.heap[w.heap.size]? = some (.cells (half k N).toArray 3 (0, 0)) ∧ Below w.heap.size w wr)
  case atStart => exact ⟨1, rfl, Nat.le_refl _, h1, rfl, HG1.out, HB1.out⟩
  case round =>
    clear HG1 HB1
    obtain ⟨k, e8, hk1, hkN, hg, hrow, hbel⟩ := hrel
    subst e8
    by_cases hke : k = N
    · subst hke
      have HR := hide hrow
      have HB := hide hbel
      clear hrow hbel
      go_wp2
      go_ret
      exact ⟨HB.out, rfl, HR.out⟩
    · have hlt : (k : Int) < (N : Int) := by omega
      obtain ⟨m, HM⟩ : ∃ m, Hid (m = Nat.min k (N - k)) := ⟨_, rfl⟩
      have hm1 : 1 ≤ m := by rw [HM.out]; exact Nat.le_min.2 ⟨by omega, by omega⟩
      have hm0 : m ≤ k := by rw [HM.out]; exact Nat.min_le_left k (N - k)
      have hm2 : k + m ≤ N := by
        have h2 : m ≤ N - k := by rw [HM.out]; exact Nat.min_le_right k (N - k)
        omega
      have hbd := hbel.drew
      obtain ⟨W2, hcp, HG2, HB2⟩ := copy_half (w := w) (W := wr.drew) (g := w.heap.size) (k := k) (N := N) (dc := N - k) (sl := k) (sc := N) (p := ⟨w.heap.size, 0, none⟩) (m := m) hrow hm2 HM.out (fun j hj => by
        rw [add_at]
        refine cell_of (w := wr.drew) hrow ?_
        rw [List.getElem?_toArray]
        exact half_get (by rw [List.getElem?_replicate, if_pos (by omega)])) w.heap.size hbd (Nat.le_refl _)
      have Hg := hide hg
      have hke2 : ¬ N = k := fun e => hke e.symm
      clear hrow hbel hg hbd
      go_wp2
      go_region
      all_goals
        go_wp2
        go_roundg (N - (k + m))
        case measure => have := Hg.out; omega
        case rel => exact ⟨k + m, rfl, Nat.le_trans hk1 (Nat.le_add_right _ _), hm2, rfl, HG2.out, HB2.out⟩
end Go.Proofs.YthhiofppbpgipaaGreatDoor

