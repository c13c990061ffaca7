import Derived.Test.YthhiofppbpgipaaGreatDoorUpTo
import Derived.Deep.Slices
import Derived.SliceStrings
import Derived.SizedLaws
import Derived.ProofKit
namespace Go.Proofs.YthhiofppbpgipaaGreatDoor
open Go.RowKit Go.Deep Go.ChangeShapes

theorem cells27 : Tryz.prog.cellsOf 27 = 7 := by kernel_rfl
theorem cells3 : Tryz.prog.cellsOf 3 = 1 := by kernel_rfl
theorem cells9 : Tryz.prog.cellsOf 9 = 1 := by kernel_rfl
theorem cells25 : Tryz.prog.cellsOf 25 = 1 := by kernel_rfl
theorem bytes9 : Tryz.prog.bytesOf 9 = 16 := by kernel_rfl
theorem bytes27 : Tryz.prog.bytesOf 27 = 96 := by kernel_rfl
theorem spot_of_cell {w : World} {a : Addr} {v : Value} (h : w.cell? a = some v) : ∃ b o, a = ⟨b, o, none⟩ := by
  obtain ⟨b, o, sp⟩ := a
  cases sp with
  | none => exact ⟨b, o, rfl⟩
  | some s =>
    exfalso
    unfold World.cell? at h
    split at h <;> simp_all
theorem add_none (b o j : Nat) : (⟨b, o, none⟩ : Addr).add j = ⟨b, o + j, none⟩ := by
  unfold Addr.add; split
  · rename_i h; subst h; rfl
  · rfl
theorem list7 {α : Type} (l : List α) (h : l.length = 7) : ∃ a b c d e f g, l = [a, b, c, d, e, f, g] := by
  match l, h with
  | [a, b, c, d, e, f, g], _ => exact ⟨a, b, c, d, e, f, g, rfl⟩
theorem lt_of_cell {w : World} {b o : Nat} {v : Value} (h : w.cell? ⟨b, o, none⟩ = some v) : b < w.heap.size := World.block_lt_of_cell? w ⟨b, o, none⟩ h
theorem op_open {H : Type} {enc : TypeId × Value → H} {W : World} {n b o : Nat} {cs : List Value} {D : DataW H} {Pl : List MemPlace}
    (hc : W.cells? 0 ⟨b, o, none⟩ 7 = some cs) (hf : DataW.trod enc Tryz.prog W 0 (fun _ => true) true n 27 cs = some (D, Pl)) (hw : ∀ x ∈ D.weights Tryz.prog 27, x ≤ reachBytes) : OpAt W b o := by
  obtain ⟨_, hlen, hcell⟩ := World.cells?_some hc
  obtain ⟨xs, m, rfl, hx, _, hxl, hfs⟩ := DataW.trod_struct Tryz.underlying27 hf
  obtain ⟨c0, c1, c2, c3, c4, c5, c6, rfl⟩ := list7 cs hlen
  obtain ⟨x0, x1, x2, x3, x4, x5, x6, rfl⟩ := list7 xs hxl
  have f0 := hfs 0 _ rfl
  have f1 := hfs 1 _ rfl
  have f2 := hfs 2 _ rfl
  have f3 := hfs 3 _ rfl
  have f4 := hfs 4 _ rfl
  have f5 := hfs 5 _ rfl
  have f6 := hfs 6 _ rfl
  simp [cells3, cells9, cells25] at f0 f1 f2 f3 f4 f5 f6
  obtain ⟨K, k0, rfl, _⟩ := DataW.trod_int Tryz.underlying3 f0
  obtain ⟨A, k1, rfl, _⟩ := DataW.trod_int Tryz.underlying3 f1
  obtain ⟨B, k2, rfl, _⟩ := DataW.trod_int Tryz.underlying3 f2
  obtain ⟨s, k3, rfl, hs⟩ := DataW.trod_string Tryz.underlying9 f3
  obtain ⟨t, k4, rfl, ht⟩ := DataW.trod_string Tryz.underlying9 f4
  obtain ⟨u, k5, rfl, hu⟩ := DataW.trod_string Tryz.underlying9 f5
  simp only [List.cons.injEq, and_true] at k0 k1 k2 k3 k4 k5
  subst k0 k1 k2 k3 k4 k5
  have e : ∀ j, j < 7 → W.cell? ⟨b, o + j, none⟩ = [Value.int .i64 K, .int .i64 A, .int .i64 B, .string s, .string t, .string u, c6][j]? := fun j hj => by
    have := hcell j hj; rw [add_none] at this; exact this
  cases hx
  rcases open_strings Tryz.underlying25 Tryz.underlying9 cells9 f6 with ⟨h6, h7⟩ | ⟨a, len, cap, ss, h6, _, hl, hm, hz, h7, hsc, hsz⟩
  · simp only [List.cons.injEq, and_true] at h6
    subst h6
    exact ⟨K, A, B, s, t, u, none, 0, [], e 0 (by omega), e 1 (by omega), e 2 (by omega), e 3 (by omega), e 4 (by omega), e 5 (by omega), e 6 (by omega), hs, Or.inl rfl, by simp, fun x hx => by simp at hx⟩
  · simp only [List.cons.injEq, and_true] at h6
    subst h6
    have hlt : (ss.take len).length = len := by rw [List.length_take]; simp at hz; omega
    refine ⟨K, A, B, s, t, u, some a, cap, ss.take len, e 0 (by omega), e 1 (by omega), e 2 (by omega), e 3 (by omega), e 4 (by omega), e 5 (by omega), by rw [hlt]; exact e 6 (by omega), hs, ?_, ?_, fun x hx => hsz x (List.mem_of_mem_take hx)⟩
    · by_cases h0 : len = 0
      · left; subst h0; simp
      · right
        have hss : 0 < ss.length := by simp at hz; omega
        have c := hsc 0 hss
        obtain ⟨b', o', rfl⟩ : ∃ b o, a = ⟨b, o, none⟩ := by
          have h1 : a.add 0 = a := by unfold Addr.add; simp
          rw [h1] at c; exact spot_of_cell c
        rw [add_none] at c
        refine ⟨b', o', rfl, lt_of_cell c, fun i x hx => ?_⟩
        have hi : i < ss.length := by
          have := (List.getElem?_eq_some_iff.1 hx).1; simp at this; omega
        have hxi : ss[i]? = some x := by
          rw [List.getElem?_take] at hx; split at hx; exact hx; cases hx
        have ci := hsc i hi
        rw [add_none, List.getD_eq_getElem?_getD, hxi] at ci
        exact ci
    · rw [hlt]
      have hz' : ss.length = cap := by simpa using hz
      have hmem : (ss.length) * 16 ∈ DataW.weights Tryz.prog 27 (.agg ([(.lit (.int .i64 K), []), (.lit (.int .i64 A), []), (.lit (.int .i64 B), []), (.lit (.string s.data.toList), []), (.lit (.string t.data.toList), []), (.lit (.string u.data.toList), []), x6].map (·.1)) : DataW H) := by
        subst h7
        simp only [DataW.weights, Tryz.underlying27, List.map_cons, List.map_nil, DataW.weightsEach, Tryz.underlying25, bytes9]
        simp [strs]
        right; right; right; left
        omega
      have := hw _ hmem
      unfold reachBytes at this
      omega
end Go.Proofs.YthhiofppbpgipaaGreatDoor
