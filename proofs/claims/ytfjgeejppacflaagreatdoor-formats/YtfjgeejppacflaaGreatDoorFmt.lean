import Derived.Test.YtfjgeejppacflaaGreatDoorMake
import Derived.Test.YtfjgeejppacflaaGreatDoorCont
import Derived.Test.YtfjgeejppacflaaGreatDoorEIs
namespace Go.Proofs.YtfjgeejppacflaaGreatDoor
open Go.RowKit
theorem info75 : (Tryz.prog.info? 75).map (fun i => (i.zero, i.size, i.bytes)) = some (some (.agg #[.int .i64 0, .int .i64 0, .string ⟨#[]⟩]), 3, 32) := by kernel_rfl
theorem codeRead_any (s : ByteArray) (w : World) (hs : s.size ≤ maxLen) :
    Calls Tryz.prog 31 #[.string s] w fun e w' => e = .returned (.agg #[.int .i64 (codeKind (some s.data.toList)), .int .i64 (codeNum (some s.data.toList)), .string s]) ∧ Below w.heap.size w w' := by
  unfold codeKind codeNum
  cases h : numeralB s.data.toList
  · exact (read_text s w hs h).mono fun e w' hh => by simpa [h] using hh
  · exact (read_num s w hs h).mono fun e w' hh => by simpa [h] using hh
/-- The first k values have been read. -/
def Filled (w : World) (g : Nat) (ss : List ByteArray) (k : Nat) : Prop :=
  ∃ cur, w.heap[g]? = some (.cells cur 75 (0, 0)) ∧ cur.size = ss.length * 3 ∧
    ∀ i s, i < k → ss[i]? = some s → cur[i * 3]? = some (.int .i64 (codeKind (some s.data.toList))) ∧ cur[i * 3 + 1]? = some (.int .i64 (codeNum (some s.data.toList))) ∧ cur[i * 3 + 2]? = some (.string s)
theorem Filled.lt {w : World} {g : Nat} {ss : List ByteArray} {k : Nat} (h : Filled w g ss k) : g < w.heap.size := by
  obtain ⟨cur, h1, _⟩ := h
  exact (Array.getElem?_eq_some_iff.1 h1).1
theorem Filled.below {w w1 : World} {g : Nat} {ss : List ByteArray} {k : Nat} (h : Filled w g ss k) (hb : Below w.heap.size w w1) : Filled w1 g ss k := by
  have hl := h.lt
  obtain ⟨cur, h1, h2⟩ := h
  exact ⟨cur, by rw [hb.block g hl]; exact h1, h2⟩
theorem Filled.cell {w : World} {g : Nat} {ss : List ByteArray} {k j : Nat} (h : Filled w g ss k) (hj : j < ss.length * 3) : ∃ x, w.cell? ⟨g, j, none⟩ = some x := by
  obtain ⟨cur, h1, h2, _⟩ := h
  exact ⟨cur[j]'(by omega), by simp [World.cell?, h1, Array.getElem?_eq_getElem (show j < cur.size by omega)]⟩
theorem Filled.frozen {w : World} {g : Nat} {ss : List ByteArray} {k j : Nat} (h : Filled w g ss k) : w.frozen? ⟨g, j, none⟩ = false := by
  obtain ⟨cur, h1, _⟩ := h
  simp [World.frozen?, h1]
theorem heap_setCell_at {w : World} {g j : Nat} {cur : Array Value} {t : TypeId} {fz : Nat × Nat} {v : Value} (h : w.heap[g]? = some (.cells cur t fz)) : (w.setCell ⟨g, j, none⟩ v).heap[g]? = some (.cells (cur.setIfInBounds j v) t fz) := by
  unfold World.setCell
  rw [Array.getElem?_modify, if_pos rfl, h]; rfl
theorem Filled.step {w : World} {g : Nat} {ss : List ByteArray} {k : Nat} {s : ByteArray} (h : Filled w g ss k) (hs : ss[k]? = some s) :
    Filled (((w.setCell ⟨g, k * 3, none⟩ (.int .i64 (codeKind (some s.data.toList)))).setCell ⟨g, k * 3 + 1, none⟩ (.int .i64 (codeNum (some s.data.toList)))).setCell ⟨g, k * 3 + 2, none⟩ (.string s)) g ss (k + 1) := by
  obtain ⟨cur, h1, h2, h3⟩ := h
  have hk : k < ss.length := (List.getElem?_eq_some_iff.1 hs).1
  refine ⟨_, heap_setCell_at (heap_setCell_at (heap_setCell_at h1)), by simp [h2], fun i x hi hx => ?_⟩
  by_cases hik : i = k
  · subst hik
    rw [hs] at hx; cases hx
    refine ⟨?_, ?_, ?_⟩
    · rw [Array.getElem?_setIfInBounds_ne (by omega), Array.getElem?_setIfInBounds_ne (by omega), Array.getElem?_setIfInBounds_self_of_lt (by omega)]
    · rw [Array.getElem?_setIfInBounds_ne (by omega), Array.getElem?_setIfInBounds_self_of_lt (by simp; omega)]
    · rw [Array.getElem?_setIfInBounds_self_of_lt (by simp; omega)]
  · obtain ⟨q0, q1, q2⟩ := h3 i x (by omega) hx
    refine ⟨?_, ?_, ?_⟩
    · rw [Array.getElem?_setIfInBounds_ne (by omega), Array.getElem?_setIfInBounds_ne (by omega), Array.getElem?_setIfInBounds_ne (by omega)]; exact q0
    · rw [Array.getElem?_setIfInBounds_ne (by omega), Array.getElem?_setIfInBounds_ne (by omega), Array.getElem?_setIfInBounds_ne (by omega)]; exact q1
    · rw [Array.getElem?_setIfInBounds_ne (by omega), Array.getElem?_setIfInBounds_ne (by omega), Array.getElem?_setIfInBounds_ne (by omega)]; exact q2
theorem Filled.cells {w : World} {g : Nat} {ss : List ByteArray} (h : Filled w g ss ss.length) : CellsAt w g 0 (ss.map (·.data.toList)) := by
  obtain ⟨cur, h1, h2, h3⟩ := h
  intro i a ha
  rw [List.getElem?_map] at ha
  obtain ⟨x, hx, rfl⟩ := Option.map_eq_some_iff.1 ha
  obtain ⟨q0, q1, q2⟩ := h3 i x (List.getElem?_eq_some_iff.1 hx).1 hx
  have key : ∀ j v, cur[j]? = some v → w.cell? ⟨g, 0 + j, none⟩ = some v := fun j v hj => by simp [World.cell?, h1, hj]
  refine ⟨key _ _ q0, ?_, ?_⟩
  · have := key _ _ q1; rw [show 0 + i * 3 + 1 = 0 + (i * 3 + 1) by omega]; exact this
  · have := key _ _ q2; rw [show 0 + i * 3 + 2 = 0 + (i * 3 + 2) by omega]; exact this
/-- The errors of package layout, as start-up lays them. -/
structure Errs (w : World) (a0 a1 : Addr) : Prop where
  e0 : w.cell? ⟨0, 0, none⟩ = some (.iface 458 (.pointer (some a0)))
  e1 : w.cell? ⟨1, 0, none⟩ = some (.iface 458 (.pointer (some a1)))
  ne : a1 ≠ a0
  h0 : ∃ c t, w.heap[a0.block]? = some (.cells c t (0, 0))
  h1 : ∃ c t, w.heap[a1.block]? = some (.cells c t (0, 0))
theorem Errs.below {w w' : World} {B : Nat} {a0 a1 : Addr} (h : Errs w a0 a1) (hb : Below B w w') (hB : w.heap.size ≤ B) : Errs w' a0 a1 := by
  have lt0 : 0 < B := by
    by_cases hz : 0 < w.heap.size
    · omega
    · have := h.e0; simp [World.cell?, Array.getElem?_eq_none (show w.heap.size ≤ 0 by omega)] at this
  have lt1 : 1 < B := by
    by_cases hz : 1 < w.heap.size
    · omega
    · have := h.e1; simp [World.cell?, Array.getElem?_eq_none (show w.heap.size ≤ 1 by omega)] at this
  obtain ⟨c0, t0, q0⟩ := h.h0
  obtain ⟨c1, t1, q1⟩ := h.h1
  have k0 : a0.block < B := Nat.lt_of_lt_of_le (Array.getElem?_eq_some_iff.1 q0).1 hB
  have k1 : a1.block < B := Nat.lt_of_lt_of_le (Array.getElem?_eq_some_iff.1 q1).1 hB
  exact ⟨by rw [hb.cell (p := ⟨0, 0, none⟩) lt0]; exact h.e0, by rw [hb.cell (p := ⟨1, 0, none⟩) lt1]; exact h.e1, h.ne, ⟨c0, t0, by rw [hb.block _ k0]; exact q0⟩, ⟨c1, t1, by rw [hb.block _ k1]; exact q1⟩⟩
end Go.Proofs.YtfjgeejppacflaaGreatDoor
