import Derived.Test.YthhiofppbpgipaaGreatDoorMake
import Derived.Test.YthhiofppbpgipaaGreatDoorCont
import Derived.Test.YthhiofppbpgipaaGreatDoorEIs
namespace Go.Proofs.YthhiofppbpgipaaGreatDoor
open Go.RowKit
theorem info75 : (Tryz.prog.info? 76).map (fun i => (i.zero, i.size, i.bytes)) = some (some (.agg #[.int .i64 0, .int .i64 0, .string ⟨#[]⟩]), 3, 32) := by kernel_rfl
theorem codeRead_any (s : ByteArray) (w : World) (hs : s.size ≤ maxLen) :
    Calls Tryz.prog 30 #[.string s] w fun e w' => e = .returned (.agg #[.int .i64 (codeKind (some s.data.toList)), .int .i64 (codeNum (some s.data.toList)), .string s]) ∧ Below w.heap.size w w' := by
  unfold codeKind codeNum
  cases h : numeralB s.data.toList
  · exact (read_text s w hs h).mono fun e w' hh => by simpa [h] using hh
  · exact (read_num s w hs h).mono fun e w' hh => by simpa [h] using hh
/-- The first k values have been read. -/
def Filled (w : World) (g : Nat) (ss : List ByteArray) (k : Nat) : Prop :=
  ∃ cur, w.heap[g]? = some (.cells cur 76 (0, 0)) ∧ cur.size = ss.length * 3 ∧
    ∀ i s, i < k → ss[i]? = some s → cur[i * 3]? = some (.int .i64 (codeKind (some s.data.toList))) ∧ cur[i * 3 + 1]? = some (.int .i64 (codeNum (some s.data.toList))) ∧ cur[i * 3 + 2]? = some (.string s)
theorem Filled.lt {w : World} {g : Nat} {ss : List ByteArray} {k : Nat} (h : Filled w g ss k) : g < w.heap.size := by
  obtain ⟨cur, h1, _⟩ := h
  exact (Array.getElem?_eq_some_iff.1 h1).1
theorem Filled.below {w w1 : World} {g : Nat} {ss : List ByteArray} {k : Nat} (h : Filled w g ss k) (hb : Below w.heap.size w w1) : Filled w1 g ss k := by
  have hl := h.lt
  obtain ⟨cur, h1, h2⟩ := h
  exact ⟨cur, by rw [hb.block g hl]; exact h1, h2⟩
theorem Filled.cell {w : World} {g : Nat} {ss : List ByteArray} {k j : Nat} (h : Filled w g ss k) (hj : j < ss.length * 3) : ∃ x, w.cell? ⟨g, j, none⟩ = some x := by
  obtain ⟨cur, h1, h2, _⟩ := h
  exact ⟨cur[j]'(by omega), by simp [World.cell?, h1, Array.getElem?_eq_getElem (show j < cur.size by omega)]⟩
theorem Filled.frozen {w : World} {g : Nat} {ss : List ByteArray} {k j : Nat} (h : Filled w g ss k) : w.frozen? ⟨g, j, none⟩ = false := by
  obtain ⟨cur, h1, _⟩ := h
  simp [World.frozen?, h1]
theorem heap_setCell_at {w : World} {g j : Nat} {cur : Array Value} {t : TypeId} {fz : Nat × Nat} {v : Value} (h : w.heap[g]? = some (.cells cur t fz)) : (w.setCell ⟨g, j, none⟩ v).heap[g]? = some (.cells (cur.setIfInBounds j v) t fz) := by
  unfold World.setCell
  rw [Array.getElem?_modify, if_pos rfl, h]; rfl
theorem Filled.step {w : World} {g : Nat} {ss : List ByteArray} {k : Nat} {s : ByteArray} (h : Filled w g ss k) (hs : ss[k]? = some s) :
    Filled (((w.setCell ⟨g, k * 3, none⟩ (.int .i64 (codeKind (some s.data.toList)))).setCell ⟨g, k * 3 + 1, none⟩ (.int .i64 (codeNum (some s.data.toList)))).setCell ⟨g, k * 3 + 2, none⟩ (.string s)) g ss (k + 1) := by
  obtain ⟨cur, h1, h2, h3⟩ := h
  have hk : k < ss.length := (List.getElem?_eq_some_iff.1 hs).1
  refine ⟨_, heap_setCell_at (heap_setCell_at (heap_setCell_at h1)), by simp [h2], fun i x hi hx => ?_⟩
  by_cases hik : i = k
  · subst hik
    rw [hs] at hx; cases hx
    refine ⟨?_, ?_, ?_⟩
    · rw [Array.getElem?_setIfInBounds_ne (by omega), Array.getElem?_setIfInBounds_ne (by omega), Array.getElem?_setIfInBounds_self_of_lt (by omega)]
    · rw [Array.getElem?_setIfInBounds_ne (by omega), Array.getElem?_setIfInBounds_self_of_lt (by simp; omega)]
    · rw [Array.getElem?_setIfInBounds_self_of_lt (by simp; omega)]
  · obtain ⟨q0, q1, q2⟩ := h3 i x (by omega) hx
    refine ⟨?_, ?_, ?_⟩
    · rw [Array.getElem?_setIfInBounds_ne (by omega), Array.getElem?_setIfInBounds_ne (by omega), Array.getElem?_setIfInBounds_ne (by omega)]; exact q0
    · rw [Array.getElem?_setIfInBounds_ne (by omega), Array.getElem?_setIfInBounds_ne (by omega), Array.getElem?_setIfInBounds_ne (by omega)]; exact q1
    · rw [Array.getElem?_setIfInBounds_ne (by omega), Array.getElem?_setIfInBounds_ne (by omega), Array.getElem?_setIfInBounds_ne (by omega)]; exact q2
theorem Filled.cells {w : World} {g : Nat} {ss : List ByteArray} (h : Filled w g ss ss.length) : CellsAt w g 0 (ss.map (·.data.toList)) := by
  obtain ⟨cur, h1, h2, h3⟩ := h
  intro i a ha
  rw [List.getElem?_map] at ha
  obtain ⟨x, hx, rfl⟩ := Option.map_eq_some_iff.1 ha
  obtain ⟨q0, q1, q2⟩ := h3 i x (List.getElem?_eq_some_iff.1 hx).1 hx
  have key : ∀ j v, cur[j]? = some v → w.cell? ⟨g, 0 + j, none⟩ = some v := fun j v hj => by simp [World.cell?, h1, hj]
  refine ⟨key _ _ q0, ?_, ?_⟩
  · have := key _ _ q1; rw [show 0 + i * 3 + 1 = 0 + (i * 3 + 1) by omega]; exact this
  · have := key _ _ q2; rw [show 0 + i * 3 + 2 = 0 + (i * 3 + 2) by omega]; exact this
/-- The eight errors of package fault, as start-up lays them: the first is that of formats, the second that of texts. -/
structure Errs (w : World) (a0 a1 : Addr) : Prop where
  e0 : w.cell? ⟨0, 0, none⟩ = some (.iface 532 (.pointer (some a0)))
  e1 : w.cell? ⟨1, 0, none⟩ = some (.iface 532 (.pointer (some a1)))
  ne : a1 ≠ a0
  h0 : ∃ c t, w.heap[a0.block]? = some (.cells c t (0, 0))
  h1 : ∃ c t, w.heap[a1.block]? = some (.cells c t (0, 0))
  oth : ∀ k, 2 ≤ k → k ≤ 7 → ∃ a, w.cell? ⟨k, 0, none⟩ = some (.iface 532 (.pointer (some a))) ∧ a0 ≠ a ∧ a1 ≠ a ∧ ∃ c t, w.heap[a.block]? = some (.cells c t (0, 0))
theorem block_lt {w : World} {k : Nat} {v : Value} (h : w.cell? ⟨k, 0, none⟩ = some v) : k < w.heap.size := World.block_lt_of_cell? w _ h
theorem Errs.below {w w' : World} {B : Nat} {a0 a1 : Addr} (h : Errs w a0 a1) (hb : Below B w w') (hB : w.heap.size ≤ B) : Errs w' a0 a1 := by
  have cell : ∀ (k : Nat) (v : Value), w.cell? ⟨k, 0, none⟩ = some v → w'.cell? ⟨k, 0, none⟩ = some v := fun k v hk => by
    rw [hb.cell (p := ⟨k, 0, none⟩) (Nat.lt_of_lt_of_le (block_lt hk) hB)]; exact hk
  have blk : ∀ (k : Nat) (o : Obj), w.heap[k]? = some o → w'.heap[k]? = some o := fun k o hk => by
    rw [hb.block k (Nat.lt_of_lt_of_le (Array.getElem?_eq_some_iff.1 hk).1 hB)]; exact hk
  obtain ⟨c0, t0, q0⟩ := h.h0
  obtain ⟨c1, t1, q1⟩ := h.h1
  refine ⟨cell _ _ h.e0, cell _ _ h.e1, h.ne, ⟨c0, t0, blk _ _ q0⟩, ⟨c1, t1, blk _ _ q1⟩, fun k hk1 hk2 => ?_⟩
  obtain ⟨a, h2, h3, h4, c, t, h5⟩ := h.oth k hk1 hk2
  exact ⟨a, cell _ _ h2, h3, h4, c, t, blk _ _ h5⟩
set_option maxRecDepth 100000 in
set_option maxHeartbeats 4000000 in
/-- The number of an error that a format may end with. -/
theorem errno_any (rc : Nat) (hrc : rc = 0 ∨ rc = 8 ∨ rc = 10) (a0 a1 : Addr) (w : World) (h : Errs w a0 a1) :
    Calls Tryz.prog 32 #[errVal rc a0 a1] w fun e w' => e = .returned (.int .i64 rc) ∧ w' = w := by
  obtain ⟨b2, c2, n20, n21, d2, t2, g2⟩ := h.oth 2 (by decide) (by decide)
  obtain ⟨b3, c3, n30, n31, d3, t3, g3⟩ := h.oth 3 (by decide) (by decide)
  obtain ⟨b4, c4, n40, n41, d4, t4, g4⟩ := h.oth 4 (by decide) (by decide)
  obtain ⟨b5, c5, n50, n51, d5, t5, g5⟩ := h.oth 5 (by decide) (by decide)
  obtain ⟨b6, c6, n60, n61, d6, t6, g6⟩ := h.oth 6 (by decide) (by decide)
  obtain ⟨b7, c7, n70, n71, d7, t7, g7⟩ := h.oth 7 (by decide) (by decide)
  obtain ⟨q0, s0, m0⟩ := h.h0
  obtain ⟨q1, s1, m1⟩ := h.h1
  have c0 := h.e0
  have c1 := h.e1
  have hne := h.ne
  have G2 := hide g2
  have G3 := hide g3
  have G4 := hide g4
  have G5 := hide g5
  have G6 := hide g6
  have M0 := hide m0
  have M1 := hide m1
  clear h g2 g3 g4 g5 g6 g7 m0 m1
  rcases hrc with rfl | rfl | rfl
  · rw [show errVal 0 a0 a1 = .nilIface from rfl]
    go_enter Tryz.func32, Tryz.ntmps32
    go_wp2_with fail
    refine (is_nil b2 _).mono ?_
    rintro e w2 ⟨rfl, rfl⟩
    go_wp2_with fail
    refine (is_nil b3 _).mono ?_
    rintro e w3 ⟨rfl, rfl⟩
    go_wp2_with fail
    refine (is_nil b4 _).mono ?_
    rintro e w4 ⟨rfl, rfl⟩
    go_wp2_with fail
    refine (is_nil b5 _).mono ?_
    rintro e w5 ⟨rfl, rfl⟩
    go_wp2_with fail
    refine (is_nil a1 _).mono ?_
    rintro e w6 ⟨rfl, rfl⟩
    go_wp2_with fail
    refine (is_nil b6 _).mono ?_
    rintro e w7 ⟨rfl, rfl⟩
    go_wp2_with fail
    refine (is_nil a0 _).mono ?_
    rintro e w8 ⟨rfl, rfl⟩
    go_wp2_with fail
    refine (is_nil b7 _).mono ?_
    rintro e w9 ⟨rfl, rfl⟩
    go_wp2
    go_ret
    exact ⟨rfl, rfl⟩
  · rw [show errVal 8 a0 a1 = .iface 532 (.pointer (some a1)) from rfl]
    go_enter Tryz.func32, Tryz.ntmps32
    go_wp2_with fail
    refine (is_other a1 b2 _ _ _ _ _ n21 M1.out G2.out).mono ?_
    rintro e w2 ⟨rfl, rfl⟩
    go_wp2_with fail
    refine (is_other a1 b3 _ _ _ _ _ n31 M1.out G3.out).mono ?_
    rintro e w3 ⟨rfl, rfl⟩
    go_wp2_with fail
    refine (is_other a1 b4 _ _ _ _ _ n41 M1.out G4.out).mono ?_
    rintro e w4 ⟨rfl, rfl⟩
    go_wp2_with fail
    refine (is_other a1 b5 _ _ _ _ _ n51 M1.out G5.out).mono ?_
    rintro e w5 ⟨rfl, rfl⟩
    go_wp2_with fail
    refine (is_same a1 _).mono ?_
    rintro e w6 ⟨rfl, rfl⟩
    go_wp2
    go_ret
    exact ⟨rfl, rfl⟩
  · rw [show errVal 10 a0 a1 = .iface 532 (.pointer (some a0)) from rfl]
    go_enter Tryz.func32, Tryz.ntmps32
    go_wp2_with fail
    refine (is_other a0 b2 _ _ _ _ _ n20 M0.out G2.out).mono ?_
    rintro e w2 ⟨rfl, rfl⟩
    go_wp2_with fail
    refine (is_other a0 b3 _ _ _ _ _ n30 M0.out G3.out).mono ?_
    rintro e w3 ⟨rfl, rfl⟩
    go_wp2_with fail
    refine (is_other a0 b4 _ _ _ _ _ n40 M0.out G4.out).mono ?_
    rintro e w4 ⟨rfl, rfl⟩
    go_wp2_with fail
    refine (is_other a0 b5 _ _ _ _ _ n50 M0.out G5.out).mono ?_
    rintro e w5 ⟨rfl, rfl⟩
    go_wp2_with fail
    refine (is_other a0 a1 _ _ _ _ _ hne.symm M0.out M1.out).mono ?_
    rintro e w6 ⟨rfl, rfl⟩
    go_wp2_with fail
    refine (is_other a0 b6 _ _ _ _ _ n60 M0.out G6.out).mono ?_
    rintro e w7 ⟨rfl, rfl⟩
    go_wp2_with fail
    refine (is_same a0 _).mono ?_
    rintro e w8 ⟨rfl, rfl⟩
    go_wp2
    go_ret
    exact ⟨rfl, rfl⟩
end Go.Proofs.YthhiofppbpgipaaGreatDoor
