import Derived.Test.YtdbdbaepmdmnfaaGreatDoorQ19
namespace Go.Proofs.YtdbdbaepmdmnfaaGreatDoor
open Go.RowKit
set_option maxRecDepth 100000 in
theorem mk217 (w : World) : (Instr.makeSlice 132 (.int .i64 2) (.int .i64 2)).run Tryz.prog w = .ok (.slice (some ⟨w.heap.size, 0, none⟩) 2 2) (w.alloc (.cells #[.nilFunc, .nilFunc] 185)) := by kernel_rfl
theorem set2a {w : World} {b t : Nat} {x y : Value} (h : w.heap[b]? = some (.cells #[x, y] t (0, 0))) (u : Value) : (w.setCell ⟨b, 0, none⟩ u).heap[b]? = some (.cells #[u, y] t (0, 0)) := heap_setCell_same h u
theorem set2b {w : World} {b t : Nat} {x y : Value} (h : w.heap[b]? = some (.cells #[x, y] t (0, 0))) (u : Value) : (w.setCell ⟨b, 1, none⟩ u).heap[b]? = some (.cells #[x, u] t (0, 0)) := heap_setCell_same h u
/-- A made block of two statements. -/
def BlockF (I J : Nat → World → Value → Prop) (B : Nat) (w : World) (v : Value) : Prop := ∃ lc g x y, v = .func (.func 127) #[] #[.pointer (some ⟨lc, 0, none⟩)] ∧ (B ≤ lc ∧ B ≤ g) ∧ w.heap[lc]? = some (.cells #[.slice (some ⟨g, 0, none⟩) 2 2] 132 (0, 0)) ∧ w.heap[g]? = some (.cells #[x, y] 185 (0, 0)) ∧ I B w x ∧ J B w y
theorem block_keeps {I J : Nat → World → Value → Prop} (hI : Keeps I) (hJ : Keeps J) : Keeps (BlockF I J) where
  isF := fun _ _ _ ⟨_, _, _, _, e, _⟩ => ⟨_, _, e⟩
  keep := fun B w w' x ⟨lc, g, y, z, e, ⟨k1, k2⟩, h1, h2, h3, h4⟩ ho => ⟨lc, g, y, z, e, ⟨k1, k2⟩, (ho.block lc (heap_lt h1) (by omega)).trans h1, (ho.block g (heap_lt h2) (by omega)).trans h2, hI.keep _ _ _ _ h3 ho, hJ.keep _ _ _ _ h4 ho⟩
  down := fun A B w x ⟨lc, g, y, z, e, ⟨k1, k2⟩, h1, h2, h3, h4⟩ hA => ⟨lc, g, y, z, e, ⟨by omega, by omega⟩, h1, h2, hI.down _ _ _ _ h3 hA, hJ.down _ _ _ _ h4 hA⟩
/-- A statement is made so, in whatever world that has grown out of w. -/
def StmtOK (kp : Option Addr) (w : World) (v : Value) (I : Nat → World → Value → Prop) : Prop := ∀ W, Only (fun _ => False) w W → Calls Tryz.prog 126 #[.pointer kp, v] W fun en w' => ∃ x, en = .returned (.agg #[x]) ∧ I W.heap.size w' x ∧ Only (fun _ => False) W w'
set_option maxRecDepth 20000 in
set_option maxHeartbeats 4000000 in
theorem block_made (kp : Option Addr) (I J : Nat → World → Value → Prop) (hI : Keeps I) (hJ : Keeps J) (r cap : Nat) (t0 t1 : Nat) (u0 u1 : Value) (w : World) (hr : r < w.heap.size) (e0 : w.cell? ⟨r, 0, none⟩ = some (.iface t0 u0)) (e1 : w.cell? ⟨r, 1, none⟩ = some (.iface t1 u1)) (H0 : StmtOK kp w (.iface t0 u0) I) (H1 : StmtOK kp w (.iface t1 u1) J) :
    Calls Tryz.prog 91 #[.pointer kp, .slice (some ⟨r, 0, none⟩) 2 cap] w fun en w' => ∃ x, en = .returned (.agg #[x]) ∧ BlockF I J w.heap.size w' x ∧ Only (fun _ => False) w w' := by
  have hmf := hmfT
  have hsf := hsfT
  have hsn := hsnT
  have hmk := mk217
  have K0 := hide H0
  have K1 := hide H1
  have HI := hide hI
  have HJ := hide hJ
  clear hI hJ H0 H1
  go_enter Tryz.func91, Tryz.ntmps91
  go_wp2
  go_loopg [13] 2 (fun gh s13 wr => ∃ k : Nat, ∃ x y, k ≤ 2 ∧ gh = 2 - k ∧ s13 = .int .i64 k ∧ wr.heap[w.heap.size]? = some (.cells #[.nilFunc] 185 (0, 0)) ∧ wr.heap[w.heap.size + 1]? = some (.cells #[x, y] 185 (0, 0)) ∧ wr.heap[w.heap.size + 1 + 1]? = some (.cells #[.slice (some ⟨w.heap.size + 1, 0, none⟩) 2 2] 132 (0, 0)) ∧ (1 ≤ k → I (w.heap.size + 1 + 1 + 1) wr x) ∧ (2 ≤ k → J (w.heap.size + 1 + 1 + 1) wr y) ∧ Only (fun _ => False) w wr)
  case atStart =>
    refine ⟨0, .nilFunc, .nilFunc, by omega, rfl, rfl, ?_, ?_, ?_, (by omega), (by omega), ((onlyA w _).alloc _).alloc _⟩
    · exact (Below.heap_alloc _ _ _ (by simp <;> omega)).trans ((Below.heap_alloc _ _ _ (by simp <;> omega)).trans (new0 w _))
    · exact (Below.heap_alloc _ _ _ (by simp <;> omega)).trans (new_at2 (by simp) _)
    · exact new_at2 (by simp) _
  case round =>
    obtain ⟨k, x, y, hk, hgh, rfl, h0, h1, h2, hx, hy, ho⟩ := hrel
    have hzz := heap_lt h2
    have hrr : r < wr.heap.size := by omega
    have q0 := (ho.cell (p := ⟨r, 0, none⟩) hr (fun e => e)).trans e0
    have q1 := (ho.cell (p := ⟨r, 1, none⟩) hr (fun e => e)).trans e1
    have l0 : wr.cell? ⟨w.heap.size + 1 + 1, 0, none⟩ = some (.slice (some ⟨w.heap.size + 1, 0, none⟩) 2 2) := cell_of h2 rfl
    have B0 := hide h0
    have B1 := hide h1
    have B2 := hide h2
    have X0 := hide hx
    have Y0 := hide hy
    have HO := hide ho
    have HG := hide hgh
    clear h0 h1 h2 hx hy ho hgh
    have hk3 : k = 0 ∨ k = 1 ∨ k = 2 := by omega
    rcases hk3 with rfl | rfl | rfl
    · go_upto_region 5 with fail
      go_region_held3 (fun W => W.cell? ⟨w.heap.size + 1 + 1, 0, none⟩ = some (.slice (some ⟨w.heap.size + 1, 0, none⟩) 2 2)) (first | (with_reducible assumption) | go_keep | skip)
        (first | (go_at_call 126; refine (K0.out _ (toDrew HO.out)).mono ?_; rintro en w2 ⟨z, rfl, hz, ho2⟩; obtain ⟨F, fcap, rfl⟩ := HI.out.isF _ _ _ hz; have hb0 := (ho2.block w.heap.size (heap_lt B0.out) (fun e => e)).trans B0.out; have hb1 := (ho2.block (w.heap.size + 1) (heap_lt B1.out) (fun e => e)).trans B1.out; have hb2 := (ho2.block (w.heap.size + 1 + 1) (heap_lt B2.out) (fun e => e)).trans B2.out; have m0 : w2.cell? ⟨w.heap.size + 1 + 1, 0, none⟩ = some (.slice (some ⟨w.heap.size + 1, 0, none⟩) 2 2) := cell_of hb2 rfl; have m1 : w2.cell? ⟨w.heap.size + 1, 0, none⟩ = some x := cell_of hb1 rfl; have m2 : w2.cell? ⟨w.heap.size + 1, 1, none⟩ = some y := cell_of hb1 rfl; have mf := free_of hb1; have ml := heap_lt hb1; have C0 := hide hb0; have C1 := hide hb1; have C2 := hide hb2; have HZ := hide hz; have HO2 := hide ho2; clear hb0 hb1 hb2 hz ho2))
      all_goals
        go_wp2
        go_roundg 1
        case measure => rw [HG.out]; omega
        case rel =>
          refine ⟨1, .func (.func F) #[] fcap, y, by omega, rfl, by go_num, ?_, set2a C1.out _, ?_, fun _ => HI.out.keep _ _ _ _ (HI.out.down _ _ _ _ HZ.out (by show _ ≤ wr.heap.size; omega)) ?_, (by omega), ?_⟩
          · exact (Below.heap_setCell _ _ _ _ (by show w.heap.size ≠ w.heap.size + 1; omega)).trans C0.out
          · exact (Below.heap_setCell _ _ _ _ (by show w.heap.size + 1 + 1 ≠ w.heap.size + 1; omega)).trans C2.out
          · exact (Only.refl _ w2).setCell (p := ⟨w.heap.size + 1, 0, none⟩) (fun _ => by show w.heap.size + 1 < _; omega) _
          · exact (HO.out.trans (fromDrew HO2.out) (fun _ _ e => e)).setCell (p := ⟨w.heap.size + 1, 0, none⟩) (fun h => absurd h (by show ¬ w.heap.size + 1 < w.heap.size; omega)) _
    · go_upto_region 5 with fail
      go_region_held3 (fun W => W.cell? ⟨w.heap.size + 1 + 1, 0, none⟩ = some (.slice (some ⟨w.heap.size + 1, 0, none⟩) 2 2)) (first | (with_reducible assumption) | go_keep | skip)
        (first | (go_at_call 126; refine (K1.out _ (toDrew HO.out)).mono ?_; rintro en w2 ⟨z, rfl, hz, ho2⟩; obtain ⟨F, fcap, rfl⟩ := HJ.out.isF _ _ _ hz; have hb0 := (ho2.block w.heap.size (heap_lt B0.out) (fun e => e)).trans B0.out; have hb1 := (ho2.block (w.heap.size + 1) (heap_lt B1.out) (fun e => e)).trans B1.out; have hb2 := (ho2.block (w.heap.size + 1 + 1) (heap_lt B2.out) (fun e => e)).trans B2.out; have m0 : w2.cell? ⟨w.heap.size + 1 + 1, 0, none⟩ = some (.slice (some ⟨w.heap.size + 1, 0, none⟩) 2 2) := cell_of hb2 rfl; have m1 : w2.cell? ⟨w.heap.size + 1, 0, none⟩ = some x := cell_of hb1 rfl; have m2 : w2.cell? ⟨w.heap.size + 1, 1, none⟩ = some y := cell_of hb1 rfl; have mf := free_of hb1; have ml := heap_lt hb1; have C0 := hide hb0; have C1 := hide hb1; have C2 := hide hb2; have HZ := hide hz; have HO2 := hide ho2; clear hb0 hb1 hb2 hz ho2))
      all_goals
        go_wp2
        go_roundg 0
        case measure => rw [HG.out]; omega
        case rel =>
          refine ⟨2, x, .func (.func F) #[] fcap, by omega, rfl, by go_num, ?_, set2b C1.out _, ?_, fun _ => HI.out.keep _ _ _ _ (X0.out (by omega)) ?_, fun _ => HJ.out.keep _ _ _ _ (HJ.out.down _ _ _ _ HZ.out (by show _ ≤ wr.heap.size; omega)) ?_, ?_⟩
          · exact (Below.heap_setCell _ _ _ _ (by show w.heap.size ≠ w.heap.size + 1; omega)).trans C0.out
          · exact (Below.heap_setCell _ _ _ _ (by show w.heap.size + 1 + 1 ≠ w.heap.size + 1; omega)).trans C2.out
          · exact ((fromDrew HO2.out).mono (fun _ _ e => e.elim)).setCell (p := ⟨w.heap.size + 1, 1, none⟩) (fun _ => by show w.heap.size + 1 < _; omega) _
          · exact (Only.refl _ w2).setCell (p := ⟨w.heap.size + 1, 1, none⟩) (fun _ => by show w.heap.size + 1 < _; omega) _
          · exact (HO.out.trans (fromDrew HO2.out) (fun _ _ e => e)).setCell (p := ⟨w.heap.size + 1, 1, none⟩) (fun h => absurd h (by show ¬ w.heap.size + 1 < w.heap.size; omega)) _
    · have r0 : wr.cell? ⟨w.heap.size, 0, none⟩ = some .nilFunc := cell_of B0.out rfl
      have rf := free_of B0.out
      have rl := heap_lt B0.out
      go_wp2
      refine bodyPost_ret (v := .agg #[.func (.func 127) #[] #[.pointer (some ⟨w.heap.size + 1 + 1, 0, none⟩)]]) (by simp [results, Tryz.results91, go_sem, r0]) rfl ⟨_, rfl, (block_keeps HI.out HJ.out).down w.heap.size (w.heap.size + 1) _ _ ((block_keeps HI.out HJ.out).keep _ wr _ _ ⟨w.heap.size + 1 + 1, w.heap.size + 1, x, y, rfl, ⟨by omega, by omega⟩, B2.out, B1.out, HI.out.down _ _ _ _ (X0.out (by omega)) (by omega), HJ.out.down _ _ _ _ (Y0.out (by omega)) (by omega)⟩ ((Only.refl _ wr).setCell (p := ⟨w.heap.size, 0, none⟩) (fun _ => by show w.heap.size < _; omega) _)) (by omega), ?_⟩
      · exact HO.out.setCell (p := ⟨w.heap.size, 0, none⟩) (fun h => absurd h (by show ¬ w.heap.size < w.heap.size; omega)) _
end Go.Proofs.YtdbdbaepmdmnfaaGreatDoor

