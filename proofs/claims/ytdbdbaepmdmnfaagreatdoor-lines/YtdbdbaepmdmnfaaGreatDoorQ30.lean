import Derived.Test.YtdbdbaepmdmnfaaGreatDoorQ29
namespace Go.Proofs.YtdbdbaepmdmnfaaGreatDoor
open Go.RowKit
set_option maxRecDepth 20000 in
set_option maxHeartbeats 2000000 in
theorem take_zero (m ab vb : Nat) (txt : ByteArray) (flds lst : Value) (size n code : Nat) (ht : txt.size ≤ 500) (hn : numeralB txt.data.toList = false) (w : World) (h : MAt w m ab vb txt flds lst size n code) :
    Calls Tryz.prog 388 #[.pointer (some ⟨m, 2, none⟩), .int .i64 0] w fun en w' => en = .returned (.agg #[.int .i64 2, .int .i64 0, .string txt]) ∧ Only (fun _ => False) w w' := by
  have c2 : w.cell? ⟨m, 2, none⟩ = some (.string txt) := cell_of h rfl
  have ml := heap_lt h
  have HR := hide (read_text txt (w.alloc (.cells #[.int .i64 0, .int .i64 0, .string ⟨#[]⟩] 203)) (by unfold maxLen; omega) hn)
  clear h
  go_enter Tryz.func388, Tryz.ntmps388
  go_wp2_with fail
  refine (HR.out).mono ?_
  rintro en w2 ⟨rfl, hb⟩
  have ho := Only.ofBelow hb (fun _ => False)
  have hb0 := (ho.block w.heap.size (by simp) (fun e => e)).trans (new0 w _)
  have r0 : w2.cell? ⟨w.heap.size, 0, none⟩ = some (.int .i64 0) := cell_of hb0 rfl
  have r1 : w2.cell? ⟨w.heap.size, 1, none⟩ = some (.int .i64 0) := cell_of hb0 rfl
  have r2 : w2.cell? ⟨w.heap.size, 2, none⟩ = some (.string ⟨#[]⟩) := cell_of hb0 rfl
  have rf := free_of hb0
  have rl := heap_lt hb0
  have HO := hide ho
  clear hb ho hb0 HR
  go_wp2
  refine bodyPost_ret (v := .agg #[.int .i64 2, .int .i64 0, .string txt]) (by simp [results, Tryz.results388, go_sem, r0, r1, r2]) rfl ⟨rfl, ?_⟩
  exact ((((onlyA w _).trans HO.out (fun _ _ e => e)).setCell (p := ⟨w.heap.size, 0, none⟩) (fun h => absurd h (by show ¬ w.heap.size < w.heap.size; omega)) _).setCell (p := ⟨w.heap.size, 1, none⟩) (fun h => absurd h (by show ¬ w.heap.size < w.heap.size; omega)) _).setCell (p := ⟨w.heap.size, 2, none⟩) (fun h => absurd h (by show ¬ w.heap.size < w.heap.size; omega)) _
end Go.Proofs.YtdbdbaepmdmnfaaGreatDoor
namespace Go.Proofs.YtdbdbaepmdmnfaaGreatDoor
open Go.RowKit
end Go.Proofs.YtdbdbaepmdmnfaaGreatDoor
namespace Go.Proofs.YtdbdbaepmdmnfaaGreatDoor
open Go.RowKit
end Go.Proofs.YtdbdbaepmdmnfaaGreatDoor
namespace Go.Proofs.YtdbdbaepmdmnfaaGreatDoor
open Go.RowKit
/-- The lengths at the places of abc. -/
def LensOK (w : World) (v : Value) (first : Nat) : Prop := ∀ W, Only (fun _ => False) w W → Calls Tryz.prog 58 #[.agg #[v, .int .i64 first], .string ⟨#[97, 98, 99]⟩] W fun en w' => ∃ lb, en = .returned (.slice (some ⟨lb, 0, none⟩) 4 4) ∧ w'.heap[lb]? = some (.cells #[.int .i64 0, .int .i64 1, .int .i64 0, .int .i64 0] 3 (0, 0)) ∧ Only (fun _ => False) W w'
end Go.Proofs.YtdbdbaepmdmnfaaGreatDoor
namespace Go.Proofs.YtdbdbaepmdmnfaaGreatDoor
open Go.RowKit
theorem LensOK.only {w w' : World} {v : Value} {f : Nat} (h : LensOK w v f) (ho : Only (fun _ => False) w w') : LensOK w' v f := fun W hW => h W (ho.trans hW (fun _ _ e => e))
end Go.Proofs.YtdbdbaepmdmnfaaGreatDoor
