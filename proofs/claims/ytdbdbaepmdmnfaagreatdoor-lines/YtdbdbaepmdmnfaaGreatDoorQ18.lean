import Derived.Test.YtdbdbaepmdmnfaaGreatDoorQ17
namespace Go.Proofs.YtdbdbaepmdmnfaaGreatDoor
open Go.RowKit
set_option maxRecDepth 20000 in
set_option maxHeartbeats 2000000 in
theorem run2_do (mc pc m p : Nat) (w : World) (h0 : w.cell? ⟨mc, 0, none⟩ = some (.pointer (some ⟨m, 0, none⟩))) (h1 : w.cell? ⟨pc, 0, none⟩ = some (.pointer (some ⟨p, 0, none⟩))) (h2 : w.cell? ⟨p, 2, none⟩ = some (.slice none 0 0)) :
    Calls Tryz.prog 65 #[.pointer (some ⟨mc, 0, none⟩), .pointer (some ⟨pc, 0, none⟩)] w fun en w' => en = .returned (.tuple #[]) ∧ w' = w.drew := by
  have HD := hide (doAll_nil (some ⟨m, 0, none⟩))
  go_enter Tryz.func65, Tryz.ntmps65
  go_wp2
  go_region_with (go_at_call 63; refine (HD.out _).mono ?_; rintro en w' ⟨rfl, h3⟩; subst h3)
  all_goals
    go_wp2
    go_end0
    exact ⟨rfl, rfl⟩
end Go.Proofs.YtdbdbaepmdmnfaaGreatDoor
namespace Go.Proofs.YtdbdbaepmdmnfaaGreatDoor
open Go.RowKit
set_option maxRecDepth 20000 in
set_option maxHeartbeats 1000000 in
theorem streams_at (m ab vb : Nat) (txt : ByteArray) (flds : Value) (po : Option Addr) (l c : Nat) (size n code : Nat) (w : World) (h : MAt w m ab vb txt flds (.slice po l c) size n code) :
    Calls Tryz.prog 66 #[.pointer (some ⟨m, 0, none⟩)] w fun en w' => en = .returned (.slice po l c) ∧ w' = w := by
  have c5 : w.cell? ⟨m, 5, none⟩ = some (.slice po l c) := cell_of h rfl
  clear h
  go_enter Tryz.func66, Tryz.ntmps66
  go_wp2
  go_ret
  exact ⟨rfl, rfl⟩
set_option maxRecDepth 20000 in
set_option maxHeartbeats 1000000 in
theorem code_at (m ab vb : Nat) (txt : ByteArray) (flds lst : Value) (size n code : Nat) (w : World) (h : MAt w m ab vb txt flds lst size n code) :
    Calls Tryz.prog 67 #[.pointer (some ⟨m, 0, none⟩)] w fun en w' => en = .returned (.int .i64 code) ∧ w' = w := by
  have c8 : w.cell? ⟨m, 8, none⟩ = some (.int .i64 code) := cell_of h rfl
  clear h
  go_enter Tryz.func67, Tryz.ntmps67
  go_wp2
  go_ret
  exact ⟨rfl, rfl⟩
end Go.Proofs.YtdbdbaepmdmnfaaGreatDoor
namespace Go.Proofs.YtdbdbaepmdmnfaaGreatDoor
open Go.RowKit
set_option maxRecDepth 100000 in
theorem mk380 (w : World) : (Instr.makeSlice 252 (.int .i64 0) (.int .i64 0)).run Tryz.prog w = .ok (.slice (some ⟨w.heap.size, 0, none⟩) 0 0) (w.alloc (.cells #[] 338)) := by kernel_rfl
set_option maxRecDepth 20000 in
set_option maxHeartbeats 1000000 in
theorem exprs_none (k : Option Addr) (w : World) : Calls Tryz.prog 128 #[.pointer k, .slice none 0 0] w fun en w' => en = .returned (.slice (some ⟨w.heap.size, 0, none⟩) 0 0) ∧ w' = w.alloc (.cells #[] 338) := by
  have hm := mk380
  go_enter Tryz.func128, Tryz.ntmps128
  go_wp2
  go_loop [13] (fun s => s = .int .i64 0) (fun _ => 0)
  case atStart => exact rfl
  case round =>
    subst hrel
    go_wp2
    go_ret
    exact ⟨rfl, rfl⟩
theorem hmfT : ∀ (fn : Fn) (first cap : Array Value) (w : World), (Instr.makeFunc fn first cap).run Tryz.prog w = .ok (.func fn first cap) w := fun _ _ _ _ => rfl
theorem hsfT : ∀ (a : Addr) (fn : Fn) (x y : Array Value) (W : World), (store a (.func fn x y)).run Tryz.prog W = stored Tryz.prog W a (.func fn x y) .plain := fun a _ _ _ W => run_store _ W a _ _ rfl
theorem hsnT : ∀ (a : Addr) (W : World), (store a .nilFunc).run Tryz.prog W = stored Tryz.prog W a .nilFunc .plain := fun a W => run_store _ W a _ _ rfl
set_option maxRecDepth 20000 in
set_option maxHeartbeats 1000000 in
theorem const_made (k n : Int) (s : ByteArray) (w : World) : Calls Tryz.prog 216 #[.agg #[.int .i64 k, .int .i64 n, .string s]] w fun en w' => en = .returned (.agg #[.func (.func 298) #[] #[.pointer (some ⟨w.heap.size, 0, none⟩)], .nilFunc]) ∧ w' = (w.alloc (.cells #[.int .i64 k, .int .i64 n, .string s] 203)).alloc (.cells #[.func (.func 298) #[] #[.pointer (some ⟨w.heap.size, 0, none⟩)], .nilFunc] 338) := by
  have hmf := hmfT
  have hsf := hsfT
  have hsn := hsnT
  go_enter Tryz.func216, Tryz.ntmps216
  go_wp2
  exact bodyPost_ret (v := .agg #[.func (.func 298) #[] #[.pointer (some ⟨w.heap.size, 0, none⟩)], .nilFunc]) (by simp [results, Tryz.results216, go_sem]) rfl ⟨rfl, rfl⟩
set_option maxRecDepth 20000 in
set_option maxHeartbeats 1000000 in
theorem exprOr_nil (kp : Option Addr) (k n : Int) (s : ByteArray) (w : World) : Calls Tryz.prog 273 #[.pointer kp, .nilIface, .agg #[.int .i64 k, .int .i64 n, .string s]] w fun en w' => en = .returned (.agg #[.func (.func 298) #[] #[.pointer (some ⟨w.heap.size + 1 + 1, 0, none⟩)], .nilFunc]) ∧ w'.heap[w.heap.size + 1 + 1]? = some (.cells #[.int .i64 k, .int .i64 n, .string s] 203 (0, 0)) ∧ Only (fun _ => False) w w' := by
  have hsf := hsfT
  have hsn := hsnT
  have HC := hide (const_made k n s ((w.alloc (.cells #[.int .i64 k, .int .i64 n, .string s] 203)).alloc (.cells #[.nilFunc, .nilFunc] 338)))
  go_enter Tryz.func273, Tryz.ntmps273
  go_wp2_with (go_at_call 216; refine (HC.out).mono ?_; rintro en w2 ⟨rfl, hw2⟩; subst hw2)
  refine bodyPost_ret (v := .agg #[.func (.func 298) #[] #[.pointer (some ⟨w.heap.size + 1 + 1, 0, none⟩)], .nilFunc]) (by simp [results, Tryz.results273, go_sem]) rfl ⟨rfl, ?_, ((((onlyA w _).alloc _).alloc _).alloc _)⟩
  exact (Below.heap_alloc _ _ _ (by simp <;> omega)).trans (new_at2 (W := (w.alloc _).alloc _) (by simp) _)
end Go.Proofs.YtdbdbaepmdmnfaaGreatDoor
namespace Go.Proofs.YtdbdbaepmdmnfaaGreatDoor
open Go.RowKit
set_option maxRecDepth 20000 in
set_option maxHeartbeats 1000000 in
theorem found_made (F : Nat) (cap : Array Value) (w : World) : Calls Tryz.prog 306 #[.func (.func F) #[] cap] w fun en w' => en = .returned (.agg #[.func (.func 386) #[] #[.pointer (some ⟨w.heap.size, 0, none⟩)], .func (.func F) #[] cap]) ∧ w' = (w.alloc (.cells #[.func (.func F) #[] cap] 336)).alloc (.cells #[.func (.func 386) #[] #[.pointer (some ⟨w.heap.size, 0, none⟩)], .func (.func F) #[] cap] 338) := by
  have hmf := hmfT
  have hsf := hsfT
  have hsn := hsnT
  go_enter Tryz.func306, Tryz.ntmps306
  go_wp2
  exact bodyPost_ret (v := .agg #[.func (.func 386) #[] #[.pointer (some ⟨w.heap.size, 0, none⟩)], .func (.func F) #[] cap]) (by simp [results, Tryz.results306, go_sem]) rfl ⟨rfl, rfl⟩
end Go.Proofs.YtdbdbaepmdmnfaaGreatDoor
