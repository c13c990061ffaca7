import Derived.Test.YtdbdbaepmdmnfaaGreatDoorQ17
namespace Go.Proofs.YtdbdbaepmdmnfaaGreatDoor
open Go.RowKit
set_option maxRecDepth 20000 in
set_option maxHeartbeats 2000000 in
theorem run2_do (mc pc m p : Nat) (w : World) (h0 : w.cell? ⟨mc, 0, none⟩ = some (.pointer (some ⟨m, 0, none⟩))) (h1 : w.cell? ⟨pc, 0, none⟩ = some (.pointer (some ⟨p, 0, none⟩))) (h2 : w.cell? ⟨p, 2, none⟩ = some (.slice none 0 0)) :
    Calls Tryz.prog 65 #[.pointer (some ⟨mc, 0, none⟩), .pointer (some ⟨pc, 0, none⟩)] w fun en w' => en = .returned (.tuple #[]) ∧ w' = w.drew := by
  have HD := hide (doAll_nil (some ⟨m, 0, none⟩))
  go_enter Tryz.func65, Tryz.ntmps65
  go_wp2
  go_region_with (go_at_call 63; refine (HD.out _).mono ?_; rintro en w' ⟨rfl, h3⟩; subst h3)
  all_goals
    go_wp2
    go_end0
    exact ⟨rfl, rfl⟩
set_option maxRecDepth 20000 in
set_option maxHeartbeats 2000000 in
theorem run1_do (mc pc ic m p : Nat) (input : ByteArray) (Q : World → Prop) (w : World) (h0 : w.cell? ⟨mc, 0, none⟩ = some (.pointer (some ⟨m, 0, none⟩))) (h1 : w.cell? ⟨pc, 0, none⟩ = some (.pointer (some ⟨p, 0, none⟩))) (h2 : w.cell? ⟨p, 0, none⟩ = some (.slice none 0 0)) (h3 : w.cell? ⟨ic, 0, none⟩ = some (.string input))
    (H : Calls Tryz.prog 64 #[.pointer (some ⟨p, 0, none⟩), .pointer (some ⟨m, 0, none⟩), .string input] w.drew fun en w' => en = .returned (.tuple #[]) ∧ Q w') :
    Calls Tryz.prog 62 #[.pointer (some ⟨mc, 0, none⟩), .pointer (some ⟨pc, 0, none⟩), .pointer (some ⟨ic, 0, none⟩)] w fun en w' => en = .returned (.tuple #[]) ∧ Q w' := by
  have HD := hide (doAll_nil (some ⟨m, 0, none⟩))
  have H1 := hide H
  clear H
  go_enter Tryz.func62, Tryz.ntmps62
  go_wp2
  go_region_with (go_at_call 63; refine (HD.out _).mono ?_; rintro en w' ⟨rfl, h3⟩; subst h3)
  all_goals
    go_wp2_with fail
    refine (H1.out).mono ?_
    rintro en w2 ⟨rfl, h5⟩
    have H5 := hide h5
    clear h5
    go_wp2
    go_end0
    exact ⟨rfl, H5.out⟩
end Go.Proofs.YtdbdbaepmdmnfaaGreatDoor

namespace Go.Proofs.YtdbdbaepmdmnfaaGreatDoor
open Go.RowKit
set_option maxRecDepth 20000 in
set_option maxHeartbeats 1000000 in
theorem streams_at (m ab vb : Nat) (txt : ByteArray) (flds : Value) (po : Option Addr) (l c : Nat) (size n code : Nat) (w : World) (h : MAt w m ab vb txt flds (.slice po l c) size n code) :
    Calls Tryz.prog 66 #[.pointer (some ⟨m, 0, none⟩)] w fun en w' => en = .returned (.slice po l c) ∧ w' = w := by
  have c5 : w.cell? ⟨m, 5, none⟩ = some (.slice po l c) := cell_of h rfl
  clear h
  go_enter Tryz.func66, Tryz.ntmps66
  go_wp2
  go_ret
  exact ⟨rfl, rfl⟩
set_option maxRecDepth 20000 in
set_option maxHeartbeats 1000000 in
theorem code_at (m ab vb : Nat) (txt : ByteArray) (flds lst : Value) (size n code : Nat) (w : World) (h : MAt w m ab vb txt flds lst size n code) :
    Calls Tryz.prog 67 #[.pointer (some ⟨m, 0, none⟩)] w fun en w' => en = .returned (.int .i64 code) ∧ w' = w := by
  have c8 : w.cell? ⟨m, 8, none⟩ = some (.int .i64 code) := cell_of h rfl
  clear h
  go_enter Tryz.func67, Tryz.ntmps67
  go_wp2
  go_ret
  exact ⟨rfl, rfl⟩
end Go.Proofs.YtdbdbaepmdmnfaaGreatDoor

namespace Go.Proofs.YtdbdbaepmdmnfaaGreatDoor
open Go.RowKit
set_option maxRecDepth 100000 in
theorem mk380 (w : World) : (Instr.makeSlice 252 (.int .i64 0) (.int .i64 0)).run Tryz.prog w = .ok (.slice (some ⟨w.heap.size, 0, none⟩) 0 0) (w.alloc (.cells #[] 338)) := by kernel_rfl
set_option maxRecDepth 20000 in
set_option maxHeartbeats 1000000 in
theorem exprs_none (k : Option Addr) (w : World) : Calls Tryz.prog 128 #[.pointer k, .slice none 0 0] w fun en w' => en = .returned (.slice (some ⟨w.heap.size, 0, none⟩) 0 0) ∧ w' = w.alloc (.cells #[] 338) := by
  have hm := mk380
  go_enter Tryz.func128, Tryz.ntmps128
  go_wp2
  go_loop [13] (fun s => s = .int .i64 0) (fun _ => 0)
  case atStart => exact rfl
  case round =>
    subst hrel
    go_wp2
    go_ret
    exact ⟨rfl, rfl⟩
theorem hmfT : ∀ (fn : Fn) (first cap : Array Value) (w : World), (Instr.makeFunc fn first cap).run Tryz.prog w = .ok (.func fn first cap) w := fun _ _ _ _ => rfl
theorem hsfT : ∀ (a : Addr) (fn : Fn) (x y : Array Value) (W : World), (store a (.func fn x y)).run Tryz.prog W = stored Tryz.prog W a (.func fn x y) .plain := fun a _ _ _ W => run_store _ W a _ _ rfl
theorem hsnT : ∀ (a : Addr) (W : World), (store a .nilFunc).run Tryz.prog W = stored Tryz.prog W a .nilFunc .plain := fun a W => run_store _ W a _ _ rfl
set_option maxRecDepth 20000 in
set_option maxHeartbeats 1000000 in
theorem const_made (k n : Int) (s : ByteArray) (w : World) : Calls Tryz.prog 216 #[.agg #[.int .i64 k, .int .i64 n, .string s]] w fun en w' => en = .returned (.agg #[.func (.func 298) #[] #[.pointer (some ⟨w.heap.size, 0, none⟩)], .nilFunc]) ∧ w' = (w.alloc (.cells #[.int .i64 k, .int .i64 n, .string s] 203)).alloc (.cells #[.func (.func 298) #[] #[.pointer (some ⟨w.heap.size, 0, none⟩)], .nilFunc] 338) := by
  have hmf := hmfT
  have hsf := hsfT
  have hsn := hsnT
  go_enter Tryz.func216, Tryz.ntmps216
  go_wp2
  exact bodyPost_ret (v := .agg #[.func (.func 298) #[] #[.pointer (some ⟨w.heap.size, 0, none⟩)], .nilFunc]) (by simp [results, Tryz.results216, go_sem]) rfl ⟨rfl, rfl⟩
set_option maxRecDepth 20000 in
set_option maxHeartbeats 1000000 in
theorem exprOr_nil (kp : Option Addr) (k n : Int) (s : ByteArray) (w : World) : Calls Tryz.prog 273 #[.pointer kp, .nilIface, .agg #[.int .i64 k, .int .i64 n, .string s]] w fun en w' => en = .returned (.agg #[.func (.func 298) #[] #[.pointer (some ⟨w.heap.size + 1 + 1, 0, none⟩)], .nilFunc]) ∧ w'.heap[w.heap.size + 1 + 1]? = some (.cells #[.int .i64 k, .int .i64 n, .string s] 203 (0, 0)) ∧ Only (fun _ => False) w w' := by
  have hsf := hsfT
  have hsn := hsnT
  have HC := hide (const_made k n s ((w.alloc (.cells #[.int .i64 k, .int .i64 n, .string s] 203)).alloc (.cells #[.nilFunc, .nilFunc] 338)))
  go_enter Tryz.func273, Tryz.ntmps273
  go_wp2_with (go_at_call 216; refine (HC.out).mono ?_; rintro en w2 ⟨rfl, hw2⟩; subst hw2)
  refine bodyPost_ret (v := .agg #[.func (.func 298) #[] #[.pointer (some ⟨w.heap.size + 1 + 1, 0, none⟩)], .nilFunc]) (by simp [results, Tryz.results273, go_sem]) rfl ⟨rfl, ?_, ((((onlyA w _).alloc _).alloc _).alloc _)⟩
  exact (Below.heap_alloc _ _ _ (by simp <;> omega)).trans (new_at2 (W := (w.alloc _).alloc _) (by simp) _)
set_option maxRecDepth 20000 in
set_option maxHeartbeats 2000000 in
theorem print_made (kp : Option Addr) (w : World) : Calls Tryz.prog 210 #[.pointer kp, .agg #[.slice none 0 0, .nilIface]] w fun en w' => ∃ lb eb c g, en = .returned (.agg #[.func (.func 280) #[] #[.pointer (some ⟨lb, 0, none⟩), .pointer (some ⟨eb, 0, none⟩)]]) ∧ w'.cell? ⟨lb, 0, none⟩ = some (.slice (some ⟨g, 0, none⟩) 0 0) ∧ lb < w'.heap.size ∧ w'.cell? ⟨eb, 0, none⟩ = some (.func (.func 298) #[] #[.pointer (some ⟨c, 0, none⟩)]) ∧ eb < w'.heap.size ∧ w'.heap[c]? = some (.cells #[.int .i64 0, .int .i64 0, .string ⟨#[]⟩] 203 (0, 0)) ∧ Only (fun _ => False) w w' := by
  have hmf := hmfT
  have hsf := hsfT
  have hsn := hsnT
  have HE := hide (exprs_none kp)
  have HC := hide (exprOr_nil kp 0 0 ⟨#[]⟩)
  go_enter Tryz.func210, Tryz.ntmps210
  go_wp2_with (go_at_call 128; refine (HE.out _).mono ?_; rintro en w2 ⟨rfl, hw2⟩; subst hw2)
  refine (HC.out _).mono ?_
  rintro en w3 ⟨rfl, hb3, ho3⟩
  have hz : w.heap.size + 1 + 1 + 1 + 1 ≤ w3.heap.size := by have := ho3.size; simpa using this
  have hr : w3.heap[w.heap.size + 1]? = some (.cells #[.nilFunc] 185 (0, 0)) := (ho3.block _ (by simp <;> omega) (fun e => e)).trans ((Below.heap_alloc _ _ _ (by simp <;> omega)).trans ((Below.heap_alloc _ _ _ (by simp <;> omega)).trans (new_at2 (W := w.alloc _) (by simp) _)))
  have hl : w3.heap[w.heap.size + 1 + 1 + 1]? = some (.cells #[.slice (some ⟨w.heap.size + 1 + 1, 0, none⟩) 0 0] 252 (0, 0)) := (ho3.block _ (by simp <;> omega) (fun e => e)).trans (new_at2 (W := ((w.alloc _).alloc _).alloc _) (by simp) _)
  have r0 : w3.cell? ⟨w.heap.size + 1, 0, none⟩ = some .nilFunc := cell_of hr rfl
  have rf := free_of hr
  have hrl := heap_lt hr
  have HB := hide hb3
  have HL := hide hl
  have HO : Hid (Only (fun _ => False) w w3) := ((((onlyA w _).alloc _).alloc _).alloc _).trans ho3 (fun _ _ e => e)
  clear hb3 hr hl ho3 HC HE
  have hB : w3.heap[w.heap.size + 1 + 1 + 1 + 1 + 1 + 1]? = some (.cells #[.int .i64 0, .int .i64 0, .string ⟨#[]⟩] 203 (0, 0)) := by simpa using HB.out
  have hbl := heap_lt hB
  have HB2 := hide hB
  clear hB HB
  go_wp2
  refine bodyPost_ret (v := .agg #[.func (.func 280) #[] #[.pointer (some ⟨w.heap.size + 1 + 1 + 1, 0, none⟩), .pointer (some ⟨w3.heap.size, 0, none⟩)]]) (by simp [results, Tryz.results210, go_sem, r0, hrl]) rfl ⟨w.heap.size + 1 + 1 + 1, w3.heap.size, w.heap.size + 1 + 1 + 1 + 1 + 1 + 1, w.heap.size + 1 + 1, rfl, ?_, ?_, ?_, ?_, ?_, ?_⟩
  · exact cell_of ((Below.heap_alloc _ _ _ (by rw [size_setCell]; omega)).trans ((Below.heap_setCell _ _ _ _ (by show w.heap.size + 1 + 1 + 1 ≠ w.heap.size + 1; omega)).trans HL.out)) rfl
  · simp; omega
  · exact cell_of (new_at2 (by simp) _) rfl
  · simp
  · exact (Below.heap_alloc _ _ _ (by rw [size_setCell]; omega)).trans ((Below.heap_setCell _ _ _ _ (by show w.heap.size + 1 + 1 + 1 + 1 + 1 + 1 ≠ w.heap.size + 1; omega)).trans HB2.out)
  · exact (HO.out.setCell (p := ⟨w.heap.size + 1, 0, none⟩) (fun h => absurd h (by show ¬ w.heap.size + 1 < w.heap.size; omega)) _).alloc _
end Go.Proofs.YtdbdbaepmdmnfaaGreatDoor

namespace Go.Proofs.YtdbdbaepmdmnfaaGreatDoor
open Go.RowKit
set_option maxRecDepth 100000 in
theorem te434_434 (v : Value) (w : World) : (Instr.typeAssert (.iface 300 v) 238 300 true).run Tryz.prog w = .ok (.tuple #[v, .bool true]) w := by kernel_rfl
set_option maxRecDepth 100000 in
theorem te436_434 (v : Value) (w : World) : (Instr.typeAssert (.iface 303 v) 238 300 true).run Tryz.prog w = .ok (.tuple #[.agg #[.int .i64 0], .bool false]) w := by kernel_rfl
set_option maxRecDepth 100000 in
theorem te436_436 (v : Value) (w : World) : (Instr.typeAssert (.iface 303 v) 238 303 true).run Tryz.prog w = .ok (.tuple #[v, .bool true]) w := by kernel_rfl
set_option maxRecDepth 100000 in
theorem te437_437 (v : Value) (w : World) : (Instr.typeAssert (.iface 304 v) 238 304 true).run Tryz.prog w = .ok (.tuple #[v, .bool true]) w := by kernel_rfl
set_option maxRecDepth 100000 in
theorem te445_434 (v : Value) (w : World) : (Instr.typeAssert (.iface 312 v) 238 300 true).run Tryz.prog w = .ok (.tuple #[.agg #[.int .i64 0], .bool false]) w := by kernel_rfl
set_option maxRecDepth 100000 in
theorem te445_436 (v : Value) (w : World) : (Instr.typeAssert (.iface 312 v) 238 303 true).run Tryz.prog w = .ok (.tuple #[.agg #[.string ⟨#[]⟩], .bool false]) w := by kernel_rfl
set_option maxRecDepth 100000 in
theorem te445_437 (v : Value) (w : World) : (Instr.typeAssert (.iface 312 v) 238 304 true).run Tryz.prog w = .ok (.tuple #[.agg #[.string ⟨#[]⟩], .bool false]) w := by kernel_rfl
/-- A made constant. -/
def ConstE (B : Nat) (w : World) (v : Value) (k n : Int) (s : ByteArray) : Prop := ∃ c, v = .agg #[.func (.func 298) #[] #[.pointer (some ⟨c, 0, none⟩)], .nilFunc] ∧ B ≤ c ∧ w.heap[c]? = some (.cells #[.int .i64 k, .int .i64 n, .string s] 203 (0, 0))
set_option maxRecDepth 20000 in
set_option maxHeartbeats 1000000 in
theorem found_made (F : Nat) (cap : Array Value) (w : World) : Calls Tryz.prog 306 #[.func (.func F) #[] cap] w fun en w' => en = .returned (.agg #[.func (.func 386) #[] #[.pointer (some ⟨w.heap.size, 0, none⟩)], .func (.func F) #[] cap]) ∧ w' = (w.alloc (.cells #[.func (.func F) #[] cap] 336)).alloc (.cells #[.func (.func 386) #[] #[.pointer (some ⟨w.heap.size, 0, none⟩)], .func (.func F) #[] cap] 338) := by
  have hmf := hmfT
  have hsf := hsfT
  have hsn := hsnT
  go_enter Tryz.func306, Tryz.ntmps306
  go_wp2
  exact bodyPost_ret (v := .agg #[.func (.func 386) #[] #[.pointer (some ⟨w.heap.size, 0, none⟩)], .func (.func F) #[] cap]) (by simp [results, Tryz.results306, go_sem]) rfl ⟨rfl, rfl⟩
set_option maxRecDepth 20000 in
set_option maxHeartbeats 1000000 in
theorem expr_num (kp : Option Addr) (n : Int) (w : World) : Calls Tryz.prog 163 #[.pointer kp, .iface 300 (.agg #[.int .i64 n])] w fun en w' => en = .returned (.agg #[.func (.func 298) #[] #[.pointer (some ⟨w.heap.size + 1 + 1 + 1, 0, none⟩)], .nilFunc]) ∧ w' = (((((w.alloc (.cells #[.func (.func 298) #[] #[.pointer (some ⟨w.heap.size + 1 + 1 + 1, 0, none⟩)], .nilFunc] 338)).alloc (.cells #[.int .i64 n] 300)).alloc (.cells #[.int .i64 1, .int .i64 n, .string ⟨#[]⟩] 203)).alloc (.cells #[.int .i64 1, .int .i64 n, .string ⟨#[]⟩] 203)).alloc (.cells #[.func (.func 298) #[] #[.pointer (some ⟨w.heap.size + 1 + 1 + 1, 0, none⟩)], .nilFunc] 338)) := by
  have hmf := hmfT
  have hsf := hsfT
  have hsn := hsnT
  have t1 := te434_434
  have HN := hide (ofNumber n)
  have HC := hide (const_made 1 n ⟨#[]⟩)
  go_enter Tryz.func163, Tryz.ntmps163
  go_wp2_with (first | (go_at_call 95; refine (HN.out _).mono ?_; rintro en w2 ⟨rfl, hw2⟩; subst hw2) | (go_at_call 216; refine (HC.out _).mono ?_; rintro en w2 ⟨rfl, hw2⟩; subst hw2))
  exact bodyPost_ret (v := .agg #[.func (.func 298) #[] #[.pointer (some ⟨w.heap.size + 1 + 1 + 1, 0, none⟩)], .nilFunc]) (by simp [results, Tryz.results163, go_sem]) rfl ⟨rfl, rfl⟩
set_option maxRecDepth 20000 in
set_option maxHeartbeats 1000000 in
theorem expr_str (kp : Option Addr) (s : ByteArray) (w : World) : Calls Tryz.prog 163 #[.pointer kp, .iface 303 (.agg #[.string s])] w fun en w' => en = .returned (.agg #[.func (.func 298) #[] #[.pointer (some ⟨w.heap.size + 1 + 1 + 1, 0, none⟩)], .nilFunc]) ∧ w' = (((((w.alloc (.cells #[.func (.func 298) #[] #[.pointer (some ⟨w.heap.size + 1 + 1 + 1, 0, none⟩)], .nilFunc] 338)).alloc (.cells #[.string s] 303)).alloc (.cells #[.int .i64 2, .int .i64 0, .string s] 203)).alloc (.cells #[.int .i64 2, .int .i64 0, .string s] 203)).alloc (.cells #[.func (.func 298) #[] #[.pointer (some ⟨w.heap.size + 1 + 1 + 1, 0, none⟩)], .nilFunc] 338)) := by
  have hmf := hmfT
  have hsf := hsfT
  have hsn := hsnT
  have t1 := te436_436
  have t2 := te436_434
  have HN := hide (ofText s)
  have HC := hide (const_made 2 0 s)
  go_enter Tryz.func163, Tryz.ntmps163
  go_wp2_with (first | (go_at_call 96; refine (HN.out _).mono ?_; rintro en w2 ⟨rfl, hw2⟩; subst hw2) | (go_at_call 216; refine (HC.out _).mono ?_; rintro en w2 ⟨rfl, hw2⟩; subst hw2))
  exact bodyPost_ret (v := .agg #[.func (.func 298) #[] #[.pointer (some ⟨w.heap.size + 1 + 1 + 1, 0, none⟩)], .nilFunc]) (by simp [results, Tryz.results163, go_sem]) rfl ⟨rfl, rfl⟩
/-- What finds the record: the made $0. -/
def FieldE (B : Nat) (w : World) (v : Value) : Prop := ∃ nb c g, v = .agg #[.func (.func 386) #[] #[.pointer (some ⟨g, 0, none⟩)], .func (.func 317) #[] #[.pointer (some ⟨nb, 0, none⟩)]] ∧ B ≤ nb ∧ B ≤ c ∧ w.heap[nb]? = some (.cells #[.func (.func 298) #[] #[.pointer (some ⟨c, 0, none⟩)], .nilFunc] 338 (0, 0)) ∧ w.heap[c]? = some (.cells #[.int .i64 1, .int .i64 0, .string ⟨#[]⟩] 203 (0, 0))
set_option maxRecDepth 20000 in
set_option maxHeartbeats 1000000 in
theorem field_made (kp : Option Addr) (w : World) : Calls Tryz.prog 220 #[.pointer kp, .agg #[.iface 300 (.agg #[.int .i64 0])]] w fun en w' => ∃ v, en = .returned v ∧ FieldE w.heap.size w' v ∧ Only (fun _ => False) w w' := by
  have hmf := hmfT
  have hsf := hsfT
  have hsn := hsnT
  have HN := hide (expr_num kp 0)
  have HC := hide (found_made 317)
  go_enter Tryz.func220, Tryz.ntmps220
  go_wp2_with (first | (go_at_call 163; refine (HN.out _).mono ?_; rintro en w2 ⟨rfl, hw2⟩; subst hw2) | (go_at_call 306; refine (HC.out _ _).mono ?_; rintro en w2 ⟨rfl, hw2⟩; subst hw2))
  refine bodyPost_ret (v := .agg #[.func (.func 386) #[] #[.pointer (some ⟨w.heap.size + 1 + 1 + 1 + 1 + 1 + 1 + 1 + 1, 0, none⟩)], .func (.func 317) #[] #[.pointer (some ⟨w.heap.size + 1 + 1 + 1 + 1 + 1 + 1 + 1, 0, none⟩)]]) (by simp [results, Tryz.results220, go_sem]) rfl ⟨_, rfl, ⟨_, w.heap.size + 1 + 1 + 1 + 1 + 1, _, rfl, by omega, by omega, ?_, ?_⟩, (((((((((onlyA w _).alloc _).alloc _).alloc _).alloc _).alloc _).alloc _).alloc _).alloc _).alloc _⟩
  · exact (Below.heap_alloc _ _ _ (by simp <;> omega)).trans ((Below.heap_alloc _ _ _ (by simp <;> omega)).trans (new_at2 (by simp) _))
  · exact (Below.heap_alloc _ _ _ (by simp <;> omega)).trans ((Below.heap_alloc _ _ _ (by simp <;> omega)).trans ((Below.heap_alloc _ _ _ (by simp <;> omega)).trans ((Below.heap_alloc _ _ _ (by simp <;> omega)).trans (new_at2 (by simp) _))))
/-- What reads as a pattern: its states and its first one; the states lie beyond what was there. -/
def ReadsAs (s : ByteArray) (G : Nat → World → Value → Nat → Prop) : Prop := ∀ w, Calls Tryz.prog 39 #[.string s] w fun en w' => ∃ g n cap first, en = .returned (.tuple #[.agg #[.slice (some ⟨g, 0, none⟩) n cap, .int .i64 (first : Nat)], .bool true]) ∧ G w.heap.size w' (.slice (some ⟨g, 0, none⟩) n cap) first ∧ Only (fun _ => False) w w'
/-- A fact about a world that nothing turns which turns older blocks alone. -/
def Calm (G : Nat → World → Value → Nat → Prop) : Prop := ∀ B w w' v k, G B w v k → Only (fun q => q < B) w w' → G B w' v k
/-- The made pattern. -/
def PatE (G : Nat → World → Value → Nat → Prop) (B : Nat) (w : World) (v : Value) : Prop := ∃ pp g n cap first, v = .func (.func 378) #[] #[.pointer (some ⟨pp, 0, none⟩)] ∧ B ≤ pp ∧ w.heap[pp]? = some (.cells #[.slice (some ⟨g, 0, none⟩) n cap, .int .i64 (first : Nat)] 68 (0, 0)) ∧ ∃ C, B ≤ C ∧ G C w (.slice (some ⟨g, 0, none⟩) n cap) first
theorem pat_keep {G : Nat → World → Value → Nat → Prop} (hG : Calm G) {B : Nat} {w w' : World} {v : Value} (h : PatE G B w v) (ho : Only (fun q => q < B) w w') : PatE G B w' v := by
  obtain ⟨pp, g, n, cap, first, e, hp, h1, C, hC, h2⟩ := h
  exact ⟨pp, g, n, cap, first, e, hp, (ho.block pp (heap_lt h1) (by omega)).trans h1, C, hC, hG _ _ _ _ _ h2 (ho.mono (fun q _ h => by omega))⟩
set_option maxRecDepth 20000 in
set_option maxHeartbeats 1000000 in
theorem pat_made (kp : Option Addr) (s : ByteArray) (G : Nat → World → Value → Nat → Prop) (hR : ReadsAs s G) (hG : Calm G) (w : World) : Calls Tryz.prog 299 #[.pointer kp, .iface 304 (.agg #[.string s])] w fun en w' => ∃ v, en = .returned v ∧ PatE G w.heap.size w' v ∧ Only (fun _ => False) w w' := by
  have hmf := hmfT
  have hsf := hsfT
  have hsn := hsnT
  have t1 := te437_437
  have HR := hide hR
  have HG := hide hG
  clear hR hG
  go_enter Tryz.func299, Tryz.ntmps299
  go_wp2_with fail
  refine (HR.out _).mono ?_
  rintro en w2 ⟨g, n, cap, first, rfl, h1, h2⟩
  have hz : w.heap.size + 1 ≤ w2.heap.size := by have := h2.size; simpa using this
  have H1 := hide h1
  have H2 := hide h2
  clear h1 h2
  go_wp2
  go_ret
  exact ⟨_, rfl, ⟨_, _, _, _, _, rfl, by omega, new_at2 rfl _, (w.alloc (.cells #[.string s] 304)).heap.size, by simp, HG.out _ _ _ _ _ H1.out ((onlyA _ _).mono (fun _ _ e => e.elim))⟩, ((onlyA w _).trans H2.out (fun _ _ e => e)).alloc _⟩
theorem const_keep {B : Nat} {w w' : World} {v : Value} {k n : Int} {s : ByteArray} (h : ConstE B w v k n s) (ho : Only (fun q => q < B) w w') : ConstE B w' v k n s := by
  obtain ⟨c, e, hB, hc⟩ := h
  exact ⟨c, e, hB, (ho.block c (heap_lt hc) (by omega)).trans hc⟩
theorem const_down {A B : Nat} {w : World} {v : Value} {k n : Int} {s : ByteArray} (h : ConstE B w v k n s) (hA : A ≤ B) : ConstE A w v k n s := by
  obtain ⟨c, e, hB, hc⟩ := h
  exact ⟨c, e, by omega, hc⟩
theorem pat_down {G : Nat → World → Value → Nat → Prop} {A B : Nat} {w : World} {v : Value} (h : PatE G B w v) (hA : A ≤ B) : PatE G A w v := by
  obtain ⟨pp, g, n, cap, first, e, hp, h1, C, hC, h2⟩ := h
  exact ⟨pp, g, n, cap, first, e, by omega, h1, C, by omega, h2⟩
theorem field_down {A B : Nat} {w : World} {v : Value} (h : FieldE B w v) (hA : A ≤ B) : FieldE A w v := by
  obtain ⟨nb, c, g, e, k1, k2, h1, h2⟩ := h
  exact ⟨nb, c, g, e, by omega, by omega, h1, h2⟩
theorem field_keep {B : Nat} {w w' : World} {v : Value} (h : FieldE B w v) (ho : Only (fun q => q < B) w w') : FieldE B w' v := by
  obtain ⟨nb, c, g, e, k1, k2, h1, h2⟩ := h
  exact ⟨nb, c, g, e, k1, k2, (ho.block nb (heap_lt h1) (by omega)).trans h1, (ho.block c (heap_lt h2) (by omega)).trans h2⟩
end Go.Proofs.YtdbdbaepmdmnfaaGreatDoor

