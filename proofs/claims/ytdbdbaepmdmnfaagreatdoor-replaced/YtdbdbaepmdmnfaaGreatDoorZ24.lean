import Derived.Test.YtdbdbaepmdmnfaaGreatDoorZ23
import Derived.Deep.DeepCutAuto
import Derived.Deep.RegionLaw
import Derived.Deep.RegionHeld3
namespace Go.Proofs.YtdbdbaepmdmnfaaGreatDoor
open Go.RowKit
set_option maxRecDepth 100000 in
theorem mk380 (w : World) : (Instr.makeSlice 252 (.int .i64 0) (.int .i64 0)).run Tryz.prog w = .ok (.slice (some ⟨w.heap.size, 0, none⟩) 0 0) (w.alloc (.cells #[] 338)) := by kernel_rfl
set_option maxRecDepth 20000 in
set_option maxHeartbeats 1000000 in
theorem exprs_none (k : Option Addr) (w : World) : Calls Tryz.prog 128 #[.pointer k, .slice none 0 0] w fun en w' => en = .returned (.slice (some ⟨w.heap.size, 0, none⟩) 0 0) ∧ w' = w.alloc (.cells #[] 338) := by
  have hm := mk380
  go_enter Tryz.func128, Tryz.ntmps128
  go_wp2
  go_loop [13] (fun s => s = .int .i64 0) (fun _ => 0)
  case atStart => exact rfl
  case round =>
    subst hrel
    go_wp2
    go_ret
    exact ⟨rfl, rfl⟩
theorem hmfT : ∀ (fn : Fn) (first cap : Array Value) (w : World), (Instr.makeFunc fn first cap).run Tryz.prog w = .ok (.func fn first cap) w := fun _ _ _ _ => rfl
theorem hsfT : ∀ (a : Addr) (fn : Fn) (x y : Array Value) (W : World), (store a (.func fn x y)).run Tryz.prog W = stored Tryz.prog W a (.func fn x y) .plain := fun a _ _ _ W => run_store _ W a _ _ rfl
theorem hsnT : ∀ (a : Addr) (W : World), (store a .nilFunc).run Tryz.prog W = stored Tryz.prog W a .nilFunc .plain := fun a W => run_store _ W a _ _ rfl
set_option maxRecDepth 20000 in
set_option maxHeartbeats 1000000 in
theorem const_made (k n : Int) (s : ByteArray) (w : World) : Calls Tryz.prog 216 #[.agg #[.int .i64 k, .int .i64 n, .string s]] w fun en w' => en = .returned (.agg #[.func (.func 298) #[] #[.pointer (some ⟨w.heap.size, 0, none⟩)], .nilFunc]) ∧ w' = (w.alloc (.cells #[.int .i64 k, .int .i64 n, .string s] 203)).alloc (.cells #[.func (.func 298) #[] #[.pointer (some ⟨w.heap.size, 0, none⟩)], .nilFunc] 338) := by
  have hmf := hmfT
  have hsf := hsfT
  have hsn := hsnT
  go_enter Tryz.func216, Tryz.ntmps216
  go_wp2
  exact bodyPost_ret (v := .agg #[.func (.func 298) #[] #[.pointer (some ⟨w.heap.size, 0, none⟩)], .nilFunc]) (by simp [results, Tryz.results216, go_sem]) rfl ⟨rfl, rfl⟩
set_option maxRecDepth 20000 in
set_option maxHeartbeats 1000000 in
theorem exprOr_nil (kp : Option Addr) (k n : Int) (s : ByteArray) (w : World) : Calls Tryz.prog 273 #[.pointer kp, .nilIface, .agg #[.int .i64 k, .int .i64 n, .string s]] w fun en w' => en = .returned (.agg #[.func (.func 298) #[] #[.pointer (some ⟨w.heap.size + 1 + 1, 0, none⟩)], .nilFunc]) ∧ w'.heap[w.heap.size + 1 + 1]? = some (.cells #[.int .i64 k, .int .i64 n, .string s] 203 (0, 0)) ∧ Only (fun _ => False) w w' := by
  have hsf := hsfT
  have hsn := hsnT
  have HC := hide (const_made k n s ((w.alloc (.cells #[.int .i64 k, .int .i64 n, .string s] 203)).alloc (.cells #[.nilFunc, .nilFunc] 338)))
  go_enter Tryz.func273, Tryz.ntmps273
  go_wp2_with (go_at_call 216; refine (HC.out).mono ?_; rintro en w2 ⟨rfl, hw2⟩; subst hw2)
  refine bodyPost_ret (v := .agg #[.func (.func 298) #[] #[.pointer (some ⟨w.heap.size + 1 + 1, 0, none⟩)], .nilFunc]) (by simp [results, Tryz.results273, go_sem]) rfl ⟨rfl, ?_, ((((onlyA w _).alloc _).alloc _).alloc _)⟩
  exact (Below.heap_alloc _ _ _ (by simp <;> omega)).trans (new_at2 (W := (w.alloc _).alloc _) (by simp) _)
end Go.Proofs.YtdbdbaepmdmnfaaGreatDoor

namespace Go.Proofs.YtdbdbaepmdmnfaaGreatDoor
open Go.RowKit
set_option maxRecDepth 100000 in
theorem te434_434 (v : Value) (w : World) : (Instr.typeAssert (.iface 300 v) 238 300 true).run Tryz.prog w = .ok (.tuple #[v, .bool true]) w := by kernel_rfl
set_option maxRecDepth 100000 in
theorem te436_434 (v : Value) (w : World) : (Instr.typeAssert (.iface 303 v) 238 300 true).run Tryz.prog w = .ok (.tuple #[.agg #[.int .i64 0], .bool false]) w := by kernel_rfl
set_option maxRecDepth 100000 in
theorem te436_436 (v : Value) (w : World) : (Instr.typeAssert (.iface 303 v) 238 303 true).run Tryz.prog w = .ok (.tuple #[v, .bool true]) w := by kernel_rfl
/-- A made constant. -/
def ConstE (B : Nat) (w : World) (v : Value) (k n : Int) (s : ByteArray) : Prop := ∃ c, v = .agg #[.func (.func 298) #[] #[.pointer (some ⟨c, 0, none⟩)], .nilFunc] ∧ B ≤ c ∧ w.heap[c]? = some (.cells #[.int .i64 k, .int .i64 n, .string s] 203 (0, 0))
set_option maxRecDepth 20000 in
set_option maxHeartbeats 1000000 in
theorem found_made (F : Nat) (cap : Array Value) (w : World) : Calls Tryz.prog 306 #[.func (.func F) #[] cap] w fun en w' => en = .returned (.agg #[.func (.func 386) #[] #[.pointer (some ⟨w.heap.size, 0, none⟩)], .func (.func F) #[] cap]) ∧ w' = (w.alloc (.cells #[.func (.func F) #[] cap] 336)).alloc (.cells #[.func (.func 386) #[] #[.pointer (some ⟨w.heap.size, 0, none⟩)], .func (.func F) #[] cap] 338) := by
  have hmf := hmfT
  have hsf := hsfT
  have hsn := hsnT
  go_enter Tryz.func306, Tryz.ntmps306
  go_wp2
  exact bodyPost_ret (v := .agg #[.func (.func 386) #[] #[.pointer (some ⟨w.heap.size, 0, none⟩)], .func (.func F) #[] cap]) (by simp [results, Tryz.results306, go_sem]) rfl ⟨rfl, rfl⟩
set_option maxRecDepth 20000 in
set_option maxHeartbeats 1000000 in
theorem expr_num (kp : Option Addr) (n : Int) (w : World) : Calls Tryz.prog 163 #[.pointer kp, .iface 300 (.agg #[.int .i64 n])] w fun en w' => en = .returned (.agg #[.func (.func 298) #[] #[.pointer (some ⟨w.heap.size + 1 + 1 + 1, 0, none⟩)], .nilFunc]) ∧ w' = (((((w.alloc (.cells #[.func (.func 298) #[] #[.pointer (some ⟨w.heap.size + 1 + 1 + 1, 0, none⟩)], .nilFunc] 338)).alloc (.cells #[.int .i64 n] 300)).alloc (.cells #[.int .i64 1, .int .i64 n, .string ⟨#[]⟩] 203)).alloc (.cells #[.int .i64 1, .int .i64 n, .string ⟨#[]⟩] 203)).alloc (.cells #[.func (.func 298) #[] #[.pointer (some ⟨w.heap.size + 1 + 1 + 1, 0, none⟩)], .nilFunc] 338)) := by
  have hmf := hmfT
  have hsf := hsfT
  have hsn := hsnT
  have t1 := te434_434
  have HN := hide (ofNumber n)
  have HC := hide (const_made 1 n ⟨#[]⟩)
  go_enter Tryz.func163, Tryz.ntmps163
  go_wp2_with (first | (go_at_call 95; refine (HN.out _).mono ?_; rintro en w2 ⟨rfl, hw2⟩; subst hw2) | (go_at_call 216; refine (HC.out _).mono ?_; rintro en w2 ⟨rfl, hw2⟩; subst hw2))
  exact bodyPost_ret (v := .agg #[.func (.func 298) #[] #[.pointer (some ⟨w.heap.size + 1 + 1 + 1, 0, none⟩)], .nilFunc]) (by simp [results, Tryz.results163, go_sem]) rfl ⟨rfl, rfl⟩
set_option maxRecDepth 20000 in
set_option maxHeartbeats 1000000 in
theorem expr_str (kp : Option Addr) (s : ByteArray) (w : World) : Calls Tryz.prog 163 #[.pointer kp, .iface 303 (.agg #[.string s])] w fun en w' => en = .returned (.agg #[.func (.func 298) #[] #[.pointer (some ⟨w.heap.size + 1 + 1 + 1, 0, none⟩)], .nilFunc]) ∧ w' = (((((w.alloc (.cells #[.func (.func 298) #[] #[.pointer (some ⟨w.heap.size + 1 + 1 + 1, 0, none⟩)], .nilFunc] 338)).alloc (.cells #[.string s] 303)).alloc (.cells #[.int .i64 2, .int .i64 0, .string s] 203)).alloc (.cells #[.int .i64 2, .int .i64 0, .string s] 203)).alloc (.cells #[.func (.func 298) #[] #[.pointer (some ⟨w.heap.size + 1 + 1 + 1, 0, none⟩)], .nilFunc] 338)) := by
  have hmf := hmfT
  have hsf := hsfT
  have hsn := hsnT
  have t1 := te436_436
  have t2 := te436_434
  have HN := hide (ofText s)
  have HC := hide (const_made 2 0 s)
  go_enter Tryz.func163, Tryz.ntmps163
  go_wp2_with (first | (go_at_call 96; refine (HN.out _).mono ?_; rintro en w2 ⟨rfl, hw2⟩; subst hw2) | (go_at_call 216; refine (HC.out _).mono ?_; rintro en w2 ⟨rfl, hw2⟩; subst hw2))
  exact bodyPost_ret (v := .agg #[.func (.func 298) #[] #[.pointer (some ⟨w.heap.size + 1 + 1 + 1, 0, none⟩)], .nilFunc]) (by simp [results, Tryz.results163, go_sem]) rfl ⟨rfl, rfl⟩
/-- What finds the record: the made $0. -/
def FieldE (B : Nat) (w : World) (v : Value) : Prop := ∃ nb c g, v = .agg #[.func (.func 386) #[] #[.pointer (some ⟨g, 0, none⟩)], .func (.func 317) #[] #[.pointer (some ⟨nb, 0, none⟩)]] ∧ B ≤ nb ∧ B ≤ c ∧ w.heap[nb]? = some (.cells #[.func (.func 298) #[] #[.pointer (some ⟨c, 0, none⟩)], .nilFunc] 338 (0, 0)) ∧ w.heap[c]? = some (.cells #[.int .i64 1, .int .i64 0, .string ⟨#[]⟩] 203 (0, 0))
set_option maxRecDepth 20000 in
set_option maxHeartbeats 1000000 in
theorem field_made (kp : Option Addr) (w : World) : Calls Tryz.prog 220 #[.pointer kp, .agg #[.iface 300 (.agg #[.int .i64 0])]] w fun en w' => ∃ v, en = .returned v ∧ FieldE w.heap.size w' v ∧ Only (fun _ => False) w w' := by
  have hmf := hmfT
  have hsf := hsfT
  have hsn := hsnT
  have HN := hide (expr_num kp 0)
  have HC := hide (found_made 317)
  go_enter Tryz.func220, Tryz.ntmps220
  go_wp2_with (first | (go_at_call 163; refine (HN.out _).mono ?_; rintro en w2 ⟨rfl, hw2⟩; subst hw2) | (go_at_call 306; refine (HC.out _ _).mono ?_; rintro en w2 ⟨rfl, hw2⟩; subst hw2))
  refine bodyPost_ret (v := .agg #[.func (.func 386) #[] #[.pointer (some ⟨w.heap.size + 1 + 1 + 1 + 1 + 1 + 1 + 1 + 1, 0, none⟩)], .func (.func 317) #[] #[.pointer (some ⟨w.heap.size + 1 + 1 + 1 + 1 + 1 + 1 + 1, 0, none⟩)]]) (by simp [results, Tryz.results220, go_sem]) rfl ⟨_, rfl, ⟨_, w.heap.size + 1 + 1 + 1 + 1 + 1, _, rfl, by omega, by omega, ?_, ?_⟩, (((((((((onlyA w _).alloc _).alloc _).alloc _).alloc _).alloc _).alloc _).alloc _).alloc _).alloc _⟩
  · exact (Below.heap_alloc _ _ _ (by simp <;> omega)).trans ((Below.heap_alloc _ _ _ (by simp <;> omega)).trans (new_at2 (by simp) _))
  · exact (Below.heap_alloc _ _ _ (by simp <;> omega)).trans ((Below.heap_alloc _ _ _ (by simp <;> omega)).trans ((Below.heap_alloc _ _ _ (by simp <;> omega)).trans ((Below.heap_alloc _ _ _ (by simp <;> omega)).trans (new_at2 (by simp) _))))
theorem const_keep {B : Nat} {w w' : World} {v : Value} {k n : Int} {s : ByteArray} (h : ConstE B w v k n s) (ho : Only (fun q => q < B) w w') : ConstE B w' v k n s := by
  obtain ⟨c, e, hB, hc⟩ := h
  exact ⟨c, e, hB, (ho.block c (heap_lt hc) (by omega)).trans hc⟩
theorem const_down {A B : Nat} {w : World} {v : Value} {k n : Int} {s : ByteArray} (h : ConstE B w v k n s) (hA : A ≤ B) : ConstE A w v k n s := by
  obtain ⟨c, e, hB, hc⟩ := h
  exact ⟨c, e, by omega, hc⟩
theorem field_down {A B : Nat} {w : World} {v : Value} (h : FieldE B w v) (hA : A ≤ B) : FieldE A w v := by
  obtain ⟨nb, c, g, e, k1, k2, h1, h2⟩ := h
  exact ⟨nb, c, g, e, by omega, by omega, h1, h2⟩
theorem field_keep {B : Nat} {w w' : World} {v : Value} (h : FieldE B w v) (ho : Only (fun q => q < B) w w') : FieldE B w' v := by
  obtain ⟨nb, c, g, e, k1, k2, h1, h2⟩ := h
  exact ⟨nb, c, g, e, k1, k2, (ho.block nb (heap_lt h1) (by omega)).trans h1, (ho.block c (heap_lt h2) (by omega)).trans h2⟩
end Go.Proofs.YtdbdbaepmdmnfaaGreatDoor

namespace Go.Proofs.YtdbdbaepmdmnfaaGreatDoor
open Go.RowKit
theorem new_at2D {W : World} {n : Nat} (h : W.heap.size = n) (o : Obj) : (W.alloc o).drew.heap[n]? = some o := new_at2 h o
theorem heap_allocD (W : World) (o : Obj) {k : Nat} (h : k < W.heap.size) : (W.alloc o).drew.heap[k]? = W.heap[k]? := Below.heap_alloc _ _ _ h
theorem past {W : World} {a : Addr} {v : Value} (h : W.cell? a = some v) (o : Obj) : (W.alloc o).cell? a = some v := (World.cell?_alloc_some W a o (by rw [h]; rfl)).trans h
theorem pastD {W : World} {a : Addr} {v : Value} (h : W.cell? a = some v) (o : Obj) : (W.alloc o).drew.cell? a = some v := past h o
theorem farC {W : World} {p a : Addr} {v x : Value} (h : W.cell? a = some v) (hn : p.block ≠ a.block) : (W.setCell p x).cell? a = some v := (World.cell?_setCell_far W p a x hn).trans h
theorem set1 {w : World} {b t : Nat} {x : Value} (h : w.heap[b]? = some (.cells #[x] t (0, 0))) (v : Value) : (w.setCell ⟨b, 0, none⟩ v).heap[b]? = some (.cells #[v] t (0, 0)) := heap_setCell_same h v
theorem set2 {w : World} {b t : Nat} {x y : Value} (h : w.heap[b]? = some (.cells #[x, y] t (0, 0))) (u v : Value) : ((w.setCell ⟨b, 0, none⟩ u).setCell ⟨b, 1, none⟩ v).heap[b]? = some (.cells #[u, v] t (0, 0)) := heap_setCell_same (heap_setCell_same h u) v
theorem lay {P Q : Prop} (h : P) (k : P → Q) : Q := k h
end Go.Proofs.YtdbdbaepmdmnfaaGreatDoor

namespace Go.Proofs.YtdbdbaepmdmnfaaGreatDoor
open Go.RowKit
set_option maxRecDepth 100000 in
theorem tx507_419 (v : Value) (w : World) : (Instr.typeAssert (.iface 350 v) 235 285 true).run Tryz.prog w = .ok (.tuple #[.agg #[.slice none 0 0, .nilIface], .bool false]) w := by kernel_rfl
set_option maxRecDepth 100000 in
theorem tx507_509 (v : Value) (w : World) : (Instr.typeAssert (.iface 350 v) 235 352 true).run Tryz.prog w = .ok (.tuple #[.agg #[.string ⟨#[]⟩, .int .i64 0], .bool false]) w := by kernel_rfl
set_option maxRecDepth 100000 in
theorem tx507_510 (v : Value) (w : World) : (Instr.typeAssert (.iface 350 v) 235 353 true).run Tryz.prog w = .ok (.tuple #[.agg #[.nilIface], .bool false]) w := by kernel_rfl
set_option maxRecDepth 100000 in
theorem tx507_512 (v : Value) (w : World) : (Instr.typeAssert (.iface 350 v) 235 355 true).run Tryz.prog w = .ok (.tuple #[.agg #[.nilIface, .int .i64 0], .bool false]) w := by kernel_rfl
set_option maxRecDepth 100000 in
theorem tx507_513 (v : Value) (w : World) : (Instr.typeAssert (.iface 350 v) 235 356 true).run Tryz.prog w = .ok (.tuple #[.agg #[.string ⟨#[]⟩, .int .i64 0, .slice none 0 0], .bool false]) w := by kernel_rfl
/-- A fact about a func value that nothing turns which turns older blocks alone. -/
structure Keeps (I : Nat → World → Value → Prop) : Prop where
  isF : ∀ B w x, I B w x → ∃ F cap, x = .func (.func F) #[] cap
  keep : ∀ B w w' x, I B w x → Only (fun q => q < B) w w' → I B w' x
  down : ∀ A B w x, I B w x → A ≤ B → I A w x
/-- What prints the record. -/
def PrintF (B : Nat) (w : World) (v : Value) : Prop := ∃ lb eb c g z, v = .func (.func 280) #[] #[.pointer (some ⟨lb, 0, none⟩), .pointer (some ⟨eb, 0, none⟩)] ∧ (B ≤ lb ∧ B ≤ eb ∧ B ≤ c) ∧ w.heap[lb]? = some (.cells #[.slice (some ⟨g, 0, none⟩) 0 0] 252 (0, 0)) ∧ w.heap[eb]? = some (.cells #[.func (.func 298) #[] #[.pointer (some ⟨c, 0, none⟩)], z] 338 (0, 0)) ∧ w.heap[c]? = some (.cells #[.int .i64 0, .int .i64 0, .string ⟨#[]⟩] 203 (0, 0))
theorem print_keeps : Keeps PrintF where
  isF := fun _ _ _ ⟨_, _, _, _, _, e, _⟩ => ⟨_, _, e⟩
  keep := fun B w w' x ⟨lb, eb, c, g, z, e, ⟨k1, k2, k3⟩, h1, h2, h3⟩ ho => ⟨lb, eb, c, g, z, e, ⟨k1, k2, k3⟩, (ho.block lb (heap_lt h1) (by omega)).trans h1, (ho.block eb (heap_lt h2) (by omega)).trans h2, (ho.block c (heap_lt h3) (by omega)).trans h3⟩
  down := fun A B w x ⟨lb, eb, c, g, z, e, ⟨k1, k2, k3⟩, h⟩ hA => ⟨lb, eb, c, g, z, e, ⟨by omega, by omega, by omega⟩, h⟩
set_option maxRecDepth 20000 in
set_option maxHeartbeats 2000000 in
theorem print_made2 (kp : Option Addr) (w : World) : Calls Tryz.prog 210 #[.pointer kp, .agg #[.slice none 0 0, .nilIface]] w fun en w' => ∃ v, en = .returned (.agg #[v]) ∧ PrintF w.heap.size w' v ∧ Only (fun _ => False) w w' := by
  have hmf := hmfT
  have hsf := hsfT
  have hsn := hsnT
  have HE := hide (exprs_none kp)
  have HC := hide (exprOr_nil kp 0 0 ⟨#[]⟩)
  go_enter Tryz.func210, Tryz.ntmps210
  go_wp2_with (go_at_call 128; refine (HE.out _).mono ?_; rintro en w2 ⟨rfl, hw2⟩; subst hw2)
  refine (HC.out _).mono ?_
  rintro en w3 ⟨rfl, hb3, ho3⟩
  have hz : w.heap.size + 1 + 1 + 1 + 1 ≤ w3.heap.size := by have := ho3.size; simpa using this
  have hr : w3.heap[w.heap.size + 1]? = some (.cells #[.nilFunc] 185 (0, 0)) := (ho3.block _ (by simp <;> omega) (fun e => e)).trans ((Below.heap_alloc _ _ _ (by simp <;> omega)).trans ((Below.heap_alloc _ _ _ (by simp <;> omega)).trans (new_at2 (W := w.alloc _) (by simp) _)))
  have hl : w3.heap[w.heap.size + 1 + 1 + 1]? = some (.cells #[.slice (some ⟨w.heap.size + 1 + 1, 0, none⟩) 0 0] 252 (0, 0)) := (ho3.block _ (by simp <;> omega) (fun e => e)).trans (new_at2 (W := ((w.alloc _).alloc _).alloc _) (by simp) _)
  have r0 : w3.cell? ⟨w.heap.size + 1, 0, none⟩ = some .nilFunc := cell_of hr rfl
  have rf := free_of hr
  have hrl := heap_lt hr
  have HB := hide hb3
  have HL := hide hl
  have HO : Hid (Only (fun _ => False) w w3) := ((((onlyA w _).alloc _).alloc _).alloc _).trans ho3 (fun _ _ e => e)
  clear hb3 hr hl ho3 HC HE
  have hB : w3.heap[w.heap.size + 1 + 1 + 1 + 1 + 1 + 1]? = some (.cells #[.int .i64 0, .int .i64 0, .string ⟨#[]⟩] 203 (0, 0)) := by simpa using HB.out
  have hbl := heap_lt hB
  have HB2 := hide hB
  clear hB HB
  go_wp2
  refine bodyPost_ret (v := .agg #[.func (.func 280) #[] #[.pointer (some ⟨w.heap.size + 1 + 1 + 1, 0, none⟩), .pointer (some ⟨w3.heap.size, 0, none⟩)]]) (by simp [results, Tryz.results210, go_sem, r0, hrl]) rfl ⟨_, rfl, ⟨w.heap.size + 1 + 1 + 1, w3.heap.size, w.heap.size + 1 + 1 + 1 + 1 + 1 + 1, w.heap.size + 1 + 1, .nilFunc, rfl, ⟨by omega, by omega, by omega⟩, ?_, ?_, ?_⟩, ?_⟩
  · exact (Below.heap_alloc _ _ _ (by rw [size_setCell]; omega)).trans ((Below.heap_setCell _ _ _ _ (by show w.heap.size + 1 + 1 + 1 ≠ w.heap.size + 1; omega)).trans HL.out)
  · exact new_at2 (by simp) _
  · exact (Below.heap_alloc _ _ _ (by rw [size_setCell]; omega)).trans ((Below.heap_setCell _ _ _ _ (by show w.heap.size + 1 + 1 + 1 + 1 + 1 + 1 ≠ w.heap.size + 1; omega)).trans HB2.out)
  · exact (HO.out.setCell (p := ⟨w.heap.size + 1, 0, none⟩) (fun h => absurd h (by show ¬ w.heap.size + 1 < w.heap.size; omega)) _).alloc _
set_option maxRecDepth 20000 in
set_option maxHeartbeats 4000000 in
theorem counted_print (kp : Option Addr) (w : World) :
    Calls Tryz.prog 161 #[.pointer kp, printV] w fun en w' => ∃ x, en = .returned (.agg #[x]) ∧ PrintF w.heap.size w' x ∧ Only (fun _ => False) w w' := by
  unfold printV
  have hmf := hmfT
  have hsf := hsfT
  have hsn := hsnT
  have t1 := ts419_424
  have t2 := ts419_427
  have t3 := ts419_429
  have t4 := ts419_432
  have t5 := ts419_419
  have HR := hide (print_made2 kp)
  go_enter Tryz.func161, Tryz.ntmps161
  go_wp2_with fail
  refine (HR.out _).mono ?_
  rintro en w2 ⟨v, rfl, hv, ho⟩
  have hv2 := hv
  obtain ⟨lb, eb, c, g, z, rfl, _⟩ := hv2
  have hb := (ho.block w.heap.size (by simp; omega) (fun e => e)).trans ((Below.heap_alloc _ _ _ (by simp)).trans (new0 w _))
  have r0 : w2.cell? ⟨w.heap.size, 0, none⟩ = some .nilFunc := cell_of hb rfl
  have rf := free_of hb
  have rl := heap_lt hb
  have HV := hide hv
  have HO := hide ho
  clear hv ho hb HR
  go_wp2
  refine bodyPost_ret (v := .agg #[.func (.func 280) #[] #[.pointer (some ⟨lb, 0, none⟩), .pointer (some ⟨eb, 0, none⟩)]]) (by simp [results, Tryz.results161, go_sem, r0]) rfl ⟨_, rfl, print_keeps.down _ _ _ _ (print_keeps.keep _ _ _ _ HV.out ((Only.refl _ w2).setCell (p := ⟨w.heap.size, 0, none⟩) (fun _ => by show w.heap.size < _; simp; omega) _)) (by simp; omega), ?_⟩
  exact ((((onlyA w _).alloc _).trans HO.out (fun _ _ e => e)).setCell (p := ⟨w.heap.size, 0, none⟩) (fun h => absurd h (by show ¬ w.heap.size < w.heap.size; omega)) _)
/-- A made statement: a step, and what it does. -/
def StF (I : Nat → World → Value → Prop) (B : Nat) (w : World) (v : Value) : Prop := ∃ b x, v = .func (.func 162) #[] #[.pointer (some ⟨b, 0, none⟩)] ∧ B ≤ b ∧ w.heap[b]? = some (.cells #[x] 185 (0, 0)) ∧ I B w x
theorem st_keeps {I : Nat → World → Value → Prop} (h : Keeps I) : Keeps (StF I) where
  isF := fun _ _ _ ⟨_, _, e, _⟩ => ⟨_, _, e⟩
  keep := fun B w w' x ⟨b, y, e, k, h1, h2⟩ ho => ⟨b, y, e, k, (ho.block b (heap_lt h1) (by omega)).trans h1, h.keep _ _ _ _ h2 ho⟩
  down := fun A B w x ⟨b, y, e, k, h1, h2⟩ hA => ⟨b, y, e, by omega, h1, h.down _ _ _ _ h2 hA⟩
end Go.Proofs.YtdbdbaepmdmnfaaGreatDoor

