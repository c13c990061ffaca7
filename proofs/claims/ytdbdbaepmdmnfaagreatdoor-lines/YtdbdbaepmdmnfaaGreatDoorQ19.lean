import Derived.Test.YtdbdbaepmdmnfaaGreatDoorQ18
import Derived.Deep.DeepCutAuto
import Derived.Deep.RegionLaw
import Derived.Deep.RegionHeld3
namespace Go.Proofs.YtdbdbaepmdmnfaaGreatDoor
open Go.RowKit
theorem new_at2D {W : World} {n : Nat} (h : W.heap.size = n) (o : Obj) : (W.alloc o).drew.heap[n]? = some o := new_at2 h o
theorem heap_allocD (W : World) (o : Obj) {k : Nat} (h : k < W.heap.size) : (W.alloc o).drew.heap[k]? = W.heap[k]? := Below.heap_alloc _ _ _ h
theorem past {W : World} {a : Addr} {v : Value} (h : W.cell? a = some v) (o : Obj) : (W.alloc o).cell? a = some v := (World.cell?_alloc_some W a o (by rw [h]; rfl)).trans h
theorem pastD {W : World} {a : Addr} {v : Value} (h : W.cell? a = some v) (o : Obj) : (W.alloc o).drew.cell? a = some v := past h o
theorem farC {W : World} {p a : Addr} {v x : Value} (h : W.cell? a = some v) (hn : p.block ≠ a.block) : (W.setCell p x).cell? a = some v := (World.cell?_setCell_far W p a x hn).trans h
theorem set1 {w : World} {b t : Nat} {x : Value} (h : w.heap[b]? = some (.cells #[x] t (0, 0))) (v : Value) : (w.setCell ⟨b, 0, none⟩ v).heap[b]? = some (.cells #[v] t (0, 0)) := heap_setCell_same h v
theorem set2 {w : World} {b t : Nat} {x y : Value} (h : w.heap[b]? = some (.cells #[x, y] t (0, 0))) (u v : Value) : ((w.setCell ⟨b, 0, none⟩ u).setCell ⟨b, 1, none⟩ v).heap[b]? = some (.cells #[u, v] t (0, 0)) := heap_setCell_same (heap_setCell_same h u) v
theorem lay {P Q : Prop} (h : P) (k : P → Q) : Q := k h
end Go.Proofs.YtdbdbaepmdmnfaaGreatDoor
namespace Go.Proofs.YtdbdbaepmdmnfaaGreatDoor
open Go.RowKit
set_option maxRecDepth 100000 in
theorem tx419_470 (v : Value) (w : World) : (Instr.typeAssert (.iface 285 v) 235 334 true).run Tryz.prog w = .ok (.tuple #[.agg #[], .bool false]) w := by kernel_rfl
/-- A fact about a func value that nothing turns which turns older blocks alone. -/
structure Keeps (I : Nat → World → Value → Prop) : Prop where
  isF : ∀ B w x, I B w x → ∃ F cap, x = .func (.func F) #[] cap
  keep : ∀ B w w' x, I B w x → Only (fun q => q < B) w w' → I B w' x
  down : ∀ A B w x, I B w x → A ≤ B → I A w x
/-- What prints the record. -/
def PrintF (B : Nat) (w : World) (v : Value) : Prop := ∃ lb eb c g z, v = .func (.func 280) #[] #[.pointer (some ⟨lb, 0, none⟩), .pointer (some ⟨eb, 0, none⟩)] ∧ (B ≤ lb ∧ B ≤ eb ∧ B ≤ c) ∧ w.heap[lb]? = some (.cells #[.slice (some ⟨g, 0, none⟩) 0 0] 252 (0, 0)) ∧ w.heap[eb]? = some (.cells #[.func (.func 298) #[] #[.pointer (some ⟨c, 0, none⟩)], z] 338 (0, 0)) ∧ w.heap[c]? = some (.cells #[.int .i64 0, .int .i64 0, .string ⟨#[]⟩] 203 (0, 0))
theorem print_keeps : Keeps PrintF where
  isF := fun _ _ _ ⟨_, _, _, _, _, e, _⟩ => ⟨_, _, e⟩
  keep := fun B w w' x ⟨lb, eb, c, g, z, e, ⟨k1, k2, k3⟩, h1, h2, h3⟩ ho => ⟨lb, eb, c, g, z, e, ⟨k1, k2, k3⟩, (ho.block lb (heap_lt h1) (by omega)).trans h1, (ho.block eb (heap_lt h2) (by omega)).trans h2, (ho.block c (heap_lt h3) (by omega)).trans h3⟩
  down := fun A B w x ⟨lb, eb, c, g, z, e, ⟨k1, k2, k3⟩, h⟩ hA => ⟨lb, eb, c, g, z, e, ⟨by omega, by omega, by omega⟩, h⟩
set_option maxRecDepth 20000 in
set_option maxHeartbeats 2000000 in
theorem print_made2 (kp : Option Addr) (w : World) : Calls Tryz.prog 210 #[.pointer kp, .agg #[.slice none 0 0, .nilIface]] w fun en w' => ∃ v, en = .returned (.agg #[v]) ∧ PrintF w.heap.size w' v ∧ Only (fun _ => False) w w' := by
  have hmf := hmfT
  have hsf := hsfT
  have hsn := hsnT
  have HE := hide (exprs_none kp)
  have HC := hide (exprOr_nil kp 0 0 ⟨#[]⟩)
  go_enter Tryz.func210, Tryz.ntmps210
  go_wp2_with (go_at_call 128; refine (HE.out _).mono ?_; rintro en w2 ⟨rfl, hw2⟩; subst hw2)
  refine (HC.out _).mono ?_
  rintro en w3 ⟨rfl, hb3, ho3⟩
  have hz : w.heap.size + 1 + 1 + 1 + 1 ≤ w3.heap.size := by have := ho3.size; simpa using this
  have hr : w3.heap[w.heap.size + 1]? = some (.cells #[.nilFunc] 185 (0, 0)) := (ho3.block _ (by simp <;> omega) (fun e => e)).trans ((Below.heap_alloc _ _ _ (by simp <;> omega)).trans ((Below.heap_alloc _ _ _ (by simp <;> omega)).trans (new_at2 (W := w.alloc _) (by simp) _)))
  have hl : w3.heap[w.heap.size + 1 + 1 + 1]? = some (.cells #[.slice (some ⟨w.heap.size + 1 + 1, 0, none⟩) 0 0] 252 (0, 0)) := (ho3.block _ (by simp <;> omega) (fun e => e)).trans (new_at2 (W := ((w.alloc _).alloc _).alloc _) (by simp) _)
  have r0 : w3.cell? ⟨w.heap.size + 1, 0, none⟩ = some .nilFunc := cell_of hr rfl
  have rf := free_of hr
  have hrl := heap_lt hr
  have HB := hide hb3
  have HL := hide hl
  have HO : Hid (Only (fun _ => False) w w3) := ((((onlyA w _).alloc _).alloc _).alloc _).trans ho3 (fun _ _ e => e)
  clear hb3 hr hl ho3 HC HE
  have hB : w3.heap[w.heap.size + 1 + 1 + 1 + 1 + 1 + 1]? = some (.cells #[.int .i64 0, .int .i64 0, .string ⟨#[]⟩] 203 (0, 0)) := by simpa using HB.out
  have hbl := heap_lt hB
  have HB2 := hide hB
  clear hB HB
  go_wp2
  refine bodyPost_ret (v := .agg #[.func (.func 280) #[] #[.pointer (some ⟨w.heap.size + 1 + 1 + 1, 0, none⟩), .pointer (some ⟨w3.heap.size, 0, none⟩)]]) (by simp [results, Tryz.results210, go_sem, r0, hrl]) rfl ⟨_, rfl, ⟨w.heap.size + 1 + 1 + 1, w3.heap.size, w.heap.size + 1 + 1 + 1 + 1 + 1 + 1, w.heap.size + 1 + 1, .nilFunc, rfl, ⟨by omega, by omega, by omega⟩, ?_, ?_, ?_⟩, ?_⟩
  · exact (Below.heap_alloc _ _ _ (by rw [size_setCell]; omega)).trans ((Below.heap_setCell _ _ _ _ (by show w.heap.size + 1 + 1 + 1 ≠ w.heap.size + 1; omega)).trans HL.out)
  · exact new_at2 (by simp) _
  · exact (Below.heap_alloc _ _ _ (by rw [size_setCell]; omega)).trans ((Below.heap_setCell _ _ _ _ (by show w.heap.size + 1 + 1 + 1 + 1 + 1 + 1 ≠ w.heap.size + 1; omega)).trans HB2.out)
  · exact (HO.out.setCell (p := ⟨w.heap.size + 1, 0, none⟩) (fun h => absurd h (by show ¬ w.heap.size + 1 < w.heap.size; omega)) _).alloc _
set_option maxRecDepth 20000 in
set_option maxHeartbeats 4000000 in
theorem counted_print (kp : Option Addr) (w : World) :
    Calls Tryz.prog 161 #[.pointer kp, printV] w fun en w' => ∃ x, en = .returned (.agg #[x]) ∧ PrintF w.heap.size w' x ∧ Only (fun _ => False) w w' := by
  unfold printV
  have hmf := hmfT
  have hsf := hsfT
  have hsn := hsnT
  have t1 := ts419_424
  have t2 := ts419_427
  have t3 := ts419_429
  have t4 := ts419_432
  have t5 := ts419_419
  have HR := hide (print_made2 kp)
  go_enter Tryz.func161, Tryz.ntmps161
  go_wp2_with fail
  refine (HR.out _).mono ?_
  rintro en w2 ⟨v, rfl, hv, ho⟩
  have hv2 := hv
  obtain ⟨lb, eb, c, g, z, rfl, _⟩ := hv2
  have hb := (ho.block w.heap.size (by simp; omega) (fun e => e)).trans ((Below.heap_alloc _ _ _ (by simp)).trans (new0 w _))
  have r0 : w2.cell? ⟨w.heap.size, 0, none⟩ = some .nilFunc := cell_of hb rfl
  have rf := free_of hb
  have rl := heap_lt hb
  have HV := hide hv
  have HO := hide ho
  clear hv ho hb HR
  go_wp2
  refine bodyPost_ret (v := .agg #[.func (.func 280) #[] #[.pointer (some ⟨lb, 0, none⟩), .pointer (some ⟨eb, 0, none⟩)]]) (by simp [results, Tryz.results161, go_sem, r0]) rfl ⟨_, rfl, print_keeps.down _ _ _ _ (print_keeps.keep _ _ _ _ HV.out ((Only.refl _ w2).setCell (p := ⟨w.heap.size, 0, none⟩) (fun _ => by show w.heap.size < _; simp; omega) _)) (by simp; omega), ?_⟩
  exact ((((onlyA w _).alloc _).trans HO.out (fun _ _ e => e)).setCell (p := ⟨w.heap.size, 0, none⟩) (fun h => absurd h (by show ¬ w.heap.size < w.heap.size; omega)) _)
/-- A made statement: a step, and what it does. -/
def StF (I : Nat → World → Value → Prop) (B : Nat) (w : World) (v : Value) : Prop := ∃ b x, v = .func (.func 162) #[] #[.pointer (some ⟨b, 0, none⟩)] ∧ B ≤ b ∧ w.heap[b]? = some (.cells #[x] 185 (0, 0)) ∧ I B w x
theorem st_keeps {I : Nat → World → Value → Prop} (h : Keeps I) : Keeps (StF I) where
  isF := fun _ _ _ ⟨_, _, e, _⟩ => ⟨_, _, e⟩
  keep := fun B w w' x ⟨b, y, e, k, h1, h2⟩ ho => ⟨b, y, e, k, (ho.block b (heap_lt h1) (by omega)).trans h1, h.keep _ _ _ _ h2 ho⟩
  down := fun A B w x ⟨b, y, e, k, h1, h2⟩ hA => ⟨b, y, e, by omega, h1, h.down _ _ _ _ h2 hA⟩
set_option maxRecDepth 20000 in
set_option maxHeartbeats 4000000 in
theorem stmt_made (kp : Option Addr) (I : Nat → World → Value → Prop) (hI : Keeps I) (ty : Nat) (u : Value) (w : World) (h1 : ∀ W, (Instr.typeAssert (.iface ty u) 235 95 true).run Tryz.prog W = .ok (.tuple #[.slice none 0 0, .bool false]) W) (h2 : ∀ W, (Instr.typeAssert (.iface ty u) 235 334 true).run Tryz.prog W = .ok (.tuple #[.agg #[], .bool false]) W)
    (H : ∀ W, Only (fun _ => False) w W → Calls Tryz.prog 161 #[.pointer kp, .iface ty u] W fun en w' => ∃ x, en = .returned (.agg #[x]) ∧ I W.heap.size w' x ∧ Only (fun _ => False) W w') :
    Calls Tryz.prog 126 #[.pointer kp, .iface ty u] w fun en w' => ∃ x, en = .returned (.agg #[x]) ∧ StF I w.heap.size w' x ∧ Only (fun _ => False) w w' := by
  have hmf := hmfT
  have hsf := hsfT
  have hsn := hsnT
  have HR := hide (H _ (onlyA w (.cells #[.nilFunc] 185)))
  have HI := hide hI
  clear hI H
  go_enter Tryz.func126, Tryz.ntmps126
  go_wp2_with fail
  refine (HR.out).mono ?_
  rintro en w2 ⟨x, rfl, hv, ho⟩
  obtain ⟨F, cap, rfl⟩ := HI.out.isF _ _ _ hv
  have hb := (ho.block w.heap.size (by simp) (fun e => e)).trans (new0 w _)
  have r0 : w2.cell? ⟨w.heap.size, 0, none⟩ = some .nilFunc := cell_of hb rfl
  have rf := free_of hb
  have rl := heap_lt hb
  have HV := hide hv
  have HO := hide ho
  clear hv ho hb HR
  go_wp2
  have hzw : w.heap.size + 1 ≤ w2.heap.size := by have := HO.out.size; simpa using this
  refine bodyPost_ret (v := .agg #[.func (.func 162) #[] #[.pointer (some ⟨w2.heap.size, 0, none⟩)]]) (by simp [results, Tryz.results126, go_sem, r0, rl]) rfl ⟨_, rfl, ⟨w2.heap.size, _, rfl, by omega, new_at2 (by simp) _, HI.out.down _ _ _ _ (HI.out.keep _ _ _ _ HV.out (((Only.refl _ w2).setCell (p := ⟨w.heap.size, 0, none⟩) (fun _ => by show w.heap.size < _; simp) _).alloc _)) (by simp)⟩, ?_⟩
  exact ((((onlyA w _).trans HO.out (fun _ _ e => e)).setCell (p := ⟨w.heap.size, 0, none⟩) (fun h => absurd h (by show ¬ w.heap.size < w.heap.size; omega)) _).alloc _)
end Go.Proofs.YtdbdbaepmdmnfaaGreatDoor
