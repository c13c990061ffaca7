import Derived.Test.YtdbdbaepmdmnfaaGreatDoorZ08
import Derived.MapKept
import Derived.Deep.RegionWith
import Derived.Deep.DeepCutAuto
namespace Go.Proofs.YtdbdbaepmdmnfaaGreatDoor
open Go.RowKit
theorem look262 {w : World} {M n : Nat} (h : w.heap[M]? = some (.map #[] n)) (x : ByteArray) : (Instr.lookup 156 (.map (some M)) (.string x) true).run Tryz.prog w = .ok (.tuple #[.agg #[.string ⟨#[]⟩, .int .i64 0, .slice none 0 0, .slice none 0 0], .bool false]) w := by
  have h1 := MapKept.run_getObj_map (P := Tryz.prog) h
  have h2 : (Instr.checkKey true 10000 9 (.string x)).run Tryz.prog w = .ok () w := MapKept.run_checkKey (d := .string) Tryz.underlying9 (by simp [MapKept.IsKey]) true 9999
  have h3 : (Instr.findKey 9 (.string x) []).run Tryz.prog w = .ok none w := MapKept.run_findKey Tryz.underlying9 rfl
  simp [Instr.lookup, go_sem, h1, h2, h3]
/-- A checker: no function is known, no parameter; us are the uses so far; nothing is wrong. -/
def UAt (w : World) (cb M : Nat) (us : Value) (rec : Bool) : Prop :=
  w.heap[cb]? = some (.cells #[.map (some M), .slice none 0 0, us, .slice none 0 0, .int .i64 0, .bool false, .bool rec] 159 (0, 0)) ∧ w.heap[M]? = some (.map #[] 0)
theorem UAt.ne {w cb M us rec} (h : UAt w cb M us rec) : M ≠ cb := fun e => by have h1 := h.1; have h2 := h.2; rw [e, h1] at h2; cases h2
theorem UAt.only {w w' cb M us rec D} (h : UAt w cb M us rec) (ho : Only D w w') (h1 : ¬ D cb) (h2 : ¬ D M) : UAt w' cb M us rec := ⟨(ho.block _ (heap_lt h.1) h1).trans h.1, (ho.block _ (heap_lt h.2) h2).trans h.2⟩
theorem UAt.alloc {w cb M us rec} (h : UAt w cb M us rec) (o : Obj) : UAt (w.alloc o) cb M us rec := h.only (onlyA w o) (fun e => e) (fun e => e)
set_option maxHeartbeats 1000000 in
theorem paramOf_none (x : ByteArray) (w : World) :
    Calls Tryz.prog 112 #[.slice none 0 0, .string x] w fun en w' => en = .returned (.tuple #[.agg #[.string ⟨#[]⟩, .int .i64 0, .bool false], .bool false]) ∧ w' = w.alloc (.cells #[.string ⟨#[]⟩, .int .i64 0, .bool false] 164) := by
  go_enter Tryz.func112, Tryz.ntmps112
  go_wp2
  go_loop [10] (fun s => s = .int .i64 0) (fun _ => 0)
  case atStart => exact rfl
  case round =>
    subst hrel
    go_wp2
    exact bodyPost_ret (v := .tuple #[.agg #[.string ⟨#[]⟩, .int .i64 0, .bool false], .bool false]) (by simp [results, Tryz.results112, go_sem]) rfl ⟨rfl, rfl⟩
theorem info357 : (Tryz.prog.info? 227).map (fun i => (i.zero, i.size, i.bytes)) = some (some (.agg #[.string ⟨#[]⟩, .int .i64 0, .int .i64 0]), 3, 32) := by kernel_rfl
theorem toDrew {D : Nat → Prop} {w w' : World} (h : Only D w w') : Only D w w'.drew := ⟨h.os, h.tape, h.output, h.size, h.block⟩
/-- The uses: none, or the one of x at a. -/
def UsT (x : ByteArray) (a : Nat) (w : World) (v : Value) : Prop := w.ownsRow 0 227 3 v 1 [.string x, .int .i64 a, .int .i64 0]
end Go.Proofs.YtdbdbaepmdmnfaaGreatDoor

namespace Go.Proofs.YtdbdbaepmdmnfaaGreatDoor
open Go.RowKit
theorem tenil_188 (w : World) : (Instr.typeAssert .nilIface 238 92 true).run Tryz.prog w = .ok (.tuple #[.agg #[.string ⟨#[]⟩, .int .i64 0], .bool false]) w := by kernel_rfl
theorem tenil_439 (w : World) : (Instr.typeAssert .nilIface 238 306 true).run Tryz.prog w = .ok (.tuple #[.agg #[.string ⟨#[]⟩, .int .i64 0, .slice none 0 0], .bool false]) w := by kernel_rfl
theorem tenil_442 (w : World) : (Instr.typeAssert .nilIface 238 309 true).run Tryz.prog w = .ok (.tuple #[.agg #[.nilIface], .bool false]) w := by kernel_rfl
theorem tenil_444 (w : World) : (Instr.typeAssert .nilIface 238 311 true).run Tryz.prog w = .ok (.tuple #[.agg #[.string ⟨#[]⟩, .int .i64 0, .slice none 0 0], .bool false]) w := by kernel_rfl
theorem tenil_445 (w : World) : (Instr.typeAssert .nilIface 238 312 true).run Tryz.prog w = .ok (.tuple #[.agg #[.string ⟨#[]⟩, .int .i64 0, .slice none 0 0], .bool false]) w := by kernel_rfl
theorem tenil_447 (w : World) : (Instr.typeAssert .nilIface 238 314 true).run Tryz.prog w = .ok (.tuple #[.agg #[.string ⟨#[]⟩, .nilIface], .bool false]) w := by kernel_rfl
theorem tenil_449 (w : World) : (Instr.typeAssert .nilIface 238 316 true).run Tryz.prog w = .ok (.tuple #[.agg #[.nilIface, .string ⟨#[]⟩, .nilIface], .bool false]) w := by kernel_rfl
theorem tenil_452 (w : World) : (Instr.typeAssert .nilIface 238 319 true).run Tryz.prog w = .ok (.tuple #[.agg #[.nilIface, .nilIface], .bool false]) w := by kernel_rfl
theorem tenil_454 (w : World) : (Instr.typeAssert .nilIface 238 321 true).run Tryz.prog w = .ok (.tuple #[.agg #[.nilIface, .string ⟨#[]⟩, .int .i64 0], .bool false]) w := by kernel_rfl
theorem tenil_456 (w : World) : (Instr.typeAssert .nilIface 238 323 true).run Tryz.prog w = .ok (.tuple #[.agg #[.nilIface, .nilIface, .nilIface], .bool false]) w := by kernel_rfl
theorem tenil_459 (w : World) : (Instr.typeAssert .nilIface 238 326 true).run Tryz.prog w = .ok (.tuple #[.agg #[.nilIface, .string ⟨#[]⟩, .nilIface], .bool false]) w := by kernel_rfl
theorem te188_188 (v : Value) (w : World) : (Instr.typeAssert (.iface 92 v) 238 92 true).run Tryz.prog w = .ok (.tuple #[v, .bool true]) w := by kernel_rfl
theorem ts507_191 (v : Value) (w : World) : (Instr.typeAssert (.iface 350 v) 235 95 true).run Tryz.prog w = .ok (.tuple #[.slice none 0 0, .bool false]) w := by kernel_rfl
theorem ts507_424 (v : Value) (w : World) : (Instr.typeAssert (.iface 350 v) 235 290 true).run Tryz.prog w = .ok (.tuple #[.agg #[.nilIface, .slice none 0 0, .bool false, .slice none 0 0], .bool false]) w := by kernel_rfl
theorem ts507_427 (v : Value) (w : World) : (Instr.typeAssert (.iface 350 v) 235 293 true).run Tryz.prog w = .ok (.tuple #[.agg #[.nilIface, .slice none 0 0], .bool false]) w := by kernel_rfl
theorem ts507_429 (v : Value) (w : World) : (Instr.typeAssert (.iface 350 v) 235 295 true).run Tryz.prog w = .ok (.tuple #[.agg #[.nilIface, .nilIface, .nilIface, .slice none 0 0], .bool false]) w := by kernel_rfl
theorem ts507_432 (v : Value) (w : World) : (Instr.typeAssert (.iface 350 v) 235 298 true).run Tryz.prog w = .ok (.tuple #[.agg #[.string ⟨#[]⟩, .int .i64 0, .string ⟨#[]⟩, .int .i64 0, .slice none 0 0], .bool false]) w := by kernel_rfl
theorem ts507_507 (v : Value) (w : World) : (Instr.typeAssert (.iface 350 v) 235 350 true).run Tryz.prog w = .ok (.tuple #[v, .bool true]) w := by kernel_rfl
theorem ts419_191 (v : Value) (w : World) : (Instr.typeAssert (.iface 285 v) 235 95 true).run Tryz.prog w = .ok (.tuple #[.slice none 0 0, .bool false]) w := by kernel_rfl
theorem ts419_424 (v : Value) (w : World) : (Instr.typeAssert (.iface 285 v) 235 290 true).run Tryz.prog w = .ok (.tuple #[.agg #[.nilIface, .slice none 0 0, .bool false, .slice none 0 0], .bool false]) w := by kernel_rfl
theorem ts419_427 (v : Value) (w : World) : (Instr.typeAssert (.iface 285 v) 235 293 true).run Tryz.prog w = .ok (.tuple #[.agg #[.nilIface, .slice none 0 0], .bool false]) w := by kernel_rfl
theorem ts419_429 (v : Value) (w : World) : (Instr.typeAssert (.iface 285 v) 235 295 true).run Tryz.prog w = .ok (.tuple #[.agg #[.nilIface, .nilIface, .nilIface, .slice none 0 0], .bool false]) w := by kernel_rfl
theorem ts419_432 (v : Value) (w : World) : (Instr.typeAssert (.iface 285 v) 235 298 true).run Tryz.prog w = .ok (.tuple #[.agg #[.string ⟨#[]⟩, .int .i64 0, .string ⟨#[]⟩, .int .i64 0, .slice none 0 0], .bool false]) w := by kernel_rfl
theorem ts419_507 (v : Value) (w : World) : (Instr.typeAssert (.iface 285 v) 235 350 true).run Tryz.prog w = .ok (.tuple #[.agg #[.nilIface], .bool false]) w := by kernel_rfl
theorem ts419_419 (v : Value) (w : World) : (Instr.typeAssert (.iface 285 v) 235 285 true).run Tryz.prog w = .ok (.tuple #[v, .bool true]) w := by kernel_rfl
set_option maxRecDepth 20000 in
set_option maxHeartbeats 4000000 in
theorem uexpr_nil (p : Option Addr) (w : World) : Calls Tryz.prog 145 #[.pointer p, .nilIface] w fun en w' => en = .returned (.tuple #[]) ∧ w' = w := by
  have q0 := tenil_188
  have q1 := tenil_439
  have q2 := tenil_442
  have q3 := tenil_444
  have q4 := tenil_445
  have q5 := tenil_447
  have q6 := tenil_449
  have q7 := tenil_452
  have q8 := tenil_454
  have q9 := tenil_456
  have q10 := tenil_459
  go_enter Tryz.func145, Tryz.ntmps145
  go_wp2
  go_end0
  exact ⟨rfl, rfl⟩
end Go.Proofs.YtdbdbaepmdmnfaaGreatDoor

namespace Go.Proofs.YtdbdbaepmdmnfaaGreatDoor
open Go.RowKit
theorem own_at {w : World} {B : Nat} {e : TypeId} {z : Nat} {v : Value} {n : Nat} {xs : List Value} (h : w.ownsRow B e z v n xs) (hn : 0 < n) : ∃ g cap, v = .slice (some ⟨g, 0, none⟩) n cap ∧ g < w.heap.size ∧ ∀ (j : Nat) u, xs[j]? = some u → w.cell? ⟨g, j, none⟩ = some u := by
  rcases h.2 with ⟨_, h0⟩ | ⟨g, cap, cur, rfl, _, h3, _, _, _, h7⟩
  · omega
  · refine ⟨g, cap, rfl, heap_lt h3, fun j u hu => cell_of h3 ?_⟩
    rw [← h7, List.getElem?_take] at hu
    split at hu
    · simpa using hu
    · cases hu
end Go.Proofs.YtdbdbaepmdmnfaaGreatDoor

