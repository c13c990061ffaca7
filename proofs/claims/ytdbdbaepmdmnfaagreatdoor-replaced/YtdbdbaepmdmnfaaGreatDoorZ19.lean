import Derived.Test.YtdbdbaepmdmnfaaGreatDoorZ18
import Derived.MapKept
import Derived.Deep.RegionWith
import Derived.Deep.DeepCutAuto
namespace Go.Proofs.YtdbdbaepmdmnfaaGreatDoor
open Go.RowKit
theorem look262 {w : World} {M n : Nat} (h : w.heap[M]? = some (.map #[] n)) (x : ByteArray) : (Instr.lookup 156 (.map (some M)) (.string x) true).run Tryz.prog w = .ok (.tuple #[.agg #[.string ⟨#[]⟩, .int .i64 0, .slice none 0 0, .slice none 0 0], .bool false]) w := by
  have h1 := MapKept.run_getObj_map (P := Tryz.prog) h
  have h2 : (Instr.checkKey true 10000 9 (.string x)).run Tryz.prog w = .ok () w := MapKept.run_checkKey (d := .string) Tryz.underlying9 (by simp [MapKept.IsKey]) true 9999
  have h3 : (Instr.findKey 9 (.string x) []).run Tryz.prog w = .ok none w := MapKept.run_findKey Tryz.underlying9 rfl
  simp [Instr.lookup, go_sem, h1, h2, h3]
/-- A checker: no function is known, no parameter; us are the uses so far; nothing is wrong. -/
def UAt (w : World) (cb M : Nat) (us : Value) (rec : Bool) : Prop :=
  w.heap[cb]? = some (.cells #[.map (some M), .slice none 0 0, us, .slice none 0 0, .int .i64 0, .bool false, .bool rec] 159 (0, 0)) ∧ w.heap[M]? = some (.map #[] 0)
theorem UAt.ne {w cb M us rec} (h : UAt w cb M us rec) : M ≠ cb := fun e => by have h1 := h.1; have h2 := h.2; rw [e, h1] at h2; cases h2
theorem UAt.only {w w' cb M us rec D} (h : UAt w cb M us rec) (ho : Only D w w') (h1 : ¬ D cb) (h2 : ¬ D M) : UAt w' cb M us rec := ⟨(ho.block _ (heap_lt h.1) h1).trans h.1, (ho.block _ (heap_lt h.2) h2).trans h.2⟩
theorem UAt.alloc {w cb M us rec} (h : UAt w cb M us rec) (o : Obj) : UAt (w.alloc o) cb M us rec := h.only (onlyA w o) (fun e => e) (fun e => e)
set_option maxHeartbeats 1000000 in
theorem paramOf_none (x : ByteArray) (w : World) :
    Calls Tryz.prog 112 #[.slice none 0 0, .string x] w fun en w' => en = .returned (.tuple #[.agg #[.string ⟨#[]⟩, .int .i64 0, .bool false], .bool false]) ∧ w' = w.alloc (.cells #[.string ⟨#[]⟩, .int .i64 0, .bool false] 164) := by
  go_enter Tryz.func112, Tryz.ntmps112
  go_wp2
  go_loop [10] (fun s => s = .int .i64 0) (fun _ => 0)
  case atStart => exact rfl
  case round =>
    subst hrel
    go_wp2
    exact bodyPost_ret (v := .tuple #[.agg #[.string ⟨#[]⟩, .int .i64 0, .bool false], .bool false]) (by simp [results, Tryz.results112, go_sem]) rfl ⟨rfl, rfl⟩
theorem info357 : (Tryz.prog.info? 227).map (fun i => (i.zero, i.size, i.bytes)) = some (some (.agg #[.string ⟨#[]⟩, .int .i64 0, .int .i64 0]), 3, 32) := by kernel_rfl
theorem toDrew {D : Nat → Prop} {w w' : World} (h : Only D w w') : Only D w w'.drew := ⟨h.os, h.tape, h.output, h.size, h.block⟩
/-- The uses: none, or the one of x at a. -/
def UsT (x : ByteArray) (a : Nat) (w : World) (v : Value) : Prop := w.ownsRow 0 227 3 v 1 [.string x, .int .i64 a, .int .i64 0]
end Go.Proofs.YtdbdbaepmdmnfaaGreatDoor

