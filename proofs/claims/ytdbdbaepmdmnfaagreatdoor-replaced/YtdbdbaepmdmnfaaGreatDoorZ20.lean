import Derived.Test.YtdbdbaepmdmnfaaGreatDoorZ19
import Derived.WideMake
import Derived.Shelf.Strings.Builder1
import Derived.Shelf.Strings.Builder2
import Derived.Shelf.Strings.BuilderF
import Derived.Shelf.Small.Wraps
namespace Go.Proofs.YtdbdbaepmdmnfaaGreatDoor
open Go.RowKit
theorem te436_188 (v : Value) (w : World) : (Instr.typeAssert (.iface 303 v) 238 92 true).run Tryz.prog w = .ok (.tuple #[.agg #[.string ⟨#[]⟩, .int .i64 0], .bool false]) w := by kernel_rfl
theorem te436_439 (v : Value) (w : World) : (Instr.typeAssert (.iface 303 v) 238 306 true).run Tryz.prog w = .ok (.tuple #[.agg #[.string ⟨#[]⟩, .int .i64 0, .slice none 0 0], .bool false]) w := by kernel_rfl
theorem te436_442 (v : Value) (w : World) : (Instr.typeAssert (.iface 303 v) 238 309 true).run Tryz.prog w = .ok (.tuple #[.agg #[.nilIface], .bool false]) w := by kernel_rfl
theorem te436_444 (v : Value) (w : World) : (Instr.typeAssert (.iface 303 v) 238 311 true).run Tryz.prog w = .ok (.tuple #[.agg #[.string ⟨#[]⟩, .int .i64 0, .slice none 0 0], .bool false]) w := by kernel_rfl
theorem te436_445 (v : Value) (w : World) : (Instr.typeAssert (.iface 303 v) 238 312 true).run Tryz.prog w = .ok (.tuple #[.agg #[.string ⟨#[]⟩, .int .i64 0, .slice none 0 0], .bool false]) w := by kernel_rfl
theorem te436_447 (v : Value) (w : World) : (Instr.typeAssert (.iface 303 v) 238 314 true).run Tryz.prog w = .ok (.tuple #[.agg #[.string ⟨#[]⟩, .nilIface], .bool false]) w := by kernel_rfl
theorem te436_449 (v : Value) (w : World) : (Instr.typeAssert (.iface 303 v) 238 316 true).run Tryz.prog w = .ok (.tuple #[.agg #[.nilIface, .string ⟨#[]⟩, .nilIface], .bool false]) w := by kernel_rfl
theorem te436_452 (v : Value) (w : World) : (Instr.typeAssert (.iface 303 v) 238 319 true).run Tryz.prog w = .ok (.tuple #[.agg #[.nilIface, .nilIface], .bool false]) w := by kernel_rfl
theorem te436_454 (v : Value) (w : World) : (Instr.typeAssert (.iface 303 v) 238 321 true).run Tryz.prog w = .ok (.tuple #[.agg #[.nilIface, .string ⟨#[]⟩, .int .i64 0], .bool false]) w := by kernel_rfl
theorem te436_456 (v : Value) (w : World) : (Instr.typeAssert (.iface 303 v) 238 323 true).run Tryz.prog w = .ok (.tuple #[.agg #[.nilIface, .nilIface, .nilIface], .bool false]) w := by kernel_rfl
theorem te436_459 (v : Value) (w : World) : (Instr.typeAssert (.iface 303 v) 238 326 true).run Tryz.prog w = .ok (.tuple #[.agg #[.nilIface, .string ⟨#[]⟩, .nilIface], .bool false]) w := by kernel_rfl
theorem tenil_188 (w : World) : (Instr.typeAssert .nilIface 238 92 true).run Tryz.prog w = .ok (.tuple #[.agg #[.string ⟨#[]⟩, .int .i64 0], .bool false]) w := by kernel_rfl
theorem tenil_439 (w : World) : (Instr.typeAssert .nilIface 238 306 true).run Tryz.prog w = .ok (.tuple #[.agg #[.string ⟨#[]⟩, .int .i64 0, .slice none 0 0], .bool false]) w := by kernel_rfl
theorem tenil_442 (w : World) : (Instr.typeAssert .nilIface 238 309 true).run Tryz.prog w = .ok (.tuple #[.agg #[.nilIface], .bool false]) w := by kernel_rfl
theorem tenil_444 (w : World) : (Instr.typeAssert .nilIface 238 311 true).run Tryz.prog w = .ok (.tuple #[.agg #[.string ⟨#[]⟩, .int .i64 0, .slice none 0 0], .bool false]) w := by kernel_rfl
theorem tenil_445 (w : World) : (Instr.typeAssert .nilIface 238 312 true).run Tryz.prog w = .ok (.tuple #[.agg #[.string ⟨#[]⟩, .int .i64 0, .slice none 0 0], .bool false]) w := by kernel_rfl
theorem tenil_447 (w : World) : (Instr.typeAssert .nilIface 238 314 true).run Tryz.prog w = .ok (.tuple #[.agg #[.string ⟨#[]⟩, .nilIface], .bool false]) w := by kernel_rfl
theorem tenil_449 (w : World) : (Instr.typeAssert .nilIface 238 316 true).run Tryz.prog w = .ok (.tuple #[.agg #[.nilIface, .string ⟨#[]⟩, .nilIface], .bool false]) w := by kernel_rfl
theorem tenil_452 (w : World) : (Instr.typeAssert .nilIface 238 319 true).run Tryz.prog w = .ok (.tuple #[.agg #[.nilIface, .nilIface], .bool false]) w := by kernel_rfl
theorem tenil_454 (w : World) : (Instr.typeAssert .nilIface 238 321 true).run Tryz.prog w = .ok (.tuple #[.agg #[.nilIface, .string ⟨#[]⟩, .int .i64 0], .bool false]) w := by kernel_rfl
theorem tenil_456 (w : World) : (Instr.typeAssert .nilIface 238 323 true).run Tryz.prog w = .ok (.tuple #[.agg #[.nilIface, .nilIface, .nilIface], .bool false]) w := by kernel_rfl
theorem tenil_459 (w : World) : (Instr.typeAssert .nilIface 238 326 true).run Tryz.prog w = .ok (.tuple #[.agg #[.nilIface, .string ⟨#[]⟩, .nilIface], .bool false]) w := by kernel_rfl
theorem te188_188 (v : Value) (w : World) : (Instr.typeAssert (.iface 92 v) 238 92 true).run Tryz.prog w = .ok (.tuple #[v, .bool true]) w := by kernel_rfl
theorem ts507_191 (v : Value) (w : World) : (Instr.typeAssert (.iface 350 v) 235 95 true).run Tryz.prog w = .ok (.tuple #[.slice none 0 0, .bool false]) w := by kernel_rfl
theorem ts507_424 (v : Value) (w : World) : (Instr.typeAssert (.iface 350 v) 235 290 true).run Tryz.prog w = .ok (.tuple #[.agg #[.nilIface, .slice none 0 0, .bool false, .slice none 0 0], .bool false]) w := by kernel_rfl
theorem ts507_427 (v : Value) (w : World) : (Instr.typeAssert (.iface 350 v) 235 293 true).run Tryz.prog w = .ok (.tuple #[.agg #[.nilIface, .slice none 0 0], .bool false]) w := by kernel_rfl
theorem ts507_429 (v : Value) (w : World) : (Instr.typeAssert (.iface 350 v) 235 295 true).run Tryz.prog w = .ok (.tuple #[.agg #[.nilIface, .nilIface, .nilIface, .slice none 0 0], .bool false]) w := by kernel_rfl
theorem ts507_432 (v : Value) (w : World) : (Instr.typeAssert (.iface 350 v) 235 298 true).run Tryz.prog w = .ok (.tuple #[.agg #[.string ⟨#[]⟩, .int .i64 0, .string ⟨#[]⟩, .int .i64 0, .slice none 0 0], .bool false]) w := by kernel_rfl
theorem ts507_507 (v : Value) (w : World) : (Instr.typeAssert (.iface 350 v) 235 350 true).run Tryz.prog w = .ok (.tuple #[v, .bool true]) w := by kernel_rfl
theorem ts419_191 (v : Value) (w : World) : (Instr.typeAssert (.iface 285 v) 235 95 true).run Tryz.prog w = .ok (.tuple #[.slice none 0 0, .bool false]) w := by kernel_rfl
theorem ts419_424 (v : Value) (w : World) : (Instr.typeAssert (.iface 285 v) 235 290 true).run Tryz.prog w = .ok (.tuple #[.agg #[.nilIface, .slice none 0 0, .bool false, .slice none 0 0], .bool false]) w := by kernel_rfl
theorem ts419_427 (v : Value) (w : World) : (Instr.typeAssert (.iface 285 v) 235 293 true).run Tryz.prog w = .ok (.tuple #[.agg #[.nilIface, .slice none 0 0], .bool false]) w := by kernel_rfl
theorem ts419_429 (v : Value) (w : World) : (Instr.typeAssert (.iface 285 v) 235 295 true).run Tryz.prog w = .ok (.tuple #[.agg #[.nilIface, .nilIface, .nilIface, .slice none 0 0], .bool false]) w := by kernel_rfl
theorem ts419_432 (v : Value) (w : World) : (Instr.typeAssert (.iface 285 v) 235 298 true).run Tryz.prog w = .ok (.tuple #[.agg #[.string ⟨#[]⟩, .int .i64 0, .string ⟨#[]⟩, .int .i64 0, .slice none 0 0], .bool false]) w := by kernel_rfl
theorem ts419_507 (v : Value) (w : World) : (Instr.typeAssert (.iface 285 v) 235 350 true).run Tryz.prog w = .ok (.tuple #[.agg #[.nilIface], .bool false]) w := by kernel_rfl
theorem ts419_419 (v : Value) (w : World) : (Instr.typeAssert (.iface 285 v) 235 285 true).run Tryz.prog w = .ok (.tuple #[v, .bool true]) w := by kernel_rfl
set_option maxRecDepth 20000 in
set_option maxHeartbeats 4000000 in
theorem uexpr_str (p : Option Addr) (v : Value) (w : World) : Calls Tryz.prog 145 #[.pointer p, .iface 303 v] w fun en w' => en = .returned (.tuple #[]) ∧ w' = w := by
  have q0 := te436_188 v
  have q1 := te436_439 v
  have q2 := te436_442 v
  have q3 := te436_444 v
  have q4 := te436_445 v
  have q5 := te436_447 v
  have q6 := te436_449 v
  have q7 := te436_452 v
  have q8 := te436_454 v
  have q9 := te436_456 v
  have q10 := te436_459 v
  go_enter Tryz.func145, Tryz.ntmps145
  go_wp2
  go_end0
  exact ⟨rfl, rfl⟩
set_option maxRecDepth 20000 in
set_option maxHeartbeats 4000000 in
theorem uexpr_nil (p : Option Addr) (w : World) : Calls Tryz.prog 145 #[.pointer p, .nilIface] w fun en w' => en = .returned (.tuple #[]) ∧ w' = w := by
  have q0 := tenil_188
  have q1 := tenil_439
  have q2 := tenil_442
  have q3 := tenil_444
  have q4 := tenil_445
  have q5 := tenil_447
  have q6 := tenil_449
  have q7 := tenil_452
  have q8 := tenil_454
  have q9 := tenil_456
  have q10 := tenil_459
  go_enter Tryz.func145, Tryz.ntmps145
  go_wp2
  go_end0
  exact ⟨rfl, rfl⟩
end Go.Proofs.YtdbdbaepmdmnfaaGreatDoor

namespace Go.Proofs.YtdbdbaepmdmnfaaGreatDoor
open Go.RowKit
set_option maxRecDepth 20000 in
set_option maxHeartbeats 1000000 in
theorem argCounts_gsub (w : World) : Calls Tryz.prog 256 #[.string ⟨#[103, 115, 117, 98]⟩] w fun en w' => en = .returned (.tuple #[.int .i64 2, .int .i64 3]) ∧ w' = w := by
  go_enter Tryz.func256, Tryz.ntmps256
  go_wp2
  go_ret2
  exact ⟨rfl, rfl⟩
set_option maxRecDepth 20000 in
set_option maxHeartbeats 1000000 in
theorem isReplacing_gsub (w : World) : Calls Tryz.prog 257 #[.string ⟨#[103, 115, 117, 98]⟩] w fun en w' => en = .returned (.bool true) ∧ w' = w := by
  go_enter Tryz.func257, Tryz.ntmps257
  go_wp2
  go_ret
  exact ⟨rfl, rfl⟩
set_option maxRecDepth 20000 in
set_option maxHeartbeats 1000000 in
theorem uarg_plain (cb : Nat) (x : ByteArray) (a : Nat) (t : TypeId) (e : Value) (D : Nat → Prop) (w : World) (h1 : ∀ W, Only (fun _ => False) w W → Calls Tryz.prog 145 #[.pointer (some ⟨cb, 0, none⟩), .iface t e] W fun en w' => en = .returned (.tuple #[]) ∧ Only D W w') :
    Calls Tryz.prog 255 #[.pointer (some ⟨cb, 0, none⟩), .agg #[.string x, .int .i64 a], .iface t e, .bool false] w fun en w' => en = .returned (.tuple #[]) ∧ Only D w w' := by
  have H1 := hide (h1 _ (onlyA w (.cells #[.string x, .int .i64 a] 92)))
  clear h1
  go_enter Tryz.func255, Tryz.ntmps255
  go_wp2_with (go_at_call 145; refine (H1.out).mono ?_; rintro en w2 ⟨rfl, h3⟩; have H3 := hide h3; clear h3)
  refine bodyPost_ret (results_none rfl _ _ _) rfl ?_
  exact ⟨rfl, fromAlloc H3.out⟩
theorem own_at {w : World} {B : Nat} {e : TypeId} {z : Nat} {v : Value} {n : Nat} {xs : List Value} (h : w.ownsRow B e z v n xs) (hn : 0 < n) : ∃ g cap, v = .slice (some ⟨g, 0, none⟩) n cap ∧ g < w.heap.size ∧ ∀ (j : Nat) u, xs[j]? = some u → w.cell? ⟨g, j, none⟩ = some u := by
  rcases h.2 with ⟨_, h0⟩ | ⟨g, cap, cur, rfl, _, h3, _, _, _, h7⟩
  · omega
  · refine ⟨g, cap, rfl, heap_lt h3, fun j u hu => cell_of h3 ?_⟩
    rw [← h7, List.getElem?_take] at hu
    split at hu
    · simpa using hu
    · cases hu
end Go.Proofs.YtdbdbaepmdmnfaaGreatDoor

namespace Go.Proofs.YtdbdbaepmdmnfaaGreatDoor
open Go.RowKit
/-- The uses: none, or one. -/
def UsX (o : Option (ByteArray × Nat)) (w : World) (v : Value) : Prop := match o with
  | none => v = .slice none 0 0
  | some (x, a) => UsT x a w v
def UX (w : World) (cb M : Nat) (o : Option (ByteArray × Nat)) (rec : Bool) : Prop := ∃ v, UAt w cb M v rec ∧ UsX o w v
theorem UsX.of {o w w' v} (h : UsX o w v) (hk : ∀ k, v.ownBlock = some k → w'.heap[k]? = w.heap[k]?) : UsX o w' v := by
  match o, h with
  | none, h => exact h
  | some (x, a), h => exact ownsRow_of h hk
theorem UsX.lt {o w v} (h : UsX o w v) : ∀ k, v.ownBlock = some k → k < w.heap.size ∧ ∀ c t, w.heap[k]? = some (.cells c t (0, 0)) → t = 227 := by
  match o, h with
  | none, h => intro k hk; cases h; cases hk
  | some (x, a), h =>
    intro k hk
    refine ⟨(World.ownsRow.lt h k hk).2, fun c t hc => ?_⟩
    by_cases e : t = 227
    · exact e
    · exact absurd hk (own_tag h hc (fun e2 => e e2.symm))
theorem UX.alloc {w cb M o rec} (h : UX w cb M o rec) (ob : Obj) : UX (w.alloc ob) cb M o rec := by
  obtain ⟨v, h1, h2⟩ := h
  exact ⟨v, h1.alloc ob, h2.of (fun k hk => Below.heap_alloc _ _ _ (h2.lt k hk).1)⟩
theorem UX.calm {w cb M o rec} (h : UX w cb M o rec) {w' : World} (ho : Only (fun _ => False) w w') : UX w' cb M o rec := by
  obtain ⟨v, h1, h2⟩ := h
  exact ⟨v, h1.only ho (fun e => e) (fun e => e), h2.of (fun k hk => ho.block k (h2.lt k hk).1 (fun e => e))⟩
theorem UX.setRec {w cb M o rec} (h : UX w cb M o rec) (r : Bool) : UX (w.setCell ⟨cb, 6, none⟩ (.bool r)) cb M o r := by
  obtain ⟨v, h1, h2⟩ := h
  refine ⟨v, ⟨heap_setCell_same h1.1 _, (Below.heap_setCell _ _ _ _ (by exact h1.ne)).trans h1.2⟩, h2.of (fun k hk => Below.heap_setCell _ _ _ _ (fun e => ?_))⟩
  have e2 : k = cb := e
  subst e2
  exact absurd ((h2.lt k hk).2 _ _ h1.1) (by decide)
set_option maxRecDepth 20000 in
set_option maxHeartbeats 4000000 in
theorem uexprs_nil (p : Option Addr) (w : World) : Calls Tryz.prog 114 #[.pointer p, .slice none 0 0] w fun en w' => en = .returned (.tuple #[]) ∧ w' = w := by
  go_enter Tryz.func114, Tryz.ntmps114
  go_wp2
  go_loop [8] (fun s => s = .int .i64 0) (fun _ => 0)
  case atStart => exact rfl
  case round =>
    subst hrel
    go_wp2
    go_end0
    exact ⟨rfl, rfl⟩
set_option maxRecDepth 20000 in
set_option maxHeartbeats 4000000 in
theorem ustmt_work (cb : Nat) (t : TypeId) (u : Value) (Q : World → Prop) (w : World) (h1 : ∀ W, Only (fun _ => False) w W → Calls Tryz.prog 145 #[.pointer (some ⟨cb, 0, none⟩), .iface t u] W fun en w' => en = .returned (.tuple #[]) ∧ Q w') :
    Calls Tryz.prog 144 #[.pointer (some ⟨cb, 0, none⟩), .iface 350 (.agg #[.iface t u])] w fun en w' => en = .returned (.tuple #[]) ∧ Q w' := by
  have q0 := ts507_191 (.agg #[.iface t u])
  have q1 := ts507_424 (.agg #[.iface t u])
  have q2 := ts507_427 (.agg #[.iface t u])
  have q3 := ts507_429 (.agg #[.iface t u])
  have q4 := ts507_432 (.agg #[.iface t u])
  have q5 := ts507_507 (.agg #[.iface t u])
  have H1 := hide (h1 _ (onlyA w (.cells #[.iface t u] 350)))
  clear h1
  go_enter Tryz.func144, Tryz.ntmps144
  go_wp2_with (go_at_call 145; refine (H1.out).mono ?_; rintro en w2 ⟨rfl, h3⟩; have H3 := hide h3; clear h3)
  go_end0
  exact ⟨rfl, H3.out⟩
set_option maxRecDepth 20000 in
set_option maxHeartbeats 4000000 in
theorem ustmt_print (p : Option Addr) (w : World) :
    Calls Tryz.prog 144 #[.pointer p, printV] w fun en w' => en = .returned (.tuple #[]) ∧ Only (fun _ => False) w w' := by
  have q0 := ts419_191 (.agg #[.slice none 0 0, .nilIface])
  have q1 := ts419_424 (.agg #[.slice none 0 0, .nilIface])
  have q2 := ts419_427 (.agg #[.slice none 0 0, .nilIface])
  have q3 := ts419_429 (.agg #[.slice none 0 0, .nilIface])
  have q4 := ts419_432 (.agg #[.slice none 0 0, .nilIface])
  have q5 := ts419_507 (.agg #[.slice none 0 0, .nilIface])
  have q6 := ts419_419 (.agg #[.slice none 0 0, .nilIface])
  have H1 := hide (uexprs_nil p)
  have H2 := hide (uexpr_nil p)
  unfold printV
  go_enter Tryz.func144, Tryz.ntmps144
  go_wp2_with (first | (go_at_call 114; refine (H1.out _).mono ?_; rintro en w2 ⟨rfl, h3⟩; subst h3) | (go_at_call 145; refine (H2.out _).mono ?_; rintro en w2 ⟨rfl, h3⟩; subst h3))
  go_end0
  exact ⟨rfl, onlyA _ _⟩
end Go.Proofs.YtdbdbaepmdmnfaaGreatDoor

namespace Go.Proofs.YtdbdbaepmdmnfaaGreatDoor
open Go.RowKit
theorem look360 {w : World} {M n : Nat} (h : w.heap[M]? = some (.map #[] n)) (x : ByteArray) : (Instr.lookup 230 (.map (some M)) (.string x) true).run Tryz.prog w = .ok (.tuple #[.int .i64 0, .bool false]) w := by
  have h1 := MapKept.run_getObj_map (P := Tryz.prog) h
  have h2 : (Instr.checkKey true 10000 9 (.string x)).run Tryz.prog w = .ok () w := MapKept.run_checkKey (d := .string) Tryz.underlying9 (by simp [MapKept.IsKey]) true 9999
  have h3 : (Instr.findKey 9 (.string x) []).run Tryz.prog w = .ok none w := MapKept.run_findKey Tryz.underlying9 rfl
  simp [Instr.lookup, go_sem, h1, h2, h3]
end Go.Proofs.YtdbdbaepmdmnfaaGreatDoor

namespace Go.Proofs.YtdbdbaepmdmnfaaGreatDoor
open Go.RowKit
theorem infoByte5 : (Tryz.prog.info? 5).map (fun i => (i.zero, i.size, i.bytes)) = some (some (.int .u8 0), 1, 1) := by kernel_rfl
end Go.Proofs.YtdbdbaepmdmnfaaGreatDoor

namespace Go.Proofs.YtdbdbaepmdmnfaaGreatDoor
open Go.RowKit
/-- A writer that has written l. -/
def WrAt (B b : Nat) (l : List UInt8) (w : World) : Prop := Lib.IsBuilder 90 5 B b (Lib.byteCells l) w ∧ B ≤ w.heap.size
theorem WrAt.lt {B b l w} (h : WrAt B b l w) : b < w.heap.size := h.1.elim (fun h => h.lt) (fun h => h.lt)
theorem WrAt.le {B b l w} (h : WrAt B b l w) : B ≤ b := h.1.elim (fun h => h.1) (fun h => h.1)
theorem builderAt_of {B b p bs} {w w' : World} (h : Lib.BuilderAt 90 5 B b p bs w) (hk : ∀ k, k < w.heap.size → w'.heap[k]? = w.heap[k]?) : Lib.BuilderAt 90 5 B b p bs w' := by
  obtain ⟨h1, v, h2, h3, h4⟩ := h
  exact ⟨h1, v, (hk b (heap_lt h2)).trans h2, ownsRow_of h3 (fun k hkk => hk k (h3.lt k hkk).2), h4⟩
theorem WrAt.calm {B b l w w'} (h : WrAt B b l w) (ho : Only (fun _ => False) w w') : WrAt B b l w' := ⟨h.1.elim (fun h => Or.inl (builderAt_of h (fun k hk => ho.block k hk (fun e => e)))) (fun h => Or.inr (builderAt_of h (fun k hk => ho.block k hk (fun e => e)))), Nat.le_trans h.2 ho.size⟩
theorem WrAt.alloc {B b l w} (h : WrAt B b l w) (o : Obj) : WrAt B b l (w.alloc o) := h.calm (onlyA w o)
end Go.Proofs.YtdbdbaepmdmnfaaGreatDoor

namespace Go.Proofs.YtdbdbaepmdmnfaaGreatDoor
open Go.RowKit
/-- The tree of a program that is { x } alone. -/
def VX (x : ByteArray) (a : Nat) (pb : Nat) : World → Value → Prop := BlockT pb 1 (fun _ => WorkT (Is (nameV x a)))
theorem VX.at {x a pb w v} (h : VX x a pb w v) : ∃ g cap, v = .slice (some ⟨g, 0, none⟩) 1 cap ∧ g < w.heap.size ∧ w.cell? ⟨g, 0, none⟩ = some (.iface 350 (.agg #[nameV x a])) := by
  obtain ⟨vs, hl, h1, _, h4⟩ := h
  obtain ⟨g, cap, e, hg, hc⟩ := own_at h1 (by omega)
  obtain ⟨u, hu⟩ : ∃ u, vs[0]? = some u := ⟨_, List.getElem?_eq_getElem (by omega)⟩
  obtain ⟨y, hy, hz⟩ := h4 0 u hu
  cases hz
  exact ⟨g, cap, e, hg, (hc 0 u hu).trans (by rw [hy])⟩
end Go.Proofs.YtdbdbaepmdmnfaaGreatDoor

namespace Go.Proofs.YtdbdbaepmdmnfaaGreatDoor
open Go.RowKit
theorem nx_of (pb : Nat) (T : ByteArray) (s s' : TS) (hi : s.i ≤ T.size) (h5 : T.size ≤ 65000) (hj : runTo blankB T.data.toList s.i = s'.xa) (hc : ∀ c, T.data.toList[s'.xa]? = some c → ((c.toNat : Int) == 35) = false) (hr : ReadsTo pb T s'.xa s.dv s'.k s'.x s'.i) (hd : s'.dv = endsB s'.k s'.x.data.toList) : Nx pb T s s' := by
  have h := goOn_any pb T s.i s.dv hi h5 (by rw [hj]; exact hc) s'.k s'.x s'.i (by rw [hj]; exact hr)
  rw [hj] at h
  exact ⟨h, hd⟩
def a1 : TS := ⟨1, false, 9, ⟨#[123]⟩, 0⟩
def a2 : TS := ⟨3, true, 5, ⟨#[120]⟩, 2⟩
def a3 : TS := ⟨5, false, 9, ⟨#[125]⟩, 4⟩
def a4 : TS := ⟨5, false, 1, ⟨#[]⟩, 5⟩
end Go.Proofs.YtdbdbaepmdmnfaaGreatDoor

namespace Go.Proofs.YtdbdbaepmdmnfaaGreatDoor
open Go.RowKit
theorem is_stab3 (v : Value) : Stab3 (Is v) := fun _ _ _ _ h _ _ => h
theorem row_stab3 (pb : Nat) (vs : List Value) : Stab3 (Row pb vs) := by
  rintro w w' v D ⟨h, h2⟩ ho hD
  refine ⟨ownsRow_of h (fun k hk => ho.block k (h.lt k hk).2 (fun e => ?_)), h2⟩
  obtain ⟨c, t, hc, _, h3⟩ := hD k e
  exact own_tag h hc (Ne.symm h3) hk
theorem own_stab3 (pb : Nat) (x : ByteArray) (a : Nat) (vs : List Value) : Stab3 (OwnT pb x a vs) := fun w w' _ D ⟨r, e, h⟩ ho hD => ⟨r, e, row_stab3 pb vs w w' r D h ho hD⟩
theorem work_stab3 {V : World → Value → Prop} (h : Stab3 V) : Stab3 (WorkT V) := fun w w' _ D ⟨u, e, hu⟩ ho hD => ⟨u, e, h w w' u D hu ho hD⟩
theorem block_stab3 {pb n : Nat} {Vf : Nat → World → Value → Prop} (hV : ∀ i, i < n → Stab3 (Vf i)) : Stab3 (BlockT pb n Vf) := by
  rintro w w' v D ⟨vs, h1, h2, h3, h4⟩ ho hD
  refine ⟨vs, h1, ownsRow_of h2 (fun k hk => ho.block k (h2.lt k hk).2 (fun e => ?_)), h3, fun i u hu => ?_⟩
  · obtain ⟨c, t, hc, h5, _⟩ := hD k e
    exact own_tag h2 hc (Ne.symm h5) hk
  · exact hV i (by have := (List.getElem?_eq_some_iff.1 hu).1; omega) _ _ _ D (h4 i u hu) ho hD
theorem ends_of {s : TS} (h : (opS.all (fun t => seen s t == false) && !(s.k == 2) && !(s.k == 3) && !(s.k == 5) && !(s.k == 6) && !(s.k == 8)) = true) : Ends s := by
  simp only [Bool.and_eq_true, List.all_eq_true, beq_iff_eq, Bool.not_eq_true', beq_eq_false_iff_ne] at h
  obtain ⟨⟨⟨⟨⟨h0, h1⟩, h2⟩, h3⟩, h4⟩, h5⟩ := h
  exact ⟨h0, h1, h2, h3, h4, h5⟩
theorem noWord_of {s : TS} (h : ([[112, 114, 105, 110, 116], [110, 101, 120, 116], [98, 114, 101, 97, 107], [99, 111, 110, 116, 105, 110, 117, 101], [101, 120, 105, 116], [114, 101, 116, 117, 114, 110], [100, 101, 108, 101, 116, 101]].all (fun t => seen s t == false)) = true) : NoWord s := by
  intro t ht
  exact beq_iff_eq.1 (List.all_eq_true.1 h t ht)
theorem noComp_of {s : TS} (h : ([[123], [59], [105, 102], [119, 104, 105, 108, 101], [102, 111, 114]].all (fun t => seen s t == false)) = true) : NoComp s := by
  intro t ht
  exact beq_iff_eq.1 (List.all_eq_true.1 h t ht)
end Go.Proofs.YtdbdbaepmdmnfaaGreatDoor

namespace Go.Proofs.YtdbdbaepmdmnfaaGreatDoor
open Go.RowKit
def b1 : TS := ⟨1, false, 9, ⟨#[123]⟩, 0⟩
def b2 : TS := ⟨6, false, 8, ⟨#[103, 115, 117, 98]⟩, 2⟩
def b3 : TS := ⟨7, false, 9, ⟨#[40]⟩, 6⟩
def b4 : TS := ⟨11, true, 4, ⟨#[98, 42]⟩, 7⟩
def b5 : TS := ⟨12, false, 9, ⟨#[44]⟩, 11⟩
def b6 : TS := ⟨16, true, 3, ⟨#[45]⟩, 13⟩
def b7 : TS := ⟨17, true, 9, ⟨#[41]⟩, 16⟩
def b8 : TS := ⟨18, false, 9, ⟨#[59]⟩, 17⟩
def b9 : TS := ⟨24, false, 7, ⟨#[112, 114, 105, 110, 116]⟩, 19⟩
end Go.Proofs.YtdbdbaepmdmnfaaGreatDoor

namespace Go.Proofs.YtdbdbaepmdmnfaaGreatDoor
open Go.RowKit
def patX : Value := .agg #[.string ⟨#[98, 42]⟩]
def strX : Value := .agg #[.string ⟨#[45]⟩]
def vs2 : List Value := [.iface 304 patX, .iface 303 strX]
theorem own_if (pb : Nat) (x : ByteArray) (a : Nat) (vs : List Value) : IsIf (OwnT pb x a vs) := fun _ _ ⟨_, e, _⟩ => ⟨_, _, e⟩
theorem noSign_of {s : TS} (h : (seen s [33] == false && seen s [45] == false && seen s [43] == false) = true) : seen s [33] = false ∧ seen s [45] = false ∧ seen s [43] = false := by
  simp only [Bool.and_eq_true, beq_iff_eq] at h
  exact ⟨h.1.1, h.1.2, h.2⟩
end Go.Proofs.YtdbdbaepmdmnfaaGreatDoor

namespace Go.Proofs.YtdbdbaepmdmnfaaGreatDoor
open Go.RowKit
theorem upd287 (w : World) (es : Array MapEntry) (c : Nat) (s : ByteArray) (v : Value) (hf : Instr.findNow .string (.string s) es.toList 0 = some none) :
    (Instr.mapUpdate 178 (.map (some w.heap.size)) (.string s) v).run Tryz.prog (w.alloc (.map es c)) = .ok () (w.alloc (.map (es.push { key := .string s, val := v, born := c }) (c + 1))) := by
  have hb : (w.alloc (.map es c)).heap[w.heap.size]? = some (.map es c) := new0 w _
  have hc : (Instr.checkKey false 10000 9 (.string s)).run Tryz.prog (w.alloc (.map es c)) = .ok () (w.alloc (.map es c)) := MapKept.run_checkKey (k := .string s) Tryz.underlying9 (by simp [MapKept.IsKey]) false 9999
  have e : { (w.alloc (.map es c)) with heap := (w.alloc (.map es c)).heap.setIfInBounds w.heap.size (.map (es.push { key := .string s, val := v, born := c }) (c + 1)) } = w.alloc (.map (es.push { key := .string s, val := v, born := c }) (c + 1)) := by
    simp [World.alloc, Array.setIfInBounds, Array.push, Array.set]
  simp [Instr.mapUpdate, run_underlying Tryz.underlying178, MapKept.run_getObj_map hb, hc, MapKept.run_findKey Tryz.underlying9 hf, MapKept.run_setObj_map _ hb, Result.andThen]
  exact e
/-- The seven variables that there are from the beginning. -/
def firstVs : Array MapEntry := #[⟨.string ⟨#[78, 82]⟩, .int .i64 0, 0⟩, ⟨.string ⟨#[78, 70]⟩, .int .i64 1, 1⟩, ⟨.string ⟨#[70, 83]⟩, .int .i64 2, 2⟩, ⟨.string ⟨#[79, 70, 83]⟩, .int .i64 3, 3⟩, ⟨.string ⟨#[79, 82, 83]⟩, .int .i64 4, 4⟩, ⟨.string ⟨#[82, 83, 84, 65, 82, 84]⟩, .int .i64 5, 5⟩, ⟨.string ⟨#[82, 76, 69, 78, 71, 84, 72]⟩, .int .i64 6, 6⟩]
set_option maxRecDepth 20000 in
set_option maxHeartbeats 4000000 in
theorem first_vars (w : World) : Calls Tryz.prog 90 #[] w fun en w' => en = .returned (.map (some w.heap.size)) ∧ w' = w.alloc (.map firstVs 7) := by
  have hmm := @run_makeMap Tryz.prog
  have u0 := upd287 w #[] 0 ⟨#[78, 82]⟩ (.int .i64 0) rfl
  have u1 := upd287 w #[⟨.string ⟨#[78, 82]⟩, .int .i64 0, 0⟩] 1 ⟨#[78, 70]⟩ (.int .i64 1) (by rfl)
  have u2 := upd287 w #[⟨.string ⟨#[78, 82]⟩, .int .i64 0, 0⟩, ⟨.string ⟨#[78, 70]⟩, .int .i64 1, 1⟩] 2 ⟨#[70, 83]⟩ (.int .i64 2) (by rfl)
  have u3 := upd287 w #[⟨.string ⟨#[78, 82]⟩, .int .i64 0, 0⟩, ⟨.string ⟨#[78, 70]⟩, .int .i64 1, 1⟩, ⟨.string ⟨#[70, 83]⟩, .int .i64 2, 2⟩] 3 ⟨#[79, 70, 83]⟩ (.int .i64 3) (by rfl)
  have u4 := upd287 w #[⟨.string ⟨#[78, 82]⟩, .int .i64 0, 0⟩, ⟨.string ⟨#[78, 70]⟩, .int .i64 1, 1⟩, ⟨.string ⟨#[70, 83]⟩, .int .i64 2, 2⟩, ⟨.string ⟨#[79, 70, 83]⟩, .int .i64 3, 3⟩] 4 ⟨#[79, 82, 83]⟩ (.int .i64 4) (by rfl)
  have u5 := upd287 w #[⟨.string ⟨#[78, 82]⟩, .int .i64 0, 0⟩, ⟨.string ⟨#[78, 70]⟩, .int .i64 1, 1⟩, ⟨.string ⟨#[70, 83]⟩, .int .i64 2, 2⟩, ⟨.string ⟨#[79, 70, 83]⟩, .int .i64 3, 3⟩, ⟨.string ⟨#[79, 82, 83]⟩, .int .i64 4, 4⟩] 5 ⟨#[82, 83, 84, 65, 82, 84]⟩ (.int .i64 5) (by rfl)
  have u6 := upd287 w #[⟨.string ⟨#[78, 82]⟩, .int .i64 0, 0⟩, ⟨.string ⟨#[78, 70]⟩, .int .i64 1, 1⟩, ⟨.string ⟨#[70, 83]⟩, .int .i64 2, 2⟩, ⟨.string ⟨#[79, 70, 83]⟩, .int .i64 3, 3⟩, ⟨.string ⟨#[79, 82, 83]⟩, .int .i64 4, 4⟩, ⟨.string ⟨#[82, 83, 84, 65, 82, 84]⟩, .int .i64 5, 5⟩] 6 ⟨#[82, 76, 69, 78, 71, 84, 72]⟩ (.int .i64 6) (by rfl)
  simp only [List.push_toArray, List.cons_append, List.nil_append, Nat.reduceAdd] at u0 u1 u2 u3 u4 u5 u6
  go_enter Tryz.func90, Tryz.ntmps90
  go_wp2
  go_ret
  exact ⟨rfl, rfl⟩
end Go.Proofs.YtdbdbaepmdmnfaaGreatDoor

namespace Go.Proofs.YtdbdbaepmdmnfaaGreatDoor
open Go.RowKit
set_option maxHeartbeats 1000000 in
theorem ofNumber (n : Int) (w : World) : Calls Tryz.prog 95 #[.int .i64 n] w fun en w' => en = .returned (.agg #[.int .i64 1, .int .i64 n, .string ⟨#[]⟩]) ∧ w' = w.alloc (.cells #[.int .i64 1, .int .i64 n, .string ⟨#[]⟩] 203) := by
  go_enter Tryz.func95, Tryz.ntmps95
  go_wp2
  exact bodyPost_ret (v := .agg #[.int .i64 1, .int .i64 n, .string ⟨#[]⟩]) (by simp [results, Tryz.results95, go_sem]) rfl ⟨rfl, rfl⟩
set_option maxHeartbeats 1000000 in
theorem ofText (t : ByteArray) (w : World) : Calls Tryz.prog 96 #[.string t] w fun en w' => en = .returned (.agg #[.int .i64 2, .int .i64 0, .string t]) ∧ w' = w.alloc (.cells #[.int .i64 2, .int .i64 0, .string t] 203) := by
  go_enter Tryz.func96, Tryz.ntmps96
  go_wp2
  exact bodyPost_ret (v := .agg #[.int .i64 2, .int .i64 0, .string t]) (by simp [results, Tryz.results96, go_sem]) rfl ⟨rfl, rfl⟩
set_option maxHeartbeats 1000000 in
theorem newStreams (w : World) : Calls Tryz.prog 94 #[] w fun en w' => en = .returned (.agg #[.slice (some ⟨w.heap.size + 1, 0, none⟩) 1 1, .int .i64 0]) ∧ w' = (w.alloc (.cells #[.slice (some ⟨w.heap.size + 1, 0, none⟩) 1 1, .int .i64 0] 194)).alloc (.cells #[.string ⟨#[]⟩, .slice none 0 0] 142) := by
  go_enter Tryz.func94, Tryz.ntmps94
  go_wp2
  exact bodyPost_ret (v := .agg #[.slice (some ⟨w.heap.size + 1, 0, none⟩) 1 1, .int .i64 0]) (by simp [results, Tryz.results94, go_sem]) rfl ⟨rfl, rfl⟩
set_option maxRecDepth 100000 in
theorem mk385 (w : World) : (Instr.makeSlice 257 (.int .i64 0) (.int .i64 0)).run Tryz.prog w = .ok (.slice (some ⟨w.heap.size, 0, none⟩) 0 0) (w.alloc (.cells #[] 23)) := by kernel_rfl
set_option maxHeartbeats 1000000 in
set_option maxRecDepth 20000 in
theorem newArrays (w : World) : Calls Tryz.prog 93 #[.int .i64 0] w fun en w' => en = .returned (.pointer (some ⟨w.heap.size + 1 + 1, 0, none⟩)) ∧ w' = ((w.alloc (.map #[] 0)).alloc (.cells #[] 23)).alloc (.cells #[.map (some w.heap.size), .slice (some ⟨w.heap.size + 1, 0, none⟩) 0 0] 259) := by
  have hmm := @run_makeMap Tryz.prog
  have hm2 := mk385
  go_enter Tryz.func93, Tryz.ntmps93
  go_wp2
  go_ret
  exact ⟨rfl, rfl⟩
end Go.Proofs.YtdbdbaepmdmnfaaGreatDoor

