import Derived.Test.YtdbdbaepmdmnfaaGreatDoorQ12
namespace Go.Proofs.YtdbdbaepmdmnfaaGreatDoor
open Go.RowKit
theorem te436_188 (v : Value) (w : World) : (Instr.typeAssert (.iface 303 v) 238 92 true).run Tryz.prog w = .ok (.tuple #[.agg #[.string ⟨#[]⟩, .int .i64 0], .bool false]) w := by kernel_rfl
theorem te436_439 (v : Value) (w : World) : (Instr.typeAssert (.iface 303 v) 238 306 true).run Tryz.prog w = .ok (.tuple #[.agg #[.string ⟨#[]⟩, .int .i64 0, .slice none 0 0], .bool false]) w := by kernel_rfl
theorem te436_442 (v : Value) (w : World) : (Instr.typeAssert (.iface 303 v) 238 309 true).run Tryz.prog w = .ok (.tuple #[.agg #[.nilIface], .bool false]) w := by kernel_rfl
theorem te436_444 (v : Value) (w : World) : (Instr.typeAssert (.iface 303 v) 238 311 true).run Tryz.prog w = .ok (.tuple #[.agg #[.string ⟨#[]⟩, .int .i64 0, .slice none 0 0], .bool false]) w := by kernel_rfl
theorem te436_445 (v : Value) (w : World) : (Instr.typeAssert (.iface 303 v) 238 312 true).run Tryz.prog w = .ok (.tuple #[.agg #[.string ⟨#[]⟩, .int .i64 0, .slice none 0 0], .bool false]) w := by kernel_rfl
theorem te436_447 (v : Value) (w : World) : (Instr.typeAssert (.iface 303 v) 238 314 true).run Tryz.prog w = .ok (.tuple #[.agg #[.string ⟨#[]⟩, .nilIface], .bool false]) w := by kernel_rfl
theorem te436_449 (v : Value) (w : World) : (Instr.typeAssert (.iface 303 v) 238 316 true).run Tryz.prog w = .ok (.tuple #[.agg #[.nilIface, .string ⟨#[]⟩, .nilIface], .bool false]) w := by kernel_rfl
theorem te436_452 (v : Value) (w : World) : (Instr.typeAssert (.iface 303 v) 238 319 true).run Tryz.prog w = .ok (.tuple #[.agg #[.nilIface, .nilIface], .bool false]) w := by kernel_rfl
theorem te436_454 (v : Value) (w : World) : (Instr.typeAssert (.iface 303 v) 238 321 true).run Tryz.prog w = .ok (.tuple #[.agg #[.nilIface, .string ⟨#[]⟩, .int .i64 0], .bool false]) w := by kernel_rfl
theorem te436_456 (v : Value) (w : World) : (Instr.typeAssert (.iface 303 v) 238 323 true).run Tryz.prog w = .ok (.tuple #[.agg #[.nilIface, .nilIface, .nilIface], .bool false]) w := by kernel_rfl
theorem te436_459 (v : Value) (w : World) : (Instr.typeAssert (.iface 303 v) 238 326 true).run Tryz.prog w = .ok (.tuple #[.agg #[.nilIface, .string ⟨#[]⟩, .nilIface], .bool false]) w := by kernel_rfl
theorem te437_188 (v : Value) (w : World) : (Instr.typeAssert (.iface 304 v) 238 92 true).run Tryz.prog w = .ok (.tuple #[.agg #[.string ⟨#[]⟩, .int .i64 0], .bool false]) w := by kernel_rfl
theorem te437_439 (v : Value) (w : World) : (Instr.typeAssert (.iface 304 v) 238 306 true).run Tryz.prog w = .ok (.tuple #[.agg #[.string ⟨#[]⟩, .int .i64 0, .slice none 0 0], .bool false]) w := by kernel_rfl
theorem te437_442 (v : Value) (w : World) : (Instr.typeAssert (.iface 304 v) 238 309 true).run Tryz.prog w = .ok (.tuple #[.agg #[.nilIface], .bool false]) w := by kernel_rfl
theorem te437_444 (v : Value) (w : World) : (Instr.typeAssert (.iface 304 v) 238 311 true).run Tryz.prog w = .ok (.tuple #[.agg #[.string ⟨#[]⟩, .int .i64 0, .slice none 0 0], .bool false]) w := by kernel_rfl
theorem te437_445 (v : Value) (w : World) : (Instr.typeAssert (.iface 304 v) 238 312 true).run Tryz.prog w = .ok (.tuple #[.agg #[.string ⟨#[]⟩, .int .i64 0, .slice none 0 0], .bool false]) w := by kernel_rfl
theorem te437_447 (v : Value) (w : World) : (Instr.typeAssert (.iface 304 v) 238 314 true).run Tryz.prog w = .ok (.tuple #[.agg #[.string ⟨#[]⟩, .nilIface], .bool false]) w := by kernel_rfl
theorem te437_449 (v : Value) (w : World) : (Instr.typeAssert (.iface 304 v) 238 316 true).run Tryz.prog w = .ok (.tuple #[.agg #[.nilIface, .string ⟨#[]⟩, .nilIface], .bool false]) w := by kernel_rfl
theorem te437_452 (v : Value) (w : World) : (Instr.typeAssert (.iface 304 v) 238 319 true).run Tryz.prog w = .ok (.tuple #[.agg #[.nilIface, .nilIface], .bool false]) w := by kernel_rfl
theorem te437_454 (v : Value) (w : World) : (Instr.typeAssert (.iface 304 v) 238 321 true).run Tryz.prog w = .ok (.tuple #[.agg #[.nilIface, .string ⟨#[]⟩, .int .i64 0], .bool false]) w := by kernel_rfl
theorem te437_456 (v : Value) (w : World) : (Instr.typeAssert (.iface 304 v) 238 323 true).run Tryz.prog w = .ok (.tuple #[.agg #[.nilIface, .nilIface, .nilIface], .bool false]) w := by kernel_rfl
theorem te437_459 (v : Value) (w : World) : (Instr.typeAssert (.iface 304 v) 238 326 true).run Tryz.prog w = .ok (.tuple #[.agg #[.nilIface, .string ⟨#[]⟩, .nilIface], .bool false]) w := by kernel_rfl
theorem tenil_188 (w : World) : (Instr.typeAssert .nilIface 238 92 true).run Tryz.prog w = .ok (.tuple #[.agg #[.string ⟨#[]⟩, .int .i64 0], .bool false]) w := by kernel_rfl
theorem tenil_439 (w : World) : (Instr.typeAssert .nilIface 238 306 true).run Tryz.prog w = .ok (.tuple #[.agg #[.string ⟨#[]⟩, .int .i64 0, .slice none 0 0], .bool false]) w := by kernel_rfl
theorem tenil_442 (w : World) : (Instr.typeAssert .nilIface 238 309 true).run Tryz.prog w = .ok (.tuple #[.agg #[.nilIface], .bool false]) w := by kernel_rfl
theorem tenil_444 (w : World) : (Instr.typeAssert .nilIface 238 311 true).run Tryz.prog w = .ok (.tuple #[.agg #[.string ⟨#[]⟩, .int .i64 0, .slice none 0 0], .bool false]) w := by kernel_rfl
theorem tenil_445 (w : World) : (Instr.typeAssert .nilIface 238 312 true).run Tryz.prog w = .ok (.tuple #[.agg #[.string ⟨#[]⟩, .int .i64 0, .slice none 0 0], .bool false]) w := by kernel_rfl
theorem tenil_447 (w : World) : (Instr.typeAssert .nilIface 238 314 true).run Tryz.prog w = .ok (.tuple #[.agg #[.string ⟨#[]⟩, .nilIface], .bool false]) w := by kernel_rfl
theorem tenil_449 (w : World) : (Instr.typeAssert .nilIface 238 316 true).run Tryz.prog w = .ok (.tuple #[.agg #[.nilIface, .string ⟨#[]⟩, .nilIface], .bool false]) w := by kernel_rfl
theorem tenil_452 (w : World) : (Instr.typeAssert .nilIface 238 319 true).run Tryz.prog w = .ok (.tuple #[.agg #[.nilIface, .nilIface], .bool false]) w := by kernel_rfl
theorem tenil_454 (w : World) : (Instr.typeAssert .nilIface 238 321 true).run Tryz.prog w = .ok (.tuple #[.agg #[.nilIface, .string ⟨#[]⟩, .int .i64 0], .bool false]) w := by kernel_rfl
theorem tenil_456 (w : World) : (Instr.typeAssert .nilIface 238 323 true).run Tryz.prog w = .ok (.tuple #[.agg #[.nilIface, .nilIface, .nilIface], .bool false]) w := by kernel_rfl
theorem tenil_459 (w : World) : (Instr.typeAssert .nilIface 238 326 true).run Tryz.prog w = .ok (.tuple #[.agg #[.nilIface, .string ⟨#[]⟩, .nilIface], .bool false]) w := by kernel_rfl
theorem te188_188 (v : Value) (w : World) : (Instr.typeAssert (.iface 92 v) 238 92 true).run Tryz.prog w = .ok (.tuple #[v, .bool true]) w := by kernel_rfl
theorem te445_188 (v : Value) (w : World) : (Instr.typeAssert (.iface 312 v) 238 92 true).run Tryz.prog w = .ok (.tuple #[.agg #[.string ⟨#[]⟩, .int .i64 0], .bool false]) w := by kernel_rfl
theorem te445_439 (v : Value) (w : World) : (Instr.typeAssert (.iface 312 v) 238 306 true).run Tryz.prog w = .ok (.tuple #[.agg #[.string ⟨#[]⟩, .int .i64 0, .slice none 0 0], .bool false]) w := by kernel_rfl
theorem te445_442 (v : Value) (w : World) : (Instr.typeAssert (.iface 312 v) 238 309 true).run Tryz.prog w = .ok (.tuple #[.agg #[.nilIface], .bool false]) w := by kernel_rfl
theorem te445_444 (v : Value) (w : World) : (Instr.typeAssert (.iface 312 v) 238 311 true).run Tryz.prog w = .ok (.tuple #[.agg #[.string ⟨#[]⟩, .int .i64 0, .slice none 0 0], .bool false]) w := by kernel_rfl
theorem te445_445 (v : Value) (w : World) : (Instr.typeAssert (.iface 312 v) 238 312 true).run Tryz.prog w = .ok (.tuple #[v, .bool true]) w := by kernel_rfl
theorem ts507_191 (v : Value) (w : World) : (Instr.typeAssert (.iface 350 v) 235 95 true).run Tryz.prog w = .ok (.tuple #[.slice none 0 0, .bool false]) w := by kernel_rfl
theorem ts507_424 (v : Value) (w : World) : (Instr.typeAssert (.iface 350 v) 235 290 true).run Tryz.prog w = .ok (.tuple #[.agg #[.nilIface, .slice none 0 0, .bool false, .slice none 0 0], .bool false]) w := by kernel_rfl
theorem ts507_427 (v : Value) (w : World) : (Instr.typeAssert (.iface 350 v) 235 293 true).run Tryz.prog w = .ok (.tuple #[.agg #[.nilIface, .slice none 0 0], .bool false]) w := by kernel_rfl
theorem ts507_429 (v : Value) (w : World) : (Instr.typeAssert (.iface 350 v) 235 295 true).run Tryz.prog w = .ok (.tuple #[.agg #[.nilIface, .nilIface, .nilIface, .slice none 0 0], .bool false]) w := by kernel_rfl
theorem ts507_432 (v : Value) (w : World) : (Instr.typeAssert (.iface 350 v) 235 298 true).run Tryz.prog w = .ok (.tuple #[.agg #[.string ⟨#[]⟩, .int .i64 0, .string ⟨#[]⟩, .int .i64 0, .slice none 0 0], .bool false]) w := by kernel_rfl
theorem ts507_507 (v : Value) (w : World) : (Instr.typeAssert (.iface 350 v) 235 350 true).run Tryz.prog w = .ok (.tuple #[v, .bool true]) w := by kernel_rfl
theorem ts419_191 (v : Value) (w : World) : (Instr.typeAssert (.iface 285 v) 235 95 true).run Tryz.prog w = .ok (.tuple #[.slice none 0 0, .bool false]) w := by kernel_rfl
theorem ts419_424 (v : Value) (w : World) : (Instr.typeAssert (.iface 285 v) 235 290 true).run Tryz.prog w = .ok (.tuple #[.agg #[.nilIface, .slice none 0 0, .bool false, .slice none 0 0], .bool false]) w := by kernel_rfl
theorem ts419_427 (v : Value) (w : World) : (Instr.typeAssert (.iface 285 v) 235 293 true).run Tryz.prog w = .ok (.tuple #[.agg #[.nilIface, .slice none 0 0], .bool false]) w := by kernel_rfl
theorem ts419_429 (v : Value) (w : World) : (Instr.typeAssert (.iface 285 v) 235 295 true).run Tryz.prog w = .ok (.tuple #[.agg #[.nilIface, .nilIface, .nilIface, .slice none 0 0], .bool false]) w := by kernel_rfl
theorem ts419_432 (v : Value) (w : World) : (Instr.typeAssert (.iface 285 v) 235 298 true).run Tryz.prog w = .ok (.tuple #[.agg #[.string ⟨#[]⟩, .int .i64 0, .string ⟨#[]⟩, .int .i64 0, .slice none 0 0], .bool false]) w := by kernel_rfl
theorem ts419_507 (v : Value) (w : World) : (Instr.typeAssert (.iface 285 v) 235 350 true).run Tryz.prog w = .ok (.tuple #[.agg #[.nilIface], .bool false]) w := by kernel_rfl
theorem ts419_419 (v : Value) (w : World) : (Instr.typeAssert (.iface 285 v) 235 285 true).run Tryz.prog w = .ok (.tuple #[v, .bool true]) w := by kernel_rfl
set_option maxRecDepth 20000 in
set_option maxHeartbeats 4000000 in
theorem uexpr_str (p : Option Addr) (v : Value) (w : World) : Calls Tryz.prog 145 #[.pointer p, .iface 303 v] w fun en w' => en = .returned (.tuple #[]) ∧ w' = w := by
  have q0 := te436_188 v
  have q1 := te436_439 v
  have q2 := te436_442 v
  have q3 := te436_444 v
  have q4 := te436_445 v
  have q5 := te436_447 v
  have q6 := te436_449 v
  have q7 := te436_452 v
  have q8 := te436_454 v
  have q9 := te436_456 v
  have q10 := te436_459 v
  go_enter Tryz.func145, Tryz.ntmps145
  go_wp2
  go_end0
  exact ⟨rfl, rfl⟩
set_option maxRecDepth 20000 in
set_option maxHeartbeats 4000000 in
theorem uexpr_pat (p : Option Addr) (v : Value) (w : World) : Calls Tryz.prog 145 #[.pointer p, .iface 304 v] w fun en w' => en = .returned (.tuple #[]) ∧ w' = w := by
  have q0 := te437_188 v
  have q1 := te437_439 v
  have q2 := te437_442 v
  have q3 := te437_444 v
  have q4 := te437_445 v
  have q5 := te437_447 v
  have q6 := te437_449 v
  have q7 := te437_452 v
  have q8 := te437_454 v
  have q9 := te437_456 v
  have q10 := te437_459 v
  go_enter Tryz.func145, Tryz.ntmps145
  go_wp2
  go_end0
  exact ⟨rfl, rfl⟩
set_option maxRecDepth 20000 in
set_option maxHeartbeats 4000000 in
theorem uexpr_nil (p : Option Addr) (w : World) : Calls Tryz.prog 145 #[.pointer p, .nilIface] w fun en w' => en = .returned (.tuple #[]) ∧ w' = w := by
  have q0 := tenil_188
  have q1 := tenil_439
  have q2 := tenil_442
  have q3 := tenil_444
  have q4 := tenil_445
  have q5 := tenil_447
  have q6 := tenil_449
  have q7 := tenil_452
  have q8 := tenil_454
  have q9 := tenil_456
  have q10 := tenil_459
  go_enter Tryz.func145, Tryz.ntmps145
  go_wp2
  go_end0
  exact ⟨rfl, rfl⟩
set_option maxRecDepth 20000 in
set_option maxHeartbeats 4000000 in
theorem uexpr_name (cb M : Nat) (rec : Bool) (x : ByteArray) (a : Nat) (w : World) (h : UAt w cb M (.slice none 0 0) rec) :
    Calls Tryz.prog 145 #[.pointer (some ⟨cb, 0, none⟩), nameV x a] w fun en w' => en = .returned (.tuple #[]) ∧ ∃ v, UsT x a w' v ∧ UAt w' cb M v rec ∧ Only (fun k => k = cb) w w' := by
  have q0 := te188_188 (.agg #[.string x, .int .i64 a])
  have HN := hide (uname_first cb M rec x a _ (h.alloc (.cells #[.string x, .int .i64 a] 92)))
  clear h
  unfold nameV
  go_enter Tryz.func145, Tryz.ntmps145
  go_wp2_with (go_at_call 186; refine (HN.out).mono ?_; rintro en w2 ⟨rfl, v, h1, h2, h3⟩; have H1 := hide h1; have H2 := hide h2; have H3 := hide h3; clear h1 h2 h3)
  go_end0
  exact ⟨rfl, v, H1.out, H2.out, fromAlloc H3.out⟩
set_option maxRecDepth 20000 in
set_option maxHeartbeats 4000000 in
theorem uexpr_own (cb : Nat) (v : Value) (D : Nat → Prop) (w : World) (hv : ∃ x a r, v = .agg #[.string x, .int .i64 a, r] ∧ ∃ po n cap, r = .slice po n cap) (h1 : ∀ W, Only (fun _ => False) w W → Calls Tryz.prog 189 #[.pointer (some ⟨cb, 0, none⟩), v] W fun en w' => en = .returned (.tuple #[]) ∧ Only D W w') :
    Calls Tryz.prog 145 #[.pointer (some ⟨cb, 0, none⟩), .iface 312 v] w fun en w' => en = .returned (.tuple #[]) ∧ Only D w w' := by
  obtain ⟨x, a, r, rfl, po, n, cap, rfl⟩ := hv
  have q0 := te445_188 (.agg #[.string x, .int .i64 a, .slice po n cap])
  have q1 := te445_439 (.agg #[.string x, .int .i64 a, .slice po n cap])
  have q2 := te445_442 (.agg #[.string x, .int .i64 a, .slice po n cap])
  have q3 := te445_444 (.agg #[.string x, .int .i64 a, .slice po n cap])
  have q4 := te445_445 (.agg #[.string x, .int .i64 a, .slice po n cap])
  have H1 := hide (h1 _ (onlyA w (.cells #[.string x, .int .i64 a, .slice po n cap] 312)))
  clear h1
  go_enter Tryz.func145, Tryz.ntmps145
  go_wp2_with (go_at_call 189; refine (H1.out).mono ?_; rintro en w2 ⟨rfl, h3⟩; have H3 := hide h3; clear h3)
  go_end0
  exact ⟨rfl, fromAlloc H3.out⟩
end Go.Proofs.YtdbdbaepmdmnfaaGreatDoor

namespace Go.Proofs.YtdbdbaepmdmnfaaGreatDoor
open Go.RowKit
set_option maxRecDepth 20000 in
set_option maxHeartbeats 1000000 in
theorem argCounts_gsub (w : World) : Calls Tryz.prog 256 #[.string ⟨#[103, 115, 117, 98]⟩] w fun en w' => en = .returned (.tuple #[.int .i64 2, .int .i64 3]) ∧ w' = w := by
  go_enter Tryz.func256, Tryz.ntmps256
  go_wp2
  go_ret2
  exact ⟨rfl, rfl⟩
set_option maxRecDepth 20000 in
set_option maxHeartbeats 1000000 in
theorem isReplacing_gsub (w : World) : Calls Tryz.prog 257 #[.string ⟨#[103, 115, 117, 98]⟩] w fun en w' => en = .returned (.bool true) ∧ w' = w := by
  go_enter Tryz.func257, Tryz.ntmps257
  go_wp2
  go_ret
  exact ⟨rfl, rfl⟩
set_option maxRecDepth 20000 in
set_option maxHeartbeats 1000000 in
theorem uarg_plain (cb : Nat) (x : ByteArray) (a : Nat) (t : TypeId) (e : Value) (D : Nat → Prop) (w : World) (h1 : ∀ W, Only (fun _ => False) w W → Calls Tryz.prog 145 #[.pointer (some ⟨cb, 0, none⟩), .iface t e] W fun en w' => en = .returned (.tuple #[]) ∧ Only D W w') :
    Calls Tryz.prog 255 #[.pointer (some ⟨cb, 0, none⟩), .agg #[.string x, .int .i64 a], .iface t e, .bool false] w fun en w' => en = .returned (.tuple #[]) ∧ Only D w w' := by
  have H1 := hide (h1 _ (onlyA w (.cells #[.string x, .int .i64 a] 92)))
  clear h1
  go_enter Tryz.func255, Tryz.ntmps255
  go_wp2_with (go_at_call 145; refine (H1.out).mono ?_; rintro en w2 ⟨rfl, h3⟩; have H3 := hide h3; clear h3)
  refine bodyPost_ret (results_none rfl _ _ _) rfl ?_
  exact ⟨rfl, fromAlloc H3.out⟩
theorem own_at {w : World} {B : Nat} {e : TypeId} {z : Nat} {v : Value} {n : Nat} {xs : List Value} (h : w.ownsRow B e z v n xs) (hn : 0 < n) : ∃ g cap, v = .slice (some ⟨g, 0, none⟩) n cap ∧ g < w.heap.size ∧ ∀ (j : Nat) u, xs[j]? = some u → w.cell? ⟨g, j, none⟩ = some u := by
  rcases h.2 with ⟨_, h0⟩ | ⟨g, cap, cur, rfl, _, h3, _, _, _, h7⟩
  · omega
  · refine ⟨g, cap, rfl, heap_lt h3, fun j u hu => cell_of h3 ?_⟩
    rw [← h7, List.getElem?_take] at hu
    split at hu
    · simpa using hu
    · cases hu
set_option maxRecDepth 20000 in
set_option maxHeartbeats 4000000 in
theorem uown_gsub (cb pb : Nat) (a : Nat) (p q : Value) (r : Value) (w : World) (hr : Row pb [.iface 304 p, .iface 303 q] w r) :
    Calls Tryz.prog 189 #[.pointer (some ⟨cb, 0, none⟩), .agg #[.string ⟨#[103, 115, 117, 98]⟩, .int .i64 a, r]] w fun en w' => en = .returned (.tuple #[]) ∧ Only (fun _ => False) w w' := by
  obtain ⟨g, cap, rfl, hg, hc⟩ := own_at hr.1 (by simp)
  have HC := hide argCounts_gsub
  have HI := hide isReplacing_gsub
  have HA := hide (fun (W : World) t e D h => uarg_plain cb ⟨#[103, 115, 117, 98]⟩ a t e D W h)
  have e0 : w.cell? ⟨g, 0, none⟩ = some (.iface 304 p) := hc 0 _ rfl
  have e1 : w.cell? ⟨g, 1, none⟩ = some (.iface 303 q) := hc 1 _ rfl
  clear hr hc
  go_enter Tryz.func189, Tryz.ntmps189
  go_wp2_with (first | (go_at_call 256; refine (HC.out _).mono ?_; rintro en w' ⟨rfl, rfl⟩) | (go_at_call 257; refine (HI.out _).mono ?_; rintro en w' ⟨rfl, rfl⟩))
  go_loopg [59] 2 (fun gh s59 wr => ∃ k : Nat, k ≤ 2 ∧ gh = 2 - k ∧ s59 = .int .i64 k ∧ Only (fun _ => False) (w.alloc (.cells #[.string ⟨#[103, 115, 117, 98]⟩, .int .i64 a, .slice (some ⟨g, 0, none⟩) 2 cap] 312)) wr)
  case atStart => exact ⟨0, by omega, rfl, rfl, Only.refl _ _⟩
  case round =>
    obtain ⟨k, hk, hgh, rfl, ho⟩ := hrel
    have hb := (ho.block w.heap.size (by simp) (fun e => e)).trans (new0 w (.cells #[.string ⟨#[103, 115, 117, 98]⟩, .int .i64 a, .slice (some ⟨g, 0, none⟩) 2 cap] 312))
    have b0 : wr.cell? ⟨w.heap.size, 0, none⟩ = some (.string ⟨#[103, 115, 117, 98]⟩) := cell_of hb rfl
    have b1 : wr.cell? ⟨w.heap.size, 1, none⟩ = some (.int .i64 a) := cell_of hb rfl
    have HO := hide ho
    have hz : w.heap.size + 1 ≤ wr.heap.size := by have := ho.size; simpa using this
    have e0' : wr.cell? ⟨g, 0, none⟩ = some (.iface 304 p) := ((ho.cell (p := ⟨g, 0, none⟩) (by simp; omega) (fun e => e)).trans (World.cell?_alloc_past _ _ _ hg)).trans e0
    have e1' : wr.cell? ⟨g, 1, none⟩ = some (.iface 303 q) := ((ho.cell (p := ⟨g, 1, none⟩) (by simp; omega) (fun e => e)).trans (World.cell?_alloc_past _ _ _ hg)).trans e1
    clear hb ho
    by_cases h0 : k = 0
    · subst h0
      have HAr := hide (HA.out wr 304 p (fun _ => False) (fun W _ => (uexpr_pat _ p W).mono (fun _ _ h => ⟨h.1, h.2 ▸ Only.refl _ _⟩)))
      go_wp2_with (go_at_call 255; refine (HAr.out).mono ?_; rintro en w2 ⟨rfl, h3⟩; have H3 := hide h3; clear h3)
      go_roundg 1
      case measure => omega
      case rel => exact ⟨1, by omega, rfl, rfl, HO.out.trans H3.out (fun _ _ e => e)⟩
    · by_cases h1 : k = 1
      · subst h1
        have HAr := hide (HA.out wr 303 q (fun _ => False) (fun W _ => (uexpr_str _ q W).mono (fun _ _ h => ⟨h.1, h.2 ▸ Only.refl _ _⟩)))
        go_wp2_with (go_at_call 255; refine (HAr.out).mono ?_; rintro en w2 ⟨rfl, h3⟩; have H3 := hide h3; clear h3)
        go_roundg 0
        case measure => omega
        case rel => exact ⟨2, by omega, rfl, rfl, HO.out.trans H3.out (fun _ _ e => e)⟩
      · obtain rfl : k = 2 := by omega
        go_wp2
        go_end0
        exact ⟨rfl, fromAlloc HO.out⟩
end Go.Proofs.YtdbdbaepmdmnfaaGreatDoor

namespace Go.Proofs.YtdbdbaepmdmnfaaGreatDoor
open Go.RowKit
/-- The uses: none, or one. -/
def UsX (o : Option (ByteArray × Nat)) (w : World) (v : Value) : Prop := match o with
  | none => v = .slice none 0 0
  | some (x, a) => UsT x a w v
def UX (w : World) (cb M : Nat) (o : Option (ByteArray × Nat)) (rec : Bool) : Prop := ∃ v, UAt w cb M v rec ∧ UsX o w v
theorem UsX.of {o w w' v} (h : UsX o w v) (hk : ∀ k, v.ownBlock = some k → w'.heap[k]? = w.heap[k]?) : UsX o w' v := by
  match o, h with
  | none, h => exact h
  | some (x, a), h => exact ownsRow_of h hk
theorem UsX.lt {o w v} (h : UsX o w v) : ∀ k, v.ownBlock = some k → k < w.heap.size ∧ ∀ c t, w.heap[k]? = some (.cells c t (0, 0)) → t = 227 := by
  match o, h with
  | none, h => intro k hk; cases h; cases hk
  | some (x, a), h =>
    intro k hk
    refine ⟨(World.ownsRow.lt h k hk).2, fun c t hc => ?_⟩
    by_cases e : t = 227
    · exact e
    · exact absurd hk (own_tag h hc (fun e2 => e e2.symm))
theorem UX.alloc {w cb M o rec} (h : UX w cb M o rec) (ob : Obj) : UX (w.alloc ob) cb M o rec := by
  obtain ⟨v, h1, h2⟩ := h
  exact ⟨v, h1.alloc ob, h2.of (fun k hk => Below.heap_alloc _ _ _ (h2.lt k hk).1)⟩
theorem UX.calm {w cb M o rec} (h : UX w cb M o rec) {w' : World} (ho : Only (fun _ => False) w w') : UX w' cb M o rec := by
  obtain ⟨v, h1, h2⟩ := h
  exact ⟨v, h1.only ho (fun e => e) (fun e => e), h2.of (fun k hk => ho.block k (h2.lt k hk).1 (fun e => e))⟩
theorem UX.setRec {w cb M o rec} (h : UX w cb M o rec) (r : Bool) : UX (w.setCell ⟨cb, 6, none⟩ (.bool r)) cb M o r := by
  obtain ⟨v, h1, h2⟩ := h
  refine ⟨v, ⟨heap_setCell_same h1.1 _, (Below.heap_setCell _ _ _ _ (by exact h1.ne)).trans h1.2⟩, h2.of (fun k hk => Below.heap_setCell _ _ _ _ (fun e => ?_))⟩
  have e2 : k = cb := e
  subst e2
  exact absurd ((h2.lt k hk).2 _ _ h1.1) (by decide)
set_option maxRecDepth 20000 in
set_option maxHeartbeats 4000000 in
theorem uexprs_nil (p : Option Addr) (w : World) : Calls Tryz.prog 114 #[.pointer p, .slice none 0 0] w fun en w' => en = .returned (.tuple #[]) ∧ w' = w := by
  go_enter Tryz.func114, Tryz.ntmps114
  go_wp2
  go_loop [8] (fun s => s = .int .i64 0) (fun _ => 0)
  case atStart => exact rfl
  case round =>
    subst hrel
    go_wp2
    go_end0
    exact ⟨rfl, rfl⟩
set_option maxRecDepth 20000 in
set_option maxHeartbeats 4000000 in
theorem ustmt_work (cb : Nat) (t : TypeId) (u : Value) (Q : World → Prop) (w : World) (h1 : ∀ W, Only (fun _ => False) w W → Calls Tryz.prog 145 #[.pointer (some ⟨cb, 0, none⟩), .iface t u] W fun en w' => en = .returned (.tuple #[]) ∧ Q w') :
    Calls Tryz.prog 144 #[.pointer (some ⟨cb, 0, none⟩), .iface 350 (.agg #[.iface t u])] w fun en w' => en = .returned (.tuple #[]) ∧ Q w' := by
  have q0 := ts507_191 (.agg #[.iface t u])
  have q1 := ts507_424 (.agg #[.iface t u])
  have q2 := ts507_427 (.agg #[.iface t u])
  have q3 := ts507_429 (.agg #[.iface t u])
  have q4 := ts507_432 (.agg #[.iface t u])
  have q5 := ts507_507 (.agg #[.iface t u])
  have H1 := hide (h1 _ (onlyA w (.cells #[.iface t u] 350)))
  clear h1
  go_enter Tryz.func144, Tryz.ntmps144
  go_wp2_with (go_at_call 145; refine (H1.out).mono ?_; rintro en w2 ⟨rfl, h3⟩; have H3 := hide h3; clear h3)
  go_end0
  exact ⟨rfl, H3.out⟩
set_option maxRecDepth 20000 in
set_option maxHeartbeats 4000000 in
theorem ustmt_print (p : Option Addr) (w : World) :
    Calls Tryz.prog 144 #[.pointer p, printV] w fun en w' => en = .returned (.tuple #[]) ∧ Only (fun _ => False) w w' := by
  have q0 := ts419_191 (.agg #[.slice none 0 0, .nilIface])
  have q1 := ts419_424 (.agg #[.slice none 0 0, .nilIface])
  have q2 := ts419_427 (.agg #[.slice none 0 0, .nilIface])
  have q3 := ts419_429 (.agg #[.slice none 0 0, .nilIface])
  have q4 := ts419_432 (.agg #[.slice none 0 0, .nilIface])
  have q5 := ts419_507 (.agg #[.slice none 0 0, .nilIface])
  have q6 := ts419_419 (.agg #[.slice none 0 0, .nilIface])
  have H1 := hide (uexprs_nil p)
  have H2 := hide (uexpr_nil p)
  unfold printV
  go_enter Tryz.func144, Tryz.ntmps144
  go_wp2_with (first | (go_at_call 114; refine (H1.out _).mono ?_; rintro en w2 ⟨rfl, h3⟩; subst h3) | (go_at_call 145; refine (H2.out _).mono ?_; rintro en w2 ⟨rfl, h3⟩; subst h3))
  go_end0
  exact ⟨rfl, onlyA _ _⟩
set_option maxRecDepth 20000 in
set_option maxHeartbeats 4000000 in
theorem ublock (cb n : Nat) (hn100 : n ≤ 100) (v : Value) (vs : List Value) (J : Nat → World → Prop) (w : World) (hrow : w.ownsRow 0 235 1 v n vs) (hcb : v.ownBlock ≠ some cb) (hJ : ∀ i W, J i W → Only (fun k => k = cb) w W) (h0 : J 0 w)
    (hs : ∀ i u, vs[i]? = some u → ∀ W, J i W → Calls Tryz.prog 144 #[.pointer (some ⟨cb, 0, none⟩), u] W fun en w' => en = .returned (.tuple #[]) ∧ J (i + 1) w') :
    Calls Tryz.prog 113 #[.pointer (some ⟨cb, 0, none⟩), v] w fun en w' => en = .returned (.tuple #[]) ∧ J n w' := by
  have hlen : vs.length = n := by have := hrow.1; omega
  obtain ⟨po, cap, rfl⟩ := ownsRow_slice hrow
  have HRow := hide hrow
  have HJ := hide hJ
  have HS := hide hs
  have H0 := hide h0
  clear hrow hJ hs h0
  go_enter Tryz.func113, Tryz.ntmps113
  go_wp2
  go_loopg [8] n (fun gh s8 wr => ∃ k : Nat, k ≤ n ∧ gh = n - k ∧ s8 = .int .i64 k ∧ J k wr)
  case atStart => exact ⟨0, by omega, rfl, rfl, H0.out⟩
  case round =>
    obtain ⟨k, hk, hgh, rfl, hj⟩ := hrel
    have HJk := hide hj
    have HG := hide hgh
    by_cases hlt : k < n
    · have hli : (k : Int) < (n : Int) := by omega
      obtain ⟨u, hu⟩ : ∃ u, vs[k]? = some u := ⟨_, List.getElem?_eq_getElem (by omega)⟩
      have hrow2 := row_keep HRow.out hcb (HJ.out k wr hj)
      obtain ⟨g, cap2, he, hg, hc⟩ := own_at hrow2 (by omega)
      cases he
      have c0 : wr.cell? ⟨g, k, none⟩ = some u := hc k u hu
      have HSk := hide (HS.out k u hu wr hj)
      clear hrow2 hc hj hgh hu
      go_wp2_with (go_at_call 144; refine (HSk.out).mono ?_; rintro en w2 ⟨rfl, h3⟩; have H3 := hide h3; clear h3)
      go_roundg (n - (k + 1))
      case measure => rw [HG.out]; omega
      case rel => exact ⟨k + 1, by omega, rfl, by go_num, H3.out⟩
    · obtain rfl : k = n := by omega
      have hli : ¬ (k : Int) < (k : Int) := by omega
      clear hj hgh
      go_wp2
      go_end0
      exact ⟨rfl, HJk.out⟩
set_option maxRecDepth 20000 in
set_option maxHeartbeats 4000000 in
theorem urule (cb M : Nat) (o1 : Option (ByteArray × Nat)) (body : Value) (hsl : ∃ po n cap, body = .slice po n cap) (w : World) (h : UX w cb M none false)
    (h1 : ∀ W, UX W cb M none true → Only (fun k => k = cb) w W → Calls Tryz.prog 113 #[.pointer (some ⟨cb, 0, none⟩), body] W fun en w' => en = .returned (.tuple #[]) ∧ UX w' cb M o1 true ∧ Only (fun k => k = cb) W w') :
    Calls Tryz.prog 77 #[.pointer (some ⟨cb, 0, none⟩), .agg #[.int .i64 0, .slice none 0 0, body]] w fun en w' => en = .returned (.tuple #[]) ∧ UX w' cb M o1 false ∧ Only (fun k => k = cb) w w' := by
  obtain ⟨po, n, cap, rfl⟩ := hsl
  have HE := hide (uexprs_nil (some ⟨cb, 0, none⟩))
  have hu0 := (h.setRec true).alloc (.cells #[.int .i64 0, .slice none 0 0, .slice po n cap] 102)
  have hlc : cb < w.heap.size := by obtain ⟨v, h1, _⟩ := h; exact heap_lt h1.1
  have c6 : w.cell? ⟨cb, 6, none⟩ = some (.bool false) := by obtain ⟨v, h1, _⟩ := h; exact cell_of h1.1 rfl
  have cf : ∀ o, w.frozen? ⟨cb, o, none⟩ = false := by obtain ⟨v, h1, _⟩ := h; exact free_of h1.1
  have hO := (Only.refl (fun k => k = cb) w).setCell (p := ⟨cb, 6, none⟩) (fun _ => rfl) (.bool true)
  have hO2 := hO.alloc (.cells #[.int .i64 0, .slice none 0 0, .slice po n cap] 102)
  have H1 := hide (h1 _ hu0 hO2)
  have HO2 := hide hO2
  clear h h1 hu0 hO hO2
  go_enter Tryz.func77, Tryz.ntmps77
  go_wp2_with (go_at_call 114; refine (HE.out _).mono ?_; rintro en w2 ⟨rfl, h3⟩; subst h3)
  refine (H1.out).mono ?_
  rintro en w2 ⟨rfl, hu2, ho2⟩
  have d6 : w2.cell? ⟨cb, 6, none⟩ = some (.bool true) := by obtain ⟨v, h1, _⟩ := hu2; exact cell_of h1.1 rfl
  have df : ∀ o, w2.frozen? ⟨cb, o, none⟩ = false := by obtain ⟨v, h1, _⟩ := hu2; exact free_of h1.1
  have HU2 := hide hu2
  have HO3 := hide ho2
  clear hu2 ho2 H1
  go_wp2
  go_end0
  exact ⟨rfl, HU2.out.setRec false, (HO2.out.trans HO3.out (fun _ _ e => e)).setCell (p := ⟨cb, 6, none⟩) (fun _ => rfl) _⟩
end Go.Proofs.YtdbdbaepmdmnfaaGreatDoor

namespace Go.Proofs.YtdbdbaepmdmnfaaGreatDoor
open Go.RowKit
set_option maxRecDepth 20000 in
set_option maxHeartbeats 4000000 in
theorem len_0 (w : World) : Calls Tryz.prog 147 #[.int .u64 0] w fun en w' => (∃ l, en = .returned (.int .i64 l)) ∧ w' = w := by
  go_enter Tryz.func147, Tryz.ntmps147
  go_wp2
  go_ret
  exact ⟨⟨_, rfl⟩, rfl⟩
set_option maxRecDepth 20000 in
set_option maxHeartbeats 4000000 in
theorem len_1 (w : World) : Calls Tryz.prog 147 #[.int .u64 1] w fun en w' => (∃ l, en = .returned (.int .i64 l)) ∧ w' = w := by
  go_enter Tryz.func147, Tryz.ntmps147
  go_wp2
  go_ret
  exact ⟨⟨_, rfl⟩, rfl⟩
set_option maxRecDepth 20000 in
set_option maxHeartbeats 4000000 in
theorem insert_few (v f : Value) (n : Nat) (hn : n ≤ 1) (w : World) : Calls Tryz.prog 190 #[v, .int .i64 0, .int .i64 n, f] w fun en w' => en = .returned (.tuple #[]) ∧ w' = w := by
  have hli : ¬ (1 : Int) < (n : Int) := by omega
  go_enter Tryz.func190, Tryz.ntmps190
  go_wp2
  go_loop [8] (fun s => s = .int .i64 1) (fun _ => 0)
  case atStart => exact rfl
  case round =>
    subst hrel
    go_wp2
    go_end0
    exact ⟨rfl, rfl⟩
set_option maxRecDepth 20000 in
set_option maxHeartbeats 4000000 in
theorem pdq_0 (v f : Value) (l : Int) (w : World) : Calls Tryz.prog 146 #[v, .int .i64 0, .int .i64 0, .int .i64 l, f] w fun en w' => en = .returned (.tuple #[]) ∧ w' = w := by
  have HI := hide (insert_few v f 0 (by omega))
  go_enter Tryz.func146, Tryz.ntmps146
  go_wp2
  go_loop [1, 2] (fun s1 s2 => s1 = .int .i64 0 ∧ s2 = .int .i64 0) (fun _ _ => 0)
  case atStart => exact ⟨rfl, rfl⟩
  case round =>
    obtain ⟨rfl, rfl⟩ := hrel
    go_wp2_with (go_at_call 190; refine (HI.out _).mono ?_; rintro en w' ⟨rfl, rfl⟩)
    refine bodyPost_ret (results_none rfl _ _ _) rfl ?_
    exact ⟨rfl, rfl⟩
set_option maxRecDepth 20000 in
set_option maxHeartbeats 4000000 in
theorem sort_0 (po : Option Addr) (cap : Nat) (f : Value) (w : World) : Calls Tryz.prog 115 #[.slice po 0 cap, f] w fun en w' => en = .returned (.tuple #[]) ∧ w' = w := by
  have HL := hide len_0
  have HP := hide (fun l => pdq_0 (.slice po 0 cap) f l)
  go_enter Tryz.func115, Tryz.ntmps115
  go_wp2_with (first | (go_at_call 147; refine (HL.out _).mono ?_; rintro en w' ⟨⟨l, rfl⟩, rfl⟩) | (go_at_call 146; refine (HP.out _ _).mono ?_; rintro en w' ⟨rfl, rfl⟩))
  go_end0
  exact ⟨rfl, rfl⟩
set_option maxRecDepth 20000 in
set_option maxHeartbeats 4000000 in
theorem pdq_1 (v f : Value) (l : Int) (w : World) : Calls Tryz.prog 146 #[v, .int .i64 0, .int .i64 1, .int .i64 l, f] w fun en w' => en = .returned (.tuple #[]) ∧ w' = w := by
  have HI := hide (insert_few v f 1 (by omega))
  go_enter Tryz.func146, Tryz.ntmps146
  go_wp2
  go_loop [1, 2] (fun s1 s2 => s1 = .int .i64 0 ∧ s2 = .int .i64 1) (fun _ _ => 0)
  case atStart => exact ⟨rfl, rfl⟩
  case round =>
    obtain ⟨rfl, rfl⟩ := hrel
    go_wp2_with (go_at_call 190; refine (HI.out _).mono ?_; rintro en w' ⟨rfl, rfl⟩)
    refine bodyPost_ret (results_none rfl _ _ _) rfl ?_
    exact ⟨rfl, rfl⟩
set_option maxRecDepth 20000 in
set_option maxHeartbeats 4000000 in
theorem sort_1 (po : Option Addr) (cap : Nat) (f : Value) (w : World) : Calls Tryz.prog 115 #[.slice po 1 cap, f] w fun en w' => en = .returned (.tuple #[]) ∧ w' = w := by
  have HL := hide len_1
  have HP := hide (fun l => pdq_1 (.slice po 1 cap) f l)
  go_enter Tryz.func115, Tryz.ntmps115
  go_wp2_with (first | (go_at_call 147; refine (HL.out _).mono ?_; rintro en w' ⟨⟨l, rfl⟩, rfl⟩) | (go_at_call 146; refine (HP.out _ _).mono ?_; rintro en w' ⟨rfl, rfl⟩))
  go_end0
  exact ⟨rfl, rfl⟩
end Go.Proofs.YtdbdbaepmdmnfaaGreatDoor

