import Derived.Test.YtdbdbaepmdmnfaaGreatDoorZ07
import Derived.Deep.DeepCutAuto
import Derived.Deep.RegionLaw
import Derived.Deep.RegionHeld3
import Derived.Deep.RegionHeldLaw
import Derived.Test.YtdbdbaepmdmnfaaGreatDoorZ03
import Derived.Test.YtdbdbaepmdmnfaaGreatDoorZ01
import Derived.Deep.AppendLies
import Derived.Test.YtdbdbaepmdmnfaaGreatDoorProg
import Derived.Deep.OwnRows
import Derived.Laws.OwnMore
import Derived.Deep.CutBlock
import Derived.Deep.LoopGhost
import Derived.Deep.RegionWith
import Derived.BigQuiet
import Derived.Deep.QuietTactic
import Derived.Deep.CutRange
import Derived.Shelf.Bits.Mul64
import Derived.Laws.CopyOwn
namespace Go.Proofs.YtdbdbaepmdmnfaaGreatDoor
open Go.RowKit
set_option maxRecDepth 20000 in
set_option maxHeartbeats 2000000 in
theorem applies_none (g : Nat) (po p : Option Addr) (cap : Nat) (w : World) (h : w.cell? ⟨g, 0, none⟩ = some (.slice po 0 cap)) :
    Calls Tryz.prog 133 #[.pointer (some ⟨g, 0, none⟩), .pointer p] w fun en w' => en = .returned (.bool true) ∧ w' = w := by
  go_enter Tryz.func133, Tryz.ntmps133
  go_wp2
  go_ret
  exact ⟨rfl, rfl⟩
set_option maxRecDepth 20000 in
set_option maxHeartbeats 4000000 in
theorem doRules_one (p m g cr F : Nat) (po : Option Addr) (cap : Nat) (hcf : ∀ (args : Array Value) (w : World), (callFunc F args).run Tryz.prog w = .ok (.enter F args) w) (caps : List Value) (Q : World → Prop) (w : World)
    (hp : w.cell? ⟨p, 1, none⟩ = some (.slice (some ⟨g, 0, none⟩) 1 cr)) (h0 : w.cell? ⟨g, 0, none⟩ = some (.slice po 0 cap)) (h2 : w.cell? ⟨g, 2, none⟩ = some (.func (.func F) #[] caps.toArray))
    (H : Calls Tryz.prog F (.pointer (some ⟨m, 0, none⟩) :: caps).toArray w fun en w' => en = .returned (.int .i64 0) ∧ Q w') :
    Calls Tryz.prog 101 #[.pointer (some ⟨p, 0, none⟩), .pointer (some ⟨m, 0, none⟩)] w fun en w' => en = .returned (.tuple #[]) ∧ Q w' := by
  have HA := hide (applies_none g po (some ⟨m, 0, none⟩) cap w h0)
  have H1 := hide H
  clear H
  go_enter Tryz.func101, Tryz.ntmps101
  go_wp2
  go_loopg [11] 1 (fun gh s wr => (gh = 1 ∧ s = .int .i64 0 ∧ wr = w) ∨ (gh = 0 ∧ s = .int .i64 1 ∧ Q wr))
  case atStart => exact Or.inl ⟨rfl, rfl, rfl⟩
  case round =>
    rcases hrel with ⟨hgh, rfl, hw⟩ | ⟨hgh, rfl, hq⟩
    · subst wr
      go_wp2_with (go_at_call 133; refine (HA.out).mono ?_; rintro en w' ⟨rfl, h3⟩; subst w')
      refine (H1.out).mono ?_
      rintro en w2 ⟨rfl, h3⟩
      have H3 := hide h3
      clear h3 H1 HA
      go_wp2
      go_roundg 0
      case measure => omega
      case rel => exact Or.inr ⟨rfl, rfl, H3.out⟩
    · go_wp2
      go_end0
      exact ⟨rfl, hq⟩
end Go.Proofs.YtdbdbaepmdmnfaaGreatDoor

namespace Go.Proofs.YtdbdbaepmdmnfaaGreatDoor
open Go.RowKit
set_option maxRecDepth 20000 in
set_option maxHeartbeats 2000000 in
theorem run2_do (mc pc m p : Nat) (w : World) (h0 : w.cell? ⟨mc, 0, none⟩ = some (.pointer (some ⟨m, 0, none⟩))) (h1 : w.cell? ⟨pc, 0, none⟩ = some (.pointer (some ⟨p, 0, none⟩))) (h2 : w.cell? ⟨p, 2, none⟩ = some (.slice none 0 0)) :
    Calls Tryz.prog 65 #[.pointer (some ⟨mc, 0, none⟩), .pointer (some ⟨pc, 0, none⟩)] w fun en w' => en = .returned (.tuple #[]) ∧ w' = w.drew := by
  have HD := hide (doAll_nil (some ⟨m, 0, none⟩))
  go_enter Tryz.func65, Tryz.ntmps65
  go_wp2
  go_region_with (go_at_call 63; refine (HD.out _).mono ?_; rintro en w' ⟨rfl, h3⟩; subst h3)
  all_goals
    go_wp2
    go_end0
    exact ⟨rfl, rfl⟩
end Go.Proofs.YtdbdbaepmdmnfaaGreatDoor

namespace Go.Proofs.YtdbdbaepmdmnfaaGreatDoor
open Go.RowKit
set_option maxRecDepth 100000 in
theorem mk380 (w : World) : (Instr.makeSlice 252 (.int .i64 0) (.int .i64 0)).run Tryz.prog w = .ok (.slice (some ⟨w.heap.size, 0, none⟩) 0 0) (w.alloc (.cells #[] 338)) := by kernel_rfl
set_option maxRecDepth 20000 in
set_option maxHeartbeats 1000000 in
theorem exprs_none (k : Option Addr) (w : World) : Calls Tryz.prog 128 #[.pointer k, .slice none 0 0] w fun en w' => en = .returned (.slice (some ⟨w.heap.size, 0, none⟩) 0 0) ∧ w' = w.alloc (.cells #[] 338) := by
  have hm := mk380
  go_enter Tryz.func128, Tryz.ntmps128
  go_wp2
  go_loop [13] (fun s => s = .int .i64 0) (fun _ => 0)
  case atStart => exact rfl
  case round =>
    subst hrel
    go_wp2
    go_ret
    exact ⟨rfl, rfl⟩
theorem hmfT : ∀ (fn : Fn) (first cap : Array Value) (w : World), (Instr.makeFunc fn first cap).run Tryz.prog w = .ok (.func fn first cap) w := fun _ _ _ _ => rfl
theorem hsfT : ∀ (a : Addr) (fn : Fn) (x y : Array Value) (W : World), (store a (.func fn x y)).run Tryz.prog W = stored Tryz.prog W a (.func fn x y) .plain := fun a _ _ _ W => run_store _ W a _ _ rfl
theorem hsnT : ∀ (a : Addr) (W : World), (store a .nilFunc).run Tryz.prog W = stored Tryz.prog W a .nilFunc .plain := fun a W => run_store _ W a _ _ rfl
set_option maxRecDepth 20000 in
set_option maxHeartbeats 1000000 in
theorem const_made (k n : Int) (s : ByteArray) (w : World) : Calls Tryz.prog 216 #[.agg #[.int .i64 k, .int .i64 n, .string s]] w fun en w' => en = .returned (.agg #[.func (.func 298) #[] #[.pointer (some ⟨w.heap.size, 0, none⟩)], .nilFunc]) ∧ w' = (w.alloc (.cells #[.int .i64 k, .int .i64 n, .string s] 203)).alloc (.cells #[.func (.func 298) #[] #[.pointer (some ⟨w.heap.size, 0, none⟩)], .nilFunc] 338) := by
  have hmf := hmfT
  have hsf := hsfT
  have hsn := hsnT
  go_enter Tryz.func216, Tryz.ntmps216
  go_wp2
  exact bodyPost_ret (v := .agg #[.func (.func 298) #[] #[.pointer (some ⟨w.heap.size, 0, none⟩)], .nilFunc]) (by simp [results, Tryz.results216, go_sem]) rfl ⟨rfl, rfl⟩
set_option maxRecDepth 20000 in
set_option maxHeartbeats 1000000 in
theorem exprOr_nil (kp : Option Addr) (k n : Int) (s : ByteArray) (w : World) : Calls Tryz.prog 273 #[.pointer kp, .nilIface, .agg #[.int .i64 k, .int .i64 n, .string s]] w fun en w' => en = .returned (.agg #[.func (.func 298) #[] #[.pointer (some ⟨w.heap.size + 1 + 1, 0, none⟩)], .nilFunc]) ∧ w'.heap[w.heap.size + 1 + 1]? = some (.cells #[.int .i64 k, .int .i64 n, .string s] 203 (0, 0)) ∧ Only (fun _ => False) w w' := by
  have hsf := hsfT
  have hsn := hsnT
  have HC := hide (const_made k n s ((w.alloc (.cells #[.int .i64 k, .int .i64 n, .string s] 203)).alloc (.cells #[.nilFunc, .nilFunc] 338)))
  go_enter Tryz.func273, Tryz.ntmps273
  go_wp2_with (go_at_call 216; refine (HC.out).mono ?_; rintro en w2 ⟨rfl, hw2⟩; subst hw2)
  refine bodyPost_ret (v := .agg #[.func (.func 298) #[] #[.pointer (some ⟨w.heap.size + 1 + 1, 0, none⟩)], .nilFunc]) (by simp [results, Tryz.results273, go_sem]) rfl ⟨rfl, ?_, ((((onlyA w _).alloc _).alloc _).alloc _)⟩
  exact (Below.heap_alloc _ _ _ (by simp <;> omega)).trans (new_at2 (W := (w.alloc _).alloc _) (by simp) _)
end Go.Proofs.YtdbdbaepmdmnfaaGreatDoor

namespace Go.Proofs.YtdbdbaepmdmnfaaGreatDoor
open Go.RowKit
set_option maxRecDepth 100000 in
theorem te434_434 (v : Value) (w : World) : (Instr.typeAssert (.iface 300 v) 238 300 true).run Tryz.prog w = .ok (.tuple #[v, .bool true]) w := by kernel_rfl
set_option maxRecDepth 100000 in
theorem te436_434 (v : Value) (w : World) : (Instr.typeAssert (.iface 303 v) 238 300 true).run Tryz.prog w = .ok (.tuple #[.agg #[.int .i64 0], .bool false]) w := by kernel_rfl
set_option maxRecDepth 100000 in
theorem te436_436 (v : Value) (w : World) : (Instr.typeAssert (.iface 303 v) 238 303 true).run Tryz.prog w = .ok (.tuple #[v, .bool true]) w := by kernel_rfl
/-- A made constant. -/
def ConstE (B : Nat) (w : World) (v : Value) (k n : Int) (s : ByteArray) : Prop := ∃ c, v = .agg #[.func (.func 298) #[] #[.pointer (some ⟨c, 0, none⟩)], .nilFunc] ∧ B ≤ c ∧ w.heap[c]? = some (.cells #[.int .i64 k, .int .i64 n, .string s] 203 (0, 0))
set_option maxRecDepth 20000 in
set_option maxHeartbeats 1000000 in
theorem found_made (F : Nat) (cap : Array Value) (w : World) : Calls Tryz.prog 306 #[.func (.func F) #[] cap] w fun en w' => en = .returned (.agg #[.func (.func 386) #[] #[.pointer (some ⟨w.heap.size, 0, none⟩)], .func (.func F) #[] cap]) ∧ w' = (w.alloc (.cells #[.func (.func F) #[] cap] 336)).alloc (.cells #[.func (.func 386) #[] #[.pointer (some ⟨w.heap.size, 0, none⟩)], .func (.func F) #[] cap] 338) := by
  have hmf := hmfT
  have hsf := hsfT
  have hsn := hsnT
  go_enter Tryz.func306, Tryz.ntmps306
  go_wp2
  exact bodyPost_ret (v := .agg #[.func (.func 386) #[] #[.pointer (some ⟨w.heap.size, 0, none⟩)], .func (.func F) #[] cap]) (by simp [results, Tryz.results306, go_sem]) rfl ⟨rfl, rfl⟩
set_option maxRecDepth 20000 in
set_option maxHeartbeats 1000000 in
theorem expr_num (kp : Option Addr) (n : Int) (w : World) : Calls Tryz.prog 163 #[.pointer kp, .iface 300 (.agg #[.int .i64 n])] w fun en w' => en = .returned (.agg #[.func (.func 298) #[] #[.pointer (some ⟨w.heap.size + 1 + 1 + 1, 0, none⟩)], .nilFunc]) ∧ w' = (((((w.alloc (.cells #[.func (.func 298) #[] #[.pointer (some ⟨w.heap.size + 1 + 1 + 1, 0, none⟩)], .nilFunc] 338)).alloc (.cells #[.int .i64 n] 300)).alloc (.cells #[.int .i64 1, .int .i64 n, .string ⟨#[]⟩] 203)).alloc (.cells #[.int .i64 1, .int .i64 n, .string ⟨#[]⟩] 203)).alloc (.cells #[.func (.func 298) #[] #[.pointer (some ⟨w.heap.size + 1 + 1 + 1, 0, none⟩)], .nilFunc] 338)) := by
  have hmf := hmfT
  have hsf := hsfT
  have hsn := hsnT
  have t1 := te434_434
  have HN := hide (ofNumber n)
  have HC := hide (const_made 1 n ⟨#[]⟩)
  go_enter Tryz.func163, Tryz.ntmps163
  go_wp2_with (first | (go_at_call 95; refine (HN.out _).mono ?_; rintro en w2 ⟨rfl, hw2⟩; subst hw2) | (go_at_call 216; refine (HC.out _).mono ?_; rintro en w2 ⟨rfl, hw2⟩; subst hw2))
  exact bodyPost_ret (v := .agg #[.func (.func 298) #[] #[.pointer (some ⟨w.heap.size + 1 + 1 + 1, 0, none⟩)], .nilFunc]) (by simp [results, Tryz.results163, go_sem]) rfl ⟨rfl, rfl⟩
set_option maxRecDepth 20000 in
set_option maxHeartbeats 1000000 in
theorem expr_str (kp : Option Addr) (s : ByteArray) (w : World) : Calls Tryz.prog 163 #[.pointer kp, .iface 303 (.agg #[.string s])] w fun en w' => en = .returned (.agg #[.func (.func 298) #[] #[.pointer (some ⟨w.heap.size + 1 + 1 + 1, 0, none⟩)], .nilFunc]) ∧ w' = (((((w.alloc (.cells #[.func (.func 298) #[] #[.pointer (some ⟨w.heap.size + 1 + 1 + 1, 0, none⟩)], .nilFunc] 338)).alloc (.cells #[.string s] 303)).alloc (.cells #[.int .i64 2, .int .i64 0, .string s] 203)).alloc (.cells #[.int .i64 2, .int .i64 0, .string s] 203)).alloc (.cells #[.func (.func 298) #[] #[.pointer (some ⟨w.heap.size + 1 + 1 + 1, 0, none⟩)], .nilFunc] 338)) := by
  have hmf := hmfT
  have hsf := hsfT
  have hsn := hsnT
  have t1 := te436_436
  have t2 := te436_434
  have HN := hide (ofText s)
  have HC := hide (const_made 2 0 s)
  go_enter Tryz.func163, Tryz.ntmps163
  go_wp2_with (first | (go_at_call 96; refine (HN.out _).mono ?_; rintro en w2 ⟨rfl, hw2⟩; subst hw2) | (go_at_call 216; refine (HC.out _).mono ?_; rintro en w2 ⟨rfl, hw2⟩; subst hw2))
  exact bodyPost_ret (v := .agg #[.func (.func 298) #[] #[.pointer (some ⟨w.heap.size + 1 + 1 + 1, 0, none⟩)], .nilFunc]) (by simp [results, Tryz.results163, go_sem]) rfl ⟨rfl, rfl⟩
theorem const_keep {B : Nat} {w w' : World} {v : Value} {k n : Int} {s : ByteArray} (h : ConstE B w v k n s) (ho : Only (fun q => q < B) w w') : ConstE B w' v k n s := by
  obtain ⟨c, e, hB, hc⟩ := h
  exact ⟨c, e, hB, (ho.block c (heap_lt hc) (by omega)).trans hc⟩
theorem const_down {A B : Nat} {w : World} {v : Value} {k n : Int} {s : ByteArray} (h : ConstE B w v k n s) (hA : A ≤ B) : ConstE A w v k n s := by
  obtain ⟨c, e, hB, hc⟩ := h
  exact ⟨c, e, by omega, hc⟩
end Go.Proofs.YtdbdbaepmdmnfaaGreatDoor

namespace Go.Proofs.YtdbdbaepmdmnfaaGreatDoor
open Go.RowKit
theorem new_at2D {W : World} {n : Nat} (h : W.heap.size = n) (o : Obj) : (W.alloc o).drew.heap[n]? = some o := new_at2 h o
theorem heap_allocD (W : World) (o : Obj) {k : Nat} (h : k < W.heap.size) : (W.alloc o).drew.heap[k]? = W.heap[k]? := Below.heap_alloc _ _ _ h
theorem past {W : World} {a : Addr} {v : Value} (h : W.cell? a = some v) (o : Obj) : (W.alloc o).cell? a = some v := (World.cell?_alloc_some W a o (by rw [h]; rfl)).trans h
theorem pastD {W : World} {a : Addr} {v : Value} (h : W.cell? a = some v) (o : Obj) : (W.alloc o).drew.cell? a = some v := past h o
theorem farC {W : World} {p a : Addr} {v x : Value} (h : W.cell? a = some v) (hn : p.block ≠ a.block) : (W.setCell p x).cell? a = some v := (World.cell?_setCell_far W p a x hn).trans h
theorem set1 {w : World} {b t : Nat} {x : Value} (h : w.heap[b]? = some (.cells #[x] t (0, 0))) (v : Value) : (w.setCell ⟨b, 0, none⟩ v).heap[b]? = some (.cells #[v] t (0, 0)) := heap_setCell_same h v
theorem lay {P Q : Prop} (h : P) (k : P → Q) : Q := k h
end Go.Proofs.YtdbdbaepmdmnfaaGreatDoor

namespace Go.Proofs.YtdbdbaepmdmnfaaGreatDoor
open Go.RowKit
set_option maxRecDepth 100000 in
theorem tx507_419 (v : Value) (w : World) : (Instr.typeAssert (.iface 350 v) 235 285 true).run Tryz.prog w = .ok (.tuple #[.agg #[.slice none 0 0, .nilIface], .bool false]) w := by kernel_rfl
set_option maxRecDepth 100000 in
theorem tx507_509 (v : Value) (w : World) : (Instr.typeAssert (.iface 350 v) 235 352 true).run Tryz.prog w = .ok (.tuple #[.agg #[.string ⟨#[]⟩, .int .i64 0], .bool false]) w := by kernel_rfl
set_option maxRecDepth 100000 in
theorem tx507_510 (v : Value) (w : World) : (Instr.typeAssert (.iface 350 v) 235 353 true).run Tryz.prog w = .ok (.tuple #[.agg #[.nilIface], .bool false]) w := by kernel_rfl
set_option maxRecDepth 100000 in
theorem tx507_512 (v : Value) (w : World) : (Instr.typeAssert (.iface 350 v) 235 355 true).run Tryz.prog w = .ok (.tuple #[.agg #[.nilIface, .int .i64 0], .bool false]) w := by kernel_rfl
set_option maxRecDepth 100000 in
theorem tx507_513 (v : Value) (w : World) : (Instr.typeAssert (.iface 350 v) 235 356 true).run Tryz.prog w = .ok (.tuple #[.agg #[.string ⟨#[]⟩, .int .i64 0, .slice none 0 0], .bool false]) w := by kernel_rfl
/-- A fact about a func value that nothing turns which turns older blocks alone. -/
structure Keeps (I : Nat → World → Value → Prop) : Prop where
  isF : ∀ B w x, I B w x → ∃ F cap, x = .func (.func F) #[] cap
  keep : ∀ B w w' x, I B w x → Only (fun q => q < B) w w' → I B w' x
  down : ∀ A B w x, I B w x → A ≤ B → I A w x
/-- A made statement: a step, and what it does. -/
def StF (I : Nat → World → Value → Prop) (B : Nat) (w : World) (v : Value) : Prop := ∃ b x, v = .func (.func 162) #[] #[.pointer (some ⟨b, 0, none⟩)] ∧ B ≤ b ∧ w.heap[b]? = some (.cells #[x] 185 (0, 0)) ∧ I B w x
theorem st_keeps {I : Nat → World → Value → Prop} (h : Keeps I) : Keeps (StF I) where
  isF := fun _ _ _ ⟨_, _, e, _⟩ => ⟨_, _, e⟩
  keep := fun B w w' x ⟨b, y, e, k, h1, h2⟩ ho => ⟨b, y, e, k, (ho.block b (heap_lt h1) (by omega)).trans h1, h.keep _ _ _ _ h2 ho⟩
  down := fun A B w x ⟨b, y, e, k, h1, h2⟩ hA => ⟨b, y, e, by omega, h1, h.down _ _ _ _ h2 hA⟩
end Go.Proofs.YtdbdbaepmdmnfaaGreatDoor

namespace Go.Proofs.YtdbdbaepmdmnfaaGreatDoor
open Go.RowKit
set_option maxRecDepth 100000 in
theorem info383 : (Tryz.prog.info? 255).map (fun i => (i.zero, i.size, i.bytes)) = some (some (.agg #[.slice none 0 0, .bool false, .nilFunc]), 3, 40) := by kernel_rfl
/-- The program's one rule, made. -/
def RuleF (K : Nat → World → Value → Prop) (B : Nat) (w : World) (rs : Value) : Prop := ∃ cg x, w.ownsRow 0 255 3 rs 1 [.slice (some ⟨cg, 0, none⟩) 0 0, .bool false, x] ∧ K B w x
end Go.Proofs.YtdbdbaepmdmnfaaGreatDoor

namespace Go.Proofs.YtdbdbaepmdmnfaaGreatDoor
open Go.RowKit
def ints (l : List Nat) : List Value := l.map (fun n : Nat => Value.int .i64 (n : Int))
def zints (l : List Int) : List Value := l.map (fun z : Int => Value.int .i64 z)
def thr (l : List (Nat × Nat)) : List Value := l.flatMap (fun x => [Value.int .i64 x.1, Value.int .i64 x.2])
/-- A place's length, of the last end of a match that begins there. -/
def lenV (p : Nat) (best : Option Nat) : Int := match best with | none => -1 | some B => (B : Int) - p
/-- A search lies in block sb; rv: what each state was reached at last; stk: its stack; the lengths are ls, but at place p that of best. -/
structure Srch (w : World) (sb rb lb bs : Nat) (vS : Value) (Q : List St) (ls : List Int) (p : Nat) (rv : List Nat) (vK : Value) (stk : List Nat) (best : Option Nat) : Prop where
  blk : w.heap[sb]? = some (.cells #[vS, .slice (some ⟨rb, 0, none⟩) Q.length Q.length, vK, .slice (some ⟨lb, 0, none⟩) ls.length ls.length] 176 (0, 0))
  rch : w.heap[rb]? = some (.cells (ints rv).toArray 3 (0, 0))
  lns : w.heap[lb]? = some (.cells (zints (ls.set p (lenV p best))).toArray 3 (0, 0))
  len : rv.length = Q.length
  pat : PatAt w vS Q
  own : w.ownsRow bs 3 1 vK stk.length (ints stk)
  rs : rb ≠ sb ∧ lb ≠ sb ∧ lb ≠ rb ∧ sb < bs ∧ rb < bs ∧ lb < bs
  ss : ∀ k, vS.ownBlock = some k → k ≠ sb ∧ k ≠ rb ∧ k ≠ lb ∧ k < bs
theorem Srch.only {w w' sb rb lb bs vS Q ls p rv vK stk best D} (h : Srch w sb rb lb bs vS Q ls p rv vK stk best) (ho : Only D w w') (h1 : ¬ D sb) (h2 : ¬ D rb) (h2' : ¬ D lb) (h3 : ∀ k, vS.ownBlock = some k → ¬ D k) (h4 : ∀ k, vK.ownBlock = some k → ¬ D k) : Srch w' sb rb lb bs vS Q ls p rv vK stk best := by
  obtain ⟨xs, hp1, hp2⟩ := h.pat
  exact ⟨(ho.block sb (heap_lt h.blk) h1).trans h.blk, (ho.block rb (heap_lt h.rch) h2).trans h.rch, (ho.block lb (heap_lt h.lns) h2').trans h.lns, h.len, ⟨xs, ownsRow_of hp1 (fun k hk => ho.block k (hp1.lt k hk).2 (h3 k hk)), hp2⟩, ownsRow_of h.own (fun k hk => ho.block k (h.own.lt k hk).2 (h4 k hk)), h.rs, h.ss⟩
end Go.Proofs.YtdbdbaepmdmnfaaGreatDoor
namespace Go.Proofs.YtdbdbaepmdmnfaaGreatDoor
open Go.RowKit
/-- How many states were not reached at the place. -/
def unm (rv : List Nat) (x : Nat) : Nat := rv.countP (fun y => y != x)
/-- Where a row may lie behind a call: where it lay, or in a block that was not there. -/
def MovedB (w : World) (v v' : Value) : Prop := v'.ownBlock = v.ownBlock ∨ ∃ G, v'.ownBlock = some G ∧ w.heap.size ≤ G
theorem MovedB.refl (w : World) (v : Value) : MovedB w v v := Or.inl rfl
theorem MovedB.trans {w w1 : World} {u v x : Value} (h : MovedB w u v) (hs : w.heap.size ≤ w1.heap.size) (k : MovedB w1 v x) : MovedB w u x := by
  rcases k with k | ⟨G, k, k2⟩
  · rw [MovedB, k]; exact h
  · exact Or.inr ⟨G, k, Nat.le_trans hs k2⟩
theorem rows_apart {w : World} {B B' : Nat} {e e' : TypeId} {z z' : Nat} {v v' : Value} {n n' : Nat} {xs xs' : List Value} (h : w.ownsRow B e z v n xs) (h' : w.ownsRow B' e' z' v' n' xs') (hne : e ≠ e') : ∀ k, v.ownBlock = some k → v'.ownBlock ≠ some k := by
  intro k hk hk'
  rcases h.2 with ⟨rfl, _⟩ | ⟨g, cap, cur, rfl, _, h3, _⟩
  · cases hk
  · cases hk
    rcases h'.2 with ⟨rfl, _⟩ | ⟨g', cap', cur', rfl, _, h3', _⟩
    · cases hk'
    · cases hk'
      rw [h3] at h3'
      injection h3' with h4
      injection h4 with _ h5 _
      exact hne h5
theorem Srch.alloc {w sb rb lb bs vS Q ls p rv vK stk best} (h : Srch w sb rb lb bs vS Q ls p rv vK stk best) (o : Obj) : Srch (w.alloc o) sb rb lb bs vS Q ls p rv vK stk best := h.only (D := fun _ => False) ((Only.refl _ w).alloc o) (fun e => e) (fun e => e) (fun e => e) (fun _ _ e => e) (fun _ _ e => e)
theorem PatAt.cells {w G n cap Q k q} (h : PatAt w (.slice (some ⟨G, 0, none⟩) n cap) Q) (hk : Q[k]? = some q) : ∃ ys, SetIs ys q.set ∧ ∀ j u, (stCs q ys)[j]? = some u → w.cell? ⟨G, k * 7 + j, none⟩ = some u := by
  obtain ⟨xs, h2, h3⟩ := h
  obtain ⟨ys, h4, h5⟩ := h3 k q hk
  refine ⟨ys, h4, fun j u hj => ?_⟩
  rcases h2.2 with ⟨e, _⟩ | ⟨g, cap', cur, hv, _, h7, _, _, _, h8⟩
  · cases e
  · cases hv
    have h9 := h5 j u hj
    rw [← h8, List.getElem?_take] at h9
    split at h9
    · refine cell_of h7 ?_
      rw [← Array.getElem?_toList]; exact h9
    · cases h9
theorem PatAt.form {w v Q} (h : PatAt w v Q) (hQ : Q.length ≠ 0) : ∃ G cap, v = .slice (some ⟨G, 0, none⟩) Q.length cap := by
  obtain ⟨xs, h2, _⟩ := h
  rcases h2.2 with ⟨_, h0⟩ | ⟨g, cap, cur, hv, _⟩
  · exact absurd h0 hQ
  · exact ⟨g, cap, hv⟩
end Go.Proofs.YtdbdbaepmdmnfaaGreatDoor
namespace Go.Proofs.YtdbdbaepmdmnfaaGreatDoor
open Go.RowKit
def FollowPost (w : World) (sb rb lb bs : Nat) (vS : Value) (Q : List St) (t : List UInt8) (ls : List Int) (rv : List Nat) (vK : Value) (best : Option Nat) (vO : Value) (O : List (Nat × Nat)) (q0 b p : Nat) (e : Ending) (w' : World) : Prop :=
  ∃ (vO' : Value) (vK1 : Value) (rv1 : List Nat) (O1 : List (Nat × Nat)) (best1 : Option Nat), e = .returned vO' ∧ Srch w' sb rb lb bs vS Q ls p rv1 vK1 [] best1 ∧ w'.ownsRow bs 248 2 vO' O1.length (thr O1) ∧
    FInv Q t p b q0 (fun q => rv[q]? = some (p + 1)) O best [] (fun q => rv1[q]? = some (p + 1)) O1 best1 ∧ O1.length + unm rv1 (p + 1) ≤ Q.length ∧
    (∀ (k x : Nat), rv1[k]? = some x → x = p + 1 ∨ rv[k]? = some x) ∧ Only (fun k => k = sb ∨ (k = rb ∨ k = lb) ∨ some k = vK.ownBlock ∨ some k = vO.ownBlock) w w' ∧ MovedB w vK vK1 ∧ MovedB w vO vO'
theorem Only.fromAlloc {D : Nat → Prop} {w w' : World} {o : Obj} (h : Only D (w.alloc o) w') : Only D w w' := ((Only.refl D w).alloc o).trans h (fun _ _ e => e)
theorem MovedB.fromAlloc {w : World} {o : Obj} {v v' : Value} (h : MovedB (w.alloc o) v v') : MovedB w v v' := by
  rcases h with h | ⟨G, h, h2⟩
  · exact Or.inl h
  · exact Or.inr ⟨G, h, by rw [World.size_alloc] at h2; omega⟩
end Go.Proofs.YtdbdbaepmdmnfaaGreatDoor

namespace Go.Proofs.YtdbdbaepmdmnfaaGreatDoor
open Go.RowKit
/-- The lengths of the places beyond p are told; those ahead of it are not yet. -/
def LsOK (Q : List St) (t : List UInt8) (last p : Nat) (ls : List Int) : Prop :=
  ls.length = t.length + 1 ∧ (∀ k, p < k → k ≤ t.length → ∃ b, LenAt Q t last k b ∧ ls[k]? = some (lenV k b)) ∧ ∀ k, k < p → ls[k]? = some (-1)
/-- What holds of a search at place p; the ends from h on were followed; open and next are vO and vN. -/
def RunI (w0 wr : World) (sb rb lb bs : Nat) (vS : Value) (Q : List St) (t : List UInt8) (ls : List Int) (last p h : Nat) (vO vN : Value) (O : List (Nat × Nat)) (best : Option Nat) : Prop :=
  ∃ (rv : List Nat) (vK : Value) (stk : List Nat) (N : List (Nat × Nat)), Srch wr sb rb lb bs vS Q ls p rv vK stk best ∧ wr.ownsRow bs 248 2 vO O.length (thr O) ∧ wr.ownsRow bs 248 2 vN N.length (thr N) ∧ (∀ k, vO.ownBlock = some k → vN.ownBlock ≠ some k) ∧
    RInv Q t last p h (fun q => rv[q]? = some (p + 1)) O best ∧ (∀ (k x : Nat), rv[k]? = some x → x = 0 ∨ p + 1 ≤ x) ∧ O.length + unm rv (p + 1) ≤ Q.length ∧ Only (fun k => k = sb ∨ (k = rb ∨ k = lb)) w0 wr ∧ MovedB w0 (.slice none 0 0) vK ∧ MovedB w0 (.slice none 0 0) vO ∧ MovedB w0 (.slice none 0 0) vN
/-- While the threads of place p + 1 are gone through: the first i of O were. -/
def InI (w0 wr : World) (sb rb lb bs : Nat) (vS : Value) (Q : List St) (t : List UInt8) (ls : List Int) (p : Nat) (vO : Value) (O : List (Nat × Nat)) (i : Nat) (vN : Value) (best : Option Nat) : Prop :=
  ∃ (rv : List Nat) (vK : Value) (stk : List Nat) (N : List (Nat × Nat)), Srch wr sb rb lb bs vS Q ls p rv vK stk best ∧ wr.ownsRow bs 248 2 vO O.length (thr O) ∧ wr.ownsRow bs 248 2 vN N.length (thr N) ∧ (∀ k, vO.ownBlock = some k → vN.ownBlock ≠ some k) ∧
    PInv Q t p (srcOf Q t p (O.take i)) (fun q => rv[q]? = some (p + 1)) N best ∧ (∀ (k x : Nat), rv[k]? = some x → x = 0 ∨ p + 1 ≤ x) ∧ N.length + unm rv (p + 1) ≤ Q.length ∧ Only (fun k => k = sb ∨ (k = rb ∨ k = lb)) w0 wr ∧ MovedB w0 (.slice none 0 0) vK ∧ MovedB w0 (.slice none 0 0) vO ∧ MovedB w0 (.slice none 0 0) vN
theorem movedNil {w : World} {v : Value} (h : MovedB w (.slice none 0 0) v) : ∀ k, v.ownBlock = some k → w.heap.size ≤ k := by
  intro k hk
  rcases h with h | ⟨G, h, h2⟩
  · rw [h] at hk; cases hk
  · rw [h] at hk; cases hk; exact h2
/-- What else lies in memory stands while a thread is followed. -/
theorem follow_frame {w0 w w' : World} {sb rb lb bs : Nat} {vS : Value} {Q : List St} {ls : List Int} {p : Nat} {rv : List Nat} {vK : Value} {stk : List Nat} {best : Option Nat} {vO vN vK1 vO1 : Value} {n : Nat} {xs : List Value} {n1 : Nat} {xs1 : List Value}
    (hS : Srch w sb rb lb bs vS Q ls p rv vK stk best) (hN : w.ownsRow bs 248 2 vN n xs) (hap : ∀ k, vO.ownBlock = some k → vN.ownBlock ≠ some k) (ho : Only (fun k => k = sb ∨ (k = rb ∨ k = lb) ∨ some k = vK.ownBlock ∨ some k = vO.ownBlock) w w')
    (_hO1 : w'.ownsRow bs 248 2 vO1 n1 xs1) (hk1 : MovedB w vK vK1) (ho1 : MovedB w vO vO1) (h0 : Only (fun k => k = sb ∨ (k = rb ∨ k = lb)) w0 w) (mK : MovedB w0 (.slice none 0 0) vK) (mO : MovedB w0 (.slice none 0 0) vO) :
    w'.ownsRow bs 248 2 vN n xs ∧ (∀ k, vO1.ownBlock = some k → vN.ownBlock ≠ some k) ∧ Only (fun k => k = sb ∨ (k = rb ∨ k = lb)) w0 w' ∧ MovedB w0 (.slice none 0 0) vK1 ∧ MovedB w0 (.slice none 0 0) vO1 := by
  have hrs := hS.rs
  refine ⟨ownsRow_of hN (fun k hk => ho.block k (hN.lt k hk).2 ?_), fun k hk e => ?_, h0.trans ho (fun i hi e => ?_), mK.trans h0.size hk1, mO.trans h0.size ho1⟩
  · have := (hN.lt k hk).1
    rintro (e | e | e | e)
    · omega
    · omega
    · exact rows_apart hN hS.own (by decide) k hk e.symm
    · exact hap k e.symm hk
  · rcases ho1 with e1 | ⟨G, e1, e2⟩
    · rw [e1] at hk; exact hap k hk e
    · rw [e1] at hk; cases hk
      have := (hN.lt _ e).2
      omega
  · rcases e with e | e | e | e
    · exact Or.inl e
    · exact Or.inr e
    · have := movedNil mK i e.symm; omega
    · have := movedNil mO i e.symm; omega
/-- The threads that came on are the open ones at the next place. -/
theorem InI.next {w0 wr : World} {sb rb lb bs : Nat} {vS : Value} {Q : List St} {t : List UInt8} {ls : List Int} {last p : Nat} {vO : Value} {O : List (Nat × Nat)} {best0 : Option Nat} {vN : Value} {best : Option Nat} {M : Nat → Prop}
    (h : InI w0 wr sb rb lb bs vS Q t ls p vO O O.length vN best) (hR : RInv Q t last (p + 1) (p + 1) M O best0) :
    ∃ N, RunI w0 wr sb rb lb bs vS Q t ls last p (p + 1) vN vO N best := by
  obtain ⟨rv, vK, stk, N, h1, h2, h3, h4, h5, h6, h7, h8, h9, h10, h11⟩ := h
  rw [List.take_length] at h5
  exact ⟨N, rv, vK, stk, O, h1, h3, h2, fun k hk e => h4 k e hk, RInv.next hR h5, h6, h7, h8, h9, h11, h10⟩
theorem LsOK.next {Q t last p ls b} (h : LsOK Q t last (p + 1) ls) (hp : p + 1 ≤ t.length) (hb : LenAt Q t last (p + 1) b) : LsOK Q t last p (ls.set (p + 1) (lenV (p + 1) b)) := by
  obtain ⟨h1, h2, h3⟩ := h
  refine ⟨by rw [List.length_set]; exact h1, fun k hk hl => ?_, fun k hk => ?_⟩
  · by_cases e : k = p + 1
    · subst e
      exact ⟨b, hb, List.getElem?_set_self (by omega)⟩
    · obtain ⟨c, h4, h5⟩ := h2 k (by omega) hl
      exact ⟨c, h4, by rw [List.getElem?_set_ne (fun h => e h.symm)]; exact h5⟩
  · rw [List.getElem?_set_ne (by omega)]
    exact h3 k (by omega)
/-- What is told of all places. -/
def AllLen (Q : List St) (t : List UInt8) (last : Nat) (L : List Int) : Prop := L.length = t.length + 1 ∧ ∀ k, k ≤ t.length → ∃ b, LenAt Q t last k b ∧ L[k]? = some (lenV k b)
theorem LsOK.all {Q t last ls b} (h : LsOK Q t last 0 ls) (hb : LenAt Q t last 0 b) : AllLen Q t last (ls.set 0 (lenV 0 b)) := by
  obtain ⟨h1, h2, h3⟩ := h
  refine ⟨by rw [List.length_set]; exact h1, fun k hl => ?_⟩
  by_cases e : k = 0
  · subst e
    exact ⟨b, hb, List.getElem?_set_self (by omega)⟩
  · obtain ⟨c, h4, h5⟩ := h2 k (by omega) hl
    exact ⟨c, h4, by rw [List.getElem?_set_ne (fun h => e h.symm)]; exact h5⟩
end Go.Proofs.YtdbdbaepmdmnfaaGreatDoor
namespace Go.Proofs.YtdbdbaepmdmnfaaGreatDoor
open Go.RowKit
theorem step_byte {Q : List St} {t : List UInt8} {q p r : Nat} {st : St} {c : UInt8} (hq : Q[q]? = some st) (hk : st.kind = 0) (hc : t[p]? = some c) : Step Q t q (p + 1) r p ↔ st.set c = true ∧ r = st.next := by
  constructor
  · rintro ⟨s, h, h1 | h1 | h1 | h1⟩
    · rw [hq] at h; cases h
      obtain ⟨_, c', h2, h3, h4, _⟩ := h1
      rw [hc] at h2; cases h2
      exact ⟨h3, h4⟩
    · omega
    · omega
    · omega
  · rintro ⟨h1, rfl⟩
    exact ⟨st, hq, Or.inl ⟨hk, c, hc, h1, rfl, rfl⟩⟩
theorem take_push {O : List (Nat × Nat)} {i q b : Nat} (h : O[i]? = some (q, b)) : O.take (i + 1) = O.take i ++ [(q, b)] := by
  rw [List.take_add_one, h]; rfl
theorem src_yes {Q : List St} {t : List UInt8} {p : Nat} {l : List (Nat × Nat)} {q b : Nat} {st : St} {c : UInt8} (hq : Q[q]? = some st) (hk : st.kind = 0) (hc : t[p]? = some c) (hs : st.set c = true) : srcOf Q t p (l ++ [(q, b)]) = fun q' b' => srcOf Q t p l q' b' ∨ (q' = st.next ∧ b' = b) := by
  funext q' b'
  unfold srcOf
  apply propext
  constructor
  · rintro ⟨x, hx, h1, h2⟩
    rcases List.mem_append.1 hx with hx | hx
    · exact Or.inl ⟨x, hx, h1, h2⟩
    · simp at hx; subst hx
      exact Or.inr ⟨((step_byte hq hk hc).1 h2).2, h1.symm⟩
  · rintro (⟨x, hx, h1, h2⟩ | ⟨h1, h2⟩)
    · exact ⟨x, List.mem_append.2 (Or.inl hx), h1, h2⟩
    · exact ⟨(q, b), by simp, h2.symm, (step_byte hq hk hc).2 ⟨hs, h1⟩⟩
theorem src_ge {Q : List St} {t : List UInt8} {p b : Nat} {l : List (Nat × Nat)} (h : ∀ y ∈ l, b ≤ y.2) : ∀ q b', srcOf Q t p l q b' → b ≤ b' := by
  rintro q b' ⟨x, hx, rfl, _⟩
  exact h x hx
/-- A box that is made turns nothing. -/
theorem InI.alloc {w0 wr : World} {sb rb lb bs : Nat} {vS : Value} {Q : List St} {t : List UInt8} {ls : List Int} {p : Nat} {vO : Value} {O : List (Nat × Nat)} {i : Nat} {vN : Value} {best : Option Nat} (h : InI w0 wr sb rb lb bs vS Q t ls p vO O i vN best) (o : Obj) (n : Nat) : InI w0 ((wr.alloc o).drewN n) sb rb lb bs vS Q t ls p vO O i vN best := by
  obtain ⟨rv, vK, stk, N, h1, h2, h3, h4, h5, h6, h7, h8, h9, h10, h11⟩ := h
  refine ⟨rv, vK, stk, N, h1.only (D := fun _ => False) (((Only.refl _ wr).alloc o).drewN n) (fun e => e) (fun e => e) (fun e => e) (fun _ _ e => e) (fun _ _ e => e), ownsRow_of h2 (fun k hk => Below.heap_alloc _ _ _ (h2.lt k hk).2), ownsRow_of h3 (fun k hk => Below.heap_alloc _ _ _ (h3.lt k hk).2), h4, h5, h6, h7, (h8.alloc o).drewN n, h9, h10, h11⟩
theorem InI.step {w0 W w2 : World} {sb rb lb bs : Nat} {vS : Value} {Q : List St} {t : List UInt8} {ls : List Int} {p : Nat} {vO : Value} {O : List (Nat × Nat)} {i : Nat} {vN : Value} {b3 : Option Nat} {rv3 : List Nat} {vK3 : Value} {stk3 : List Nat} {N3 : List (Nat × Nat)} {q b : Nat} {st : St} {c : UInt8} {e : Ending}
    (hu : OneDone Q) (hS3 : Srch W sb rb lb bs vS Q ls p rv3 vK3 stk3 b3) (hO3 : W.ownsRow bs 248 2 vO O.length (thr O)) (hap3 : ∀ k, vO.ownBlock = some k → vN.ownBlock ≠ some k)
    (hP3 : PInv Q t p (srcOf Q t p (O.take i)) (fun q => rv3[q]? = some (p + 1)) N3 b3) (hrv3 : ∀ (k x : Nat), rv3[k]? = some x → x = 0 ∨ p + 1 ≤ x) (ho3 : Only (fun k => k = sb ∨ (k = rb ∨ k = lb)) w0 W) (mK3 : MovedB w0 (.slice none 0 0) vK3) (mO3 : MovedB w0 (.slice none 0 0) vO) (mN3 : MovedB w0 (.slice none 0 0) vN)
    (hx : O[i]? = some (q, b)) (hq : Q[q]? = some st) (hk : st.kind = 0) (hc : t[p]? = some c) (hs : st.set c = true) (hsort : ∀ y ∈ O.take i, b ≤ y.2)
    (hf : FollowPost W sb rb lb bs vS Q t ls rv3 vK3 b3 vN N3 st.next b p e w2) : ∃ vN4 b4, e = .returned vN4 ∧ InI w0 w2 sb rb lb bs vS Q t ls p vO O (i + 1) vN4 b4 := by
  obtain ⟨vN4, vK4, rv4, N4, b4, rfl, hS4, hN4, hF4, hol4, hrv4, ho4, mk4, mn4⟩ := hf
  obtain ⟨f1, f2, f3, f4, f5⟩ := follow_frame hS3 hO3 (fun k hk e => hap3 k e hk) ho4 hN4 mk4 mn4 ho3 mK3 mN3
  refine ⟨vN4, b4, rfl, rv4, vK4, [], N4, hS4, f1, hN4, fun k hk e => f2 k e hk, ?_, ?_, hol4, f3, f4, mO3, f5⟩
  · rw [take_push hx, src_yes hq hk hc hs]
    exact PInv.follow hP3 hu hF4 (src_ge hsort)
  · intro k x hx4
    rcases hrv4 k x hx4 with h | h
    · omega
    · exact hrv3 k x h
end Go.Proofs.YtdbdbaepmdmnfaaGreatDoor

namespace Go.Proofs.YtdbdbaepmdmnfaaGreatDoor
open Go.RowKit
end Go.Proofs.YtdbdbaepmdmnfaaGreatDoor
namespace Go.Proofs.YtdbdbaepmdmnfaaGreatDoor
open Go.RowKit
theorem belowc {W w' : World} (hb : Below W.heap.size W w') (k : Nat) : k < W.heap.size → ∀ o, w'.cell? ⟨k, o, none⟩ = W.cell? ⟨k, o, none⟩ := fun hk o => World.cell?_of_block (a := ⟨k, o, none⟩) (hb.block k hk)
theorem bc {W w' : World} (hb : Below W.heap.size W w') (k o : Nat) : k < W.heap.size → w'.cell? ⟨k, o, none⟩ = W.cell? ⟨k, o, none⟩ := fun hk => belowc hb k hk o
theorem belowf {W w' : World} (hb : Below W.heap.size W w') (k : Nat) : k < W.heap.size → ∀ o, w'.frozen? ⟨k, o, none⟩ = W.frozen? ⟨k, o, none⟩ := fun hk o => by
  unfold World.frozen?
  simp [hb.block k hk]
theorem bf {W w' : World} (hb : Below W.heap.size W w') (k o : Nat) : k < W.heap.size → w'.frozen? ⟨k, o, none⟩ = W.frozen? ⟨k, o, none⟩ := fun hk => belowf hb k hk o
end Go.Proofs.YtdbdbaepmdmnfaaGreatDoor

namespace Go.Proofs.YtdbdbaepmdmnfaaGreatDoor
open Go.RowKit
end Go.Proofs.YtdbdbaepmdmnfaaGreatDoor
namespace Go.Proofs.YtdbdbaepmdmnfaaGreatDoor
open Go.RowKit
theorem long_no (s : ByteArray) (h : ¬ 500 < s.size) (w : World) : Calls Tryz.prog 26 #[.string s] w fun e w' => e = .returned (.bool false) ∧ w' = w := by
  have hi : ¬ (500 : Int) < (s.size : Int) := by omega
  go_enter Tryz.func26, Tryz.ntmps26
  go_wp2
  go_ret
  exact ⟨by simp, rfl⟩
end Go.Proofs.YtdbdbaepmdmnfaaGreatDoor

