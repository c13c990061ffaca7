import Derived.Test.YtdbdbaepmdmnfaaGreatDoorQ20
import Derived.Deep.RegionHeldLaw
namespace Go.Proofs.YtdbdbaepmdmnfaaGreatDoor
open Go.RowKit
set_option maxRecDepth 100000 in
theorem info383 : (Tryz.prog.info? 255).map (fun i => (i.zero, i.size, i.bytes)) = some (some (.agg #[.slice none 0 0, .bool false, .nilFunc]), 3, 40) := by kernel_rfl
/-- The program's one rule, made. -/
def RuleF (K : Nat → World → Value → Prop) (B : Nat) (w : World) (rs : Value) : Prop := ∃ cg x, w.ownsRow 0 255 3 rs 1 [.slice (some ⟨cg, 0, none⟩) 0 0, .bool false, x] ∧ K B w x
/-- A block is made so, in whatever world that has grown out of w. -/
def BodyOK (kp : Option Addr) (w : World) (v : Value) (K : Nat → World → Value → Prop) : Prop := ∀ W, Only (fun _ => False) w W → Calls Tryz.prog 91 #[.pointer kp, v] W fun en w' => ∃ x, en = .returned (.agg #[x]) ∧ K W.heap.size w' x ∧ Only (fun _ => False) W w'
end Go.Proofs.YtdbdbaepmdmnfaaGreatDoor
