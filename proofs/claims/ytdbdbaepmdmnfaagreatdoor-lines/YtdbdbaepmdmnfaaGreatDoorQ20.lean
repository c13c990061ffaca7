import Derived.Test.YtdbdbaepmdmnfaaGreatDoorQ19
namespace Go.Proofs.YtdbdbaepmdmnfaaGreatDoor
open Go.RowKit
/-- A statement is made so, in whatever world that has grown out of w. -/
def StmtOK (kp : Option Addr) (w : World) (v : Value) (I : Nat → World → Value → Prop) : Prop := ∀ W, Only (fun _ => False) w W → Calls Tryz.prog 126 #[.pointer kp, v] W fun en w' => ∃ x, en = .returned (.agg #[x]) ∧ I W.heap.size w' x ∧ Only (fun _ => False) W w'
end Go.Proofs.YtdbdbaepmdmnfaaGreatDoor
