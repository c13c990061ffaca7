import Derived.Test.YtdbdbaepmdmnfaaGreatDoorZ24
namespace Go.Proofs.YtdbdbaepmdmnfaaGreatDoor
open Go.RowKit
set_option maxRecDepth 100000 in
theorem mk289G (w : World) : (Instr.makeSlice 180 (.int .i64 0) (.int .i64 0)).run Tryz.prog w = .ok (.slice (some ⟨w.heap.size, 0, none⟩) 0 0) (w.alloc (.cells #[] 187)) := by kernel_rfl
theorem len287G (W : World) (r : Nat) (es : Array MapEntry) (c : Nat) (hb : W.heap[r]? = some (.map es c)) : (Builtin.len_ #[178] 3 #[.map (some r)]).run Tryz.prog W = .ok (.int .i64 es.size) W := by
  simp [Builtin.len_, run_underlying Tryz.underlying178, MapKept.run_getObj_map hb, goInt, Result.andThen]
/-- A maker with the variables that are there from the beginning, and no parameters. -/
structure MkAt (W : World) (kb mv ma mf sg : Nat) : Prop where
  k : W.heap[kb]? = some (.cells #[.map (some mv), .map (some ma), .map (some mf), .slice (some ⟨sg, 0, none⟩) 0 0, .slice none 0 0] 182 (0, 0))
  v : W.heap[mv]? = some (.map firstVs 7)
  a : W.heap[ma]? = some (.map #[] 0)
/-- What was put to a program stays, whatever else of the program turns. -/
structure KeepsG (G : Nat → World → Value → Value → Value → Prop) : Prop where
  keep : ∀ B w w' a b c pb x, G B w a b c → w.heap[pb]? = some (.cells x 135 (0, 0)) → pb < B → Only (fun q => q = pb) w w' → G B w' a b c
  down : ∀ A B w a b c, G B w a b c → A ≤ B → G A w a b c
end Go.Proofs.YtdbdbaepmdmnfaaGreatDoor

