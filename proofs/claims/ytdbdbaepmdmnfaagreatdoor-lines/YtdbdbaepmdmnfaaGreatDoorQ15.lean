import Derived.Test.YtdbdbaepmdmnfaaGreatDoorQ14
namespace Go.Proofs.YtdbdbaepmdmnfaaGreatDoor
open Go.RowKit
theorem upd287 (w : World) (es : Array MapEntry) (c : Nat) (s : ByteArray) (v : Value) (hf : Instr.findNow .string (.string s) es.toList 0 = some none) :
    (Instr.mapUpdate 178 (.map (some w.heap.size)) (.string s) v).run Tryz.prog (w.alloc (.map es c)) = .ok () (w.alloc (.map (es.push { key := .string s, val := v, born := c }) (c + 1))) := by
  have hb : (w.alloc (.map es c)).heap[w.heap.size]? = some (.map es c) := new0 w _
  have hc : (Instr.checkKey false 10000 9 (.string s)).run Tryz.prog (w.alloc (.map es c)) = .ok () (w.alloc (.map es c)) := MapKept.run_checkKey (k := .string s) Tryz.underlying9 (by simp [MapKept.IsKey]) false 9999
  have e : { (w.alloc (.map es c)) with heap := (w.alloc (.map es c)).heap.setIfInBounds w.heap.size (.map (es.push { key := .string s, val := v, born := c }) (c + 1)) } = w.alloc (.map (es.push { key := .string s, val := v, born := c }) (c + 1)) := by
    simp [World.alloc, Array.setIfInBounds, Array.push, Array.set]
  simp [Instr.mapUpdate, run_underlying Tryz.underlying178, MapKept.run_getObj_map hb, hc, MapKept.run_findKey Tryz.underlying9 hf, MapKept.run_setObj_map _ hb, Result.andThen]
  exact e
/-- The seven variables that there are from the beginning. -/
def firstVs : Array MapEntry := #[⟨.string ⟨#[78, 82]⟩, .int .i64 0, 0⟩, ⟨.string ⟨#[78, 70]⟩, .int .i64 1, 1⟩, ⟨.string ⟨#[70, 83]⟩, .int .i64 2, 2⟩, ⟨.string ⟨#[79, 70, 83]⟩, .int .i64 3, 3⟩, ⟨.string ⟨#[79, 82, 83]⟩, .int .i64 4, 4⟩, ⟨.string ⟨#[82, 83, 84, 65, 82, 84]⟩, .int .i64 5, 5⟩, ⟨.string ⟨#[82, 76, 69, 78, 71, 84, 72]⟩, .int .i64 6, 6⟩]
set_option maxRecDepth 20000 in
set_option maxHeartbeats 4000000 in
theorem first_vars (w : World) : Calls Tryz.prog 90 #[] w fun en w' => en = .returned (.map (some w.heap.size)) ∧ w' = w.alloc (.map firstVs 7) := by
  have hmm := @run_makeMap Tryz.prog
  have u0 := upd287 w #[] 0 ⟨#[78, 82]⟩ (.int .i64 0) rfl
  have u1 := upd287 w #[⟨.string ⟨#[78, 82]⟩, .int .i64 0, 0⟩] 1 ⟨#[78, 70]⟩ (.int .i64 1) (by rfl)
  have u2 := upd287 w #[⟨.string ⟨#[78, 82]⟩, .int .i64 0, 0⟩, ⟨.string ⟨#[78, 70]⟩, .int .i64 1, 1⟩] 2 ⟨#[70, 83]⟩ (.int .i64 2) (by rfl)
  have u3 := upd287 w #[⟨.string ⟨#[78, 82]⟩, .int .i64 0, 0⟩, ⟨.string ⟨#[78, 70]⟩, .int .i64 1, 1⟩, ⟨.string ⟨#[70, 83]⟩, .int .i64 2, 2⟩] 3 ⟨#[79, 70, 83]⟩ (.int .i64 3) (by rfl)
  have u4 := upd287 w #[⟨.string ⟨#[78, 82]⟩, .int .i64 0, 0⟩, ⟨.string ⟨#[78, 70]⟩, .int .i64 1, 1⟩, ⟨.string ⟨#[70, 83]⟩, .int .i64 2, 2⟩, ⟨.string ⟨#[79, 70, 83]⟩, .int .i64 3, 3⟩] 4 ⟨#[79, 82, 83]⟩ (.int .i64 4) (by rfl)
  have u5 := upd287 w #[⟨.string ⟨#[78, 82]⟩, .int .i64 0, 0⟩, ⟨.string ⟨#[78, 70]⟩, .int .i64 1, 1⟩, ⟨.string ⟨#[70, 83]⟩, .int .i64 2, 2⟩, ⟨.string ⟨#[79, 70, 83]⟩, .int .i64 3, 3⟩, ⟨.string ⟨#[79, 82, 83]⟩, .int .i64 4, 4⟩] 5 ⟨#[82, 83, 84, 65, 82, 84]⟩ (.int .i64 5) (by rfl)
  have u6 := upd287 w #[⟨.string ⟨#[78, 82]⟩, .int .i64 0, 0⟩, ⟨.string ⟨#[78, 70]⟩, .int .i64 1, 1⟩, ⟨.string ⟨#[70, 83]⟩, .int .i64 2, 2⟩, ⟨.string ⟨#[79, 70, 83]⟩, .int .i64 3, 3⟩, ⟨.string ⟨#[79, 82, 83]⟩, .int .i64 4, 4⟩, ⟨.string ⟨#[82, 83, 84, 65, 82, 84]⟩, .int .i64 5, 5⟩] 6 ⟨#[82, 76, 69, 78, 71, 84, 72]⟩ (.int .i64 6) (by rfl)
  simp only [List.push_toArray, List.cons_append, List.nil_append, Nat.reduceAdd] at u0 u1 u2 u3 u4 u5 u6
  go_enter Tryz.func90, Tryz.ntmps90
  go_wp2
  go_ret
  exact ⟨rfl, rfl⟩
end Go.Proofs.YtdbdbaepmdmnfaaGreatDoor
namespace Go.Proofs.YtdbdbaepmdmnfaaGreatDoor
open Go.RowKit
set_option maxHeartbeats 1000000 in
theorem ofNumber (n : Int) (w : World) : Calls Tryz.prog 95 #[.int .i64 n] w fun en w' => en = .returned (.agg #[.int .i64 1, .int .i64 n, .string ⟨#[]⟩]) ∧ w' = w.alloc (.cells #[.int .i64 1, .int .i64 n, .string ⟨#[]⟩] 203) := by
  go_enter Tryz.func95, Tryz.ntmps95
  go_wp2
  exact bodyPost_ret (v := .agg #[.int .i64 1, .int .i64 n, .string ⟨#[]⟩]) (by simp [results, Tryz.results95, go_sem]) rfl ⟨rfl, rfl⟩
set_option maxHeartbeats 1000000 in
theorem ofText (t : ByteArray) (w : World) : Calls Tryz.prog 96 #[.string t] w fun en w' => en = .returned (.agg #[.int .i64 2, .int .i64 0, .string t]) ∧ w' = w.alloc (.cells #[.int .i64 2, .int .i64 0, .string t] 203) := by
  go_enter Tryz.func96, Tryz.ntmps96
  go_wp2
  exact bodyPost_ret (v := .agg #[.int .i64 2, .int .i64 0, .string t]) (by simp [results, Tryz.results96, go_sem]) rfl ⟨rfl, rfl⟩
set_option maxHeartbeats 1000000 in
theorem newStreams (w : World) : Calls Tryz.prog 94 #[] w fun en w' => en = .returned (.agg #[.slice (some ⟨w.heap.size + 1, 0, none⟩) 1 1, .int .i64 0]) ∧ w' = (w.alloc (.cells #[.slice (some ⟨w.heap.size + 1, 0, none⟩) 1 1, .int .i64 0] 194)).alloc (.cells #[.string ⟨#[]⟩, .slice none 0 0] 142) := by
  go_enter Tryz.func94, Tryz.ntmps94
  go_wp2
  exact bodyPost_ret (v := .agg #[.slice (some ⟨w.heap.size + 1, 0, none⟩) 1 1, .int .i64 0]) (by simp [results, Tryz.results94, go_sem]) rfl ⟨rfl, rfl⟩
set_option maxRecDepth 100000 in
theorem mk385 (w : World) : (Instr.makeSlice 257 (.int .i64 0) (.int .i64 0)).run Tryz.prog w = .ok (.slice (some ⟨w.heap.size, 0, none⟩) 0 0) (w.alloc (.cells #[] 23)) := by kernel_rfl
set_option maxRecDepth 100000 in
theorem mk73 (w : World) : (Instr.makeSlice 192 (.int .i64 7) (.int .i64 7)).run Tryz.prog w = .ok (.slice (some ⟨w.heap.size, 0, none⟩) 7 7) (w.alloc (.cells #[.int .i64 0, .int .i64 0, .string ⟨#[]⟩, .int .i64 0, .int .i64 0, .string ⟨#[]⟩, .int .i64 0, .int .i64 0, .string ⟨#[]⟩, .int .i64 0, .int .i64 0, .string ⟨#[]⟩, .int .i64 0, .int .i64 0, .string ⟨#[]⟩, .int .i64 0, .int .i64 0, .string ⟨#[]⟩, .int .i64 0, .int .i64 0, .string ⟨#[]⟩] 203)) := by kernel_rfl
set_option maxHeartbeats 1000000 in
set_option maxRecDepth 20000 in
theorem newArrays (w : World) : Calls Tryz.prog 93 #[.int .i64 0] w fun en w' => en = .returned (.pointer (some ⟨w.heap.size + 1 + 1, 0, none⟩)) ∧ w' = ((w.alloc (.map #[] 0)).alloc (.cells #[] 23)).alloc (.cells #[.map (some w.heap.size), .slice (some ⟨w.heap.size + 1, 0, none⟩) 0 0] 259) := by
  have hmm := @run_makeMap Tryz.prog
  have hm2 := mk385
  go_enter Tryz.func93, Tryz.ntmps93
  go_wp2
  go_ret
  exact ⟨rfl, rfl⟩
end Go.Proofs.YtdbdbaepmdmnfaaGreatDoor
