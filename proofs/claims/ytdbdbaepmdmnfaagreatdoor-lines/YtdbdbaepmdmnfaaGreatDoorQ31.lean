import Derived.Test.YtdbdbaepmdmnfaaGreatDoorQ30
import Derived.LaidEql
namespace Go.Proofs.YtdbdbaepmdmnfaaGreatDoor
open Go.RowKit
theorem cf304 (args : Array Value) (w : World) : (callFunc 162 args).run Tryz.prog w = .ok (.enter 162 args) w := callFunc_in Tryz.func162 (by kernel_rfl) rfl args w
theorem cf462 (args : Array Value) (w : World) : (callFunc 280 args).run Tryz.prog w = .ok (.enter 280 args) w := callFunc_in Tryz.func280 (by kernel_rfl) rfl args w
theorem cf236 (args : Array Value) (w : World) : (callFunc 127 args).run Tryz.prog w = .ok (.enter 127 args) w := callFunc_in Tryz.func127 (by kernel_rfl) rfl args w
/-- A run under way: what was there when the program was ready stands; the machine's three blocks are younger. -/
structure Under (wN wS W : World) (m ab vb sb : Nat) (txt : ByteArray) (size n : Nat) (sv : Value) (cs : List Value) : Prop where
  hm : wN.heap.size ≤ m
  hv : wN.heap.size ≤ vb
  hs : wN.heap.size ≤ sb
  nmv : m ≠ vb
  nms : m ≠ sb
  nvs : vb ≠ sb
  hM : ∃ po pn pc, MAt W m ab vb txt (.slice po pn pc) (.slice (some ⟨sb, 0, none⟩) 1 1) size n 0
  hV : VAt W vb cs
  hS : W.heap[sb]? = some (.cells #[.string ⟨#[]⟩, sv] 142 (0, 0))
  hO : Only (fun _ => False) wN W
  hT : Only (fun k => k = m ∨ k = vb ∨ k = sb) wS W
theorem Under.calm {wN wS W W' m ab vb sb txt size n sv cs} (h : Under wN wS W m ab vb sb txt size n sv cs) (ho : Only (fun _ => False) W W') : Under wN wS W' m ab vb sb txt size n sv cs := by
  obtain ⟨po, pn, pc, hM⟩ := h.hM
  exact ⟨h.hm, h.hv, h.hs, h.nmv, h.nms, h.nvs, ⟨po, pn, pc, hM.only ho (fun e => e)⟩, h.hV.only ho (fun e => e), (ho.block sb (heap_lt h.hS) (fun e => e)).trans h.hS, h.hO.trans ho (fun _ _ e => e), h.hT.trans ho (fun _ _ e => e.elim)⟩
theorem Under.step {wN wS W m ab vb sb txt size n sv cs} (h : Under wN wS W m ab vb sb txt size (n + 1) sv cs) : Under wN wS (W.setCell ⟨m, 7, none⟩ (.int .i64 n)) m ab vb sb txt size n sv cs := by
  obtain ⟨po, pn, pc, hM⟩ := h.hM
  have ho : Only (fun k => k = m) W (W.setCell ⟨m, 7, none⟩ (.int .i64 n)) := (Only.refl (fun k => k = m) W).setCell (p := ⟨m, 7, none⟩) (fun _ => rfl) _
  have hm := h.hm
  exact ⟨h.hm, h.hv, h.hs, h.nmv, h.nms, h.nvs, ⟨po, pn, pc, hM.setFuel n⟩, h.hV.only ho (fun e => h.nmv e.symm), (ho.block sb (heap_lt h.hS) (fun e => h.nms e.symm)).trans h.hS, h.hO.trans ho (fun q hq e => by omega), h.hT.trans ho (fun _ _ e => Or.inl e)⟩
/-- The variables are those that a run begins with, but for the first two. -/
def Vs (cs : List Value) : Prop := (∃ x3 x4 x5, cs[3]? = some x3 ∧ cs[4]? = some x4 ∧ cs[5]? = some x5) ∧ cs[6]? = some (.int .i64 2) ∧ cs[7]? = some (.int .i64 0) ∧ cs[8]? = some (.string ⟨#[32]⟩) ∧ cs[12]? = some (.int .i64 2) ∧ cs[13]? = some (.int .i64 0) ∧ cs[14]? = some (.string ⟨#[10]⟩)
theorem Vs.set345 {cs : List Value} (h : Vs cs) (a b c : Value) : Vs (((cs.set 3 a).set 4 b).set 5 c) := by
  obtain ⟨⟨x3, x4, x5, h3, h4, h5⟩, f0, f1, f2, g0, g1, g2⟩ := h
  have l3 := (List.getElem?_eq_some_iff.1 h3).1
  have l4 := (List.getElem?_eq_some_iff.1 h4).1
  have l5 := (List.getElem?_eq_some_iff.1 h5).1
  refine ⟨⟨a, b, c, ?_, ?_, ?_⟩, setNe (setNe (setNe f0 (by decide)) (by decide)) (by decide), setNe (setNe (setNe f1 (by decide)) (by decide)) (by decide), setNe (setNe (setNe f2 (by decide)) (by decide)) (by decide), setNe (setNe (setNe g0 (by decide)) (by decide)) (by decide), setNe (setNe (setNe g1 (by decide)) (by decide)) (by decide), setNe (setNe (setNe g2 (by decide)) (by decide)) (by decide)⟩
  · rw [List.getElem?_set_ne (by decide), List.getElem?_set_ne (by decide), List.getElem?_set_self (by simpa using l3)]
  · rw [List.getElem?_set_ne (by decide), List.getElem?_set_self (by simpa using l4)]
  · rw [List.getElem?_set_self (by simpa using l5)]
end Go.Proofs.YtdbdbaepmdmnfaaGreatDoor
namespace Go.Proofs.YtdbdbaepmdmnfaaGreatDoor
open Go.RowKit
end Go.Proofs.YtdbdbaepmdmnfaaGreatDoor
namespace Go.Proofs.YtdbdbaepmdmnfaaGreatDoor
open Go.RowKit
end Go.Proofs.YtdbdbaepmdmnfaaGreatDoor
namespace Go.Proofs.YtdbdbaepmdmnfaaGreatDoor
open Go.RowKit
/-- The eight errors of package fault are there. -/
def Sent (w : World) : Prop := ∀ k, k ≤ 7 → ∃ a, w.cell? ⟨k, 0, none⟩ = some (.iface 558 (.pointer (some a)))
theorem Sent.only {w w' : World} (h : Sent w) (ho : Only (fun _ => False) w w') : Sent w' := fun k hk => by
  obtain ⟨a, ha⟩ := h k hk
  exact ⟨a, (ho.cell (p := ⟨k, 0, none⟩) (World.block_lt_of_cell? w _ ha) (fun e => e)).trans ha⟩
set_option maxRecDepth 100000 in
set_option maxHeartbeats 1000000 in
theorem is_nilA (b : Addr) (w : World) :
    Calls Tryz.prog 68 #[.nilIface, .iface 558 (.pointer (some b))] w fun e w' => e = .returned (.bool false) ∧ w' = w := by
  have hn := run_eql_iface_nil_left (P := Tryz.prog) w 558 (.pointer (some b)) Tryz.underlying74
  go_enter Tryz.func68, Tryz.ntmps68
  go_wp2
  go_ret
  exact ⟨rfl, rfl⟩
set_option maxRecDepth 100000 in
set_option maxHeartbeats 4000000 in
theorem errno_nil (w : World) (h : Sent w) : Calls Tryz.prog 43 #[.nilIface] w fun e w' => e = .returned (.int .i64 0) ∧ w' = w := by
  obtain ⟨b0, c0⟩ := h 0 (by decide)
  obtain ⟨b1, c1⟩ := h 1 (by decide)
  obtain ⟨b2, c2⟩ := h 2 (by decide)
  obtain ⟨b3, c3⟩ := h 3 (by decide)
  obtain ⟨b4, c4⟩ := h 4 (by decide)
  obtain ⟨b5, c5⟩ := h 5 (by decide)
  obtain ⟨b6, c6⟩ := h 6 (by decide)
  obtain ⟨b7, c7⟩ := h 7 (by decide)
  clear h
  have HN := hide is_nilA
  go_enter Tryz.func43, Tryz.ntmps43
  go_wp2_with (go_at_call 68; refine (HN.out _ _).mono ?_; rintro en w' ⟨rfl, h3⟩; subst w')
  go_ret
  exact ⟨rfl, rfl⟩
set_option maxRecDepth 100000 in
theorem mk49 (w : World) : (Instr.makeSlice 36 (.int .i64 1) (.int .i64 1)).run Tryz.prog w = .ok (.slice (some ⟨w.heap.size, 0, none⟩) 1 1) (w.alloc (.cells #[.string ⟨#[]⟩, .string ⟨#[]⟩] 41)) := by kernel_rfl
end Go.Proofs.YtdbdbaepmdmnfaaGreatDoor
