import Derived.Test.YtdbdbaepmdmnfaaGreatDoorQ33
import Derived.Test.YtdbdbaepmdmnfaaGreatDoorQ32
import Derived.Recover
namespace Go.Proofs.YtdbdbaepmdmnfaaGreatDoor
open Go.RowKit
theorem ta_early (v : Value) (w : World) : (Instr.typeAssert (.iface 207 v) 20 207 true).run Tryz.prog w = .ok (.tuple #[v, .bool true]) w := by kernel_rfl
set_option maxRecDepth 20000 in
set_option maxHeartbeats 1000000 in
theorem caught_threw (x : Addr) (mc rc m ab vb : Nat) (txt : ByteArray) (flds lst : Value) (size n code : Nat) (w : World) (hM : MAt w m ab vb txt flds lst size n code) (h0 : w.cell? ⟨mc, 0, none⟩ = some (.pointer (some ⟨m, 0, none⟩))) (h1 : w.heap[rc]? = some (.cells #[.nilIface] 74 (0, 0))) (hne : rc ≠ m) :
    CallsD Tryz.prog 97 #[.pointer (some ⟨mc, 0, none⟩), .pointer (some ⟨rc, 0, none⟩)] (.panicking [{ v := thrown x, recovered := false }]) w fun e u' w' => e = .returned (.tuple #[]) ∧ u' = .panicking [{ v := thrown x, recovered := true }] ∧ w'.heap[rc]? = some (.cells #[.iface 558 (.pointer (some x))] 74 (0, 0)) ∧ MAt w' m ab vb txt flds lst size n code ∧ Only (fun k => k = rc ∨ k = m) w w' := by
  have hta := ta_early
  have c4 : w.cell? ⟨m, 4, none⟩ = some (.slice none 0 0) := cell_of hM rfl
  have cf := free_of hM
  have rcell : w.cell? ⟨rc, 0, none⟩ = some .nilIface := cell_of h1 rfl
  have rf := free_of h1
  have lmc : mc < w.heap.size := World.block_lt_of_cell? w ⟨mc, 0, none⟩ h0
  have lm := heap_lt hM
  have lrc := heap_lt h1
  have HM := hide hM
  have H1 := hide h1
  clear hM h1
  refine callsD_of_wpS Tryz.func97 rfl fun c₀ cs hu => ?_
  apply wpS_seq
  apply wpS_region
  simp [wpOpsS, go_sem, recoverD, hu, Tryz.ntmps97, Exit.thenS]
  rw [show (#[Value.pointer (some ⟨mc, 0, none⟩), Value.pointer (some ⟨rc, 0, none⟩)] ++ (Array.replicate 14 undef).setIfInBounds 3 (thrown x)) = #[Value.pointer (some ⟨mc, 0, none⟩), Value.pointer (some ⟨rc, 0, none⟩), undef, undef, undef, thrown x, undef, undef, undef, undef, undef, undef, undef, undef, undef, undef] from rfl]
  have hT : thrown x = .iface 207 (.agg #[.iface 558 (.pointer (some x))]) := rfl
  rw [hT]
  refine wpS_of_wp ?_
  go_wp2
  have G1 : (((w.setCell ⟨m, 4, none⟩ (.slice none 0 0)).setCell ⟨rc, 0, none⟩ (.iface 558 (.pointer (some x)))).alloc (.cells #[.iface 558 (.pointer (some x))] 207)).heap[rc]? = some (.cells #[.iface 558 (.pointer (some x))] 74 (0, 0)) :=
    (Below.heap_alloc _ _ _ (by simpa using lrc)).trans (heap_setCell_same ((Below.heap_setCell _ _ _ _ hne).trans H1.out) _)
  have G2 : MAt (((w.setCell ⟨m, 4, none⟩ (.slice none 0 0)).setCell ⟨rc, 0, none⟩ (.iface 558 (.pointer (some x)))).alloc (.cells #[.iface 558 (.pointer (some x))] 207)) m ab vb txt flds lst size n code :=
    (Below.heap_alloc _ _ _ (by simpa using lm)).trans ((Below.heap_setCell _ _ _ _ (Ne.symm hne)).trans (heap_setCell_same HM.out _))
  have G3 : Only (fun k => k = rc ∨ k = m) w (((w.setCell ⟨m, 4, none⟩ (.slice none 0 0)).setCell ⟨rc, 0, none⟩ (.iface 558 (.pointer (some x)))).alloc (.cells #[.iface 558 (.pointer (some x))] 207)) :=
    (((Only.refl (fun k => k = rc ∨ k = m) w).setCell (p := ⟨m, 4, none⟩) (fun _ => Or.inr rfl) _).setCell (p := ⟨rc, 0, none⟩) (fun _ => Or.inl rfl) _).alloc _
  generalize (((w.setCell ⟨m, 4, none⟩ (.slice none 0 0)).setCell ⟨rc, 0, none⟩ (.iface 558 (.pointer (some x)))).alloc (.cells #[.iface 558 (.pointer (some x))] 207)) = w9 at *
  simp only [bodyPostS]
  exact ⟨trivial, _, rfl, .tuple #[], by simp [results, Tryz.results97], rfl, rfl, G1, G2, G3⟩
set_option maxRecDepth 20000 in
set_option maxHeartbeats 4000000 in
/-- A part of a run, tried: it comes to its end, or it gives up. -/
theorem attempt_any (m F : Nat) (hcf : ∀ (args : Array Value) (w : World), (callFunc F args).run Tryz.prog w = .ok (.enter F args) w) (caps : Array Value) (D : Nat → Prop) (Q R : World → Prop) (x : Addr) (w : World) (hD : ∀ k, D k → k < w.heap.size)
    (h1 : ∀ W, Only (fun _ => False) w W → Calls Tryz.prog F caps W fun en w' => (en = .returned (.tuple #[]) ∧ Q w' ∧ Only D W w') ∨ (Threw x en ∧ R w' ∧ (∃ ab vb txt flds lst size n code, MAt w' m ab vb txt flds lst size n code) ∧ Only D W w')) :
    Calls Tryz.prog 61 #[.pointer (some ⟨m, 0, none⟩), .func (.func F) #[] caps] w fun en w' =>
      (en = .returned .nilIface ∧ (∃ w1, Q w1 ∧ w1.heap[w.heap.size + 1]? = some (.cells #[.nilIface] 74 (0, 0)) ∧ Only (fun k => k = w.heap.size + 1) w1 w') ∧ Only D w w') ∨
      (en = .returned (.iface 558 (.pointer (some x))) ∧ (∃ w1, R w1 ∧ w1.heap[w.heap.size + 1]? = some (.cells #[.nilIface] 74 (0, 0)) ∧ (∀ ab vb txt flds lst size n code, MAt w1 m ab vb txt flds lst size n code → MAt w' m ab vb txt flds lst size n code) ∧ Only (fun k => k = w.heap.size + 1 ∨ k = m) w1 w') ∧ Only (fun k => D k ∨ k = m) w w') := by
  have hmf : ∀ (fn : Fn) (first cap : Array Value) (w : World), (Instr.makeFunc fn first cap).run Tryz.prog w = .ok (.func fn first cap) w := fun _ _ _ _ => rfl
  have H1 := hide (h1 ((w.alloc (.cells #[.pointer (some ⟨m, 0, none⟩)] 130)).alloc (.cells #[.nilIface] 74)) ((onlyA w _).alloc _))
  have HD := hide hD
  have HN0 : Hid (((w.alloc (.cells #[.pointer (some ⟨m, 0, none⟩)] 130)).alloc (.cells #[.nilIface] 74)).heap[w.heap.size]? = some (.cells #[.pointer (some ⟨m, 0, none⟩)] 130 (0, 0))) := hide ((Below.heap_alloc _ _ _ (by simp)).trans (new0 w _))
  clear h1 hD
  go_enter_defers Tryz.func61, Tryz.ntmps61
  go_wp2_with fail
  refine (H1.out).mono ?_
  rintro en w1 (⟨rfl, hQ, ho⟩ | ⟨rfl, hR, ⟨ab, vb, txt, flds, lst, size, n, code, hM⟩, ho⟩)
  · have hb := (ho.block (w.heap.size + 1) (by simp) (fun e => by have := HD.out _ e; omega)).trans (new_at2 (W := w.alloc (.cells #[.pointer (some ⟨m, 0, none⟩)] 130)) (by simp) (.cells #[.nilIface] 74))
    have c0 : w1.cell? ⟨w.heap.size + 1, 0, none⟩ = some .nilIface := cell_of hb rfl
    have cf := free_of hb
    have HQ := hide hQ
    have HBb := hide hb
    have HO := hide (fromAlloc (fromAlloc ho))
    clear hQ ho hb H1
    go_wp2
    refine leaves_cons (f := 97) (args := #[.pointer (some ⟨w.heap.size, 0, none⟩), .pointer (some ⟨w.heap.size + 1, 0, none⟩)]) (by simp) (by simp [go_sem]) ?_
    refine (caught_idle _ _ _).mono ?_
    rintro e u' w'' ⟨rfl, rfl, rfl⟩
    refine ⟨.nilIface, ?_, Or.inl ⟨rfl, ⟨w1, HQ.out, HBb.out, (Only.refl (fun k => k = w.heap.size + 1) w1).setCell (p := ⟨w.heap.size + 1, 0, none⟩) (fun _ => rfl) _⟩, HO.out.setCell (p := ⟨w.heap.size + 1, 0, none⟩) (fun h => absurd h (by show ¬ w.heap.size + 1 < w.heap.size; omega)) _⟩⟩
    simp [results, Tryz.results61, go_sem, c0]
  · have hb := (ho.block (w.heap.size + 1) (by simp) (fun e => by have := HD.out _ e; omega)).trans (new_at2 (W := w.alloc (.cells #[.pointer (some ⟨m, 0, none⟩)] 130)) (by simp) (.cells #[.nilIface] 74))
    have ha := (ho.block w.heap.size (by simp <;> omega) (fun e => by have := HD.out _ e; omega)).trans HN0.out
    have hne : w.heap.size + 1 ≠ m := fun e => by unfold MAt at hM; rw [← e, hb] at hM; cases hM
    have HCt := hide (caught_threw x w.heap.size (w.heap.size + 1) m ab vb txt flds lst size n code w1 hM (cell_of ha rfl) hb hne)
    have HR := hide hR
    have HBb := hide hb
    have HMm := hide hM
    have HO := hide (fromAlloc (fromAlloc ho))
    clear hR ho hb H1 ha hM
    go_wp2
    refine leaves_cons (f := 97) (args := #[.pointer (some ⟨w.heap.size, 0, none⟩), .pointer (some ⟨w.heap.size + 1, 0, none⟩)]) (by simp) (by simp [go_sem]) ?_
    refine (HCt.out).mono ?_
    rintro e u' w'' ⟨rfl, rfl, hr2, hm2, ho2⟩
    have c0 : w''.cell? ⟨w.heap.size + 1, 0, none⟩ = some (.iface 558 (.pointer (some x))) := cell_of hr2 rfl
    have HFin := hide (show (∃ w1, R w1 ∧ w1.heap[w.heap.size + 1]? = some (.cells #[.nilIface] 74 (0, 0)) ∧ (∀ ab vb txt flds lst size n code, MAt w1 m ab vb txt flds lst size n code → MAt w'' m ab vb txt flds lst size n code) ∧ Only (fun k => k = w.heap.size + 1 ∨ k = m) w1 w'') ∧ Only (fun k => D k ∨ k = m) w w'' from
      ⟨⟨w1, HR.out, HBb.out, fun _ _ _ _ _ _ _ _ h => (Eq.trans hm2 (Eq.symm HMm.out)).trans h, ho2⟩, (HO.out.mono (E := fun k => D k ∨ k = m) (fun _ _ e => Or.inl e)).trans ho2 (fun q hq e => e.elim (fun e => by omega) Or.inr)⟩)
    clear hr2 hm2 ho2
    simp [Leaves, settle, results, Tryz.results61, go_sem, c0]
    exact HFin.out
end Go.Proofs.YtdbdbaepmdmnfaaGreatDoor
