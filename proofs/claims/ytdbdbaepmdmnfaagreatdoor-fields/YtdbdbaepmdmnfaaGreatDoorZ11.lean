import Derived.Test.YtdbdbaepmdmnfaaGreatDoorZ10
namespace Go.Proofs.YtdbdbaepmdmnfaaGreatDoor
open Go.RowKit
/-- A machine: its block, and what lies in it. -/
def MAt (w : World) (m ab vb : Nat) (txt : ByteArray) (flds lst : Value) (size fuel code : Nat) : Prop :=
  w.heap[m]? = some (.cells #[.pointer (some ⟨ab, 0, none⟩), .slice (some ⟨vb, 0, none⟩) 7 7, .string txt, flds, .slice none 0 0, lst, .int .i64 size, .int .i64 fuel, .int .i64 code] 200 (0, 0))
/-- The seven variables: kind, number, text each. -/
def VAt (w : World) (vb : Nat) (cs : List Value) : Prop := w.heap[vb]? = some (.cells cs.toArray 203 (0, 0))
theorem heapD {w : World} {k : Nat} {o : Option Obj} (h : w.heap[k]? = o) : w.drew.heap[k]? = o := h
/-- A machine under way: the places are known. -/
structure Mk (w wc : World) (m ab vb sb fuel : Nat) (cs : List Value) : Prop where
  k1 : w.heap.size ≤ m
  k2 : w.heap.size ≤ vb
  k3 : w.heap.size ≤ sb
  hM : MAt wc m ab vb ⟨#[]⟩ (.slice none 0 0) (.slice (some ⟨sb, 0, none⟩) 1 1) 0 fuel 0
  hV : VAt wc vb cs
  hS : wc.heap[sb]? = some (.cells #[.string ⟨#[]⟩, .slice none 0 0] 142 (0, 0))
  hO : Only (fun _ => False) w wc
theorem Mk.ne {w wc m ab vb sb fuel cs} (h : Mk w wc m ab vb sb fuel cs) : m ≠ vb := fun e => by have h1 := h.hM; have h2 := h.hV; unfold MAt at h1; unfold VAt at h2; rw [e, h2] at h1; cases h1
theorem Mk.ne2 {w wc m ab vb sb fuel cs} (h : Mk w wc m ab vb sb fuel cs) : sb ≠ vb := fun e => by have h1 := h.hS; have h2 := h.hV; unfold VAt at h2; rw [e, h2] at h1; cases h1
theorem Mk.step {w wc m ab vb sb fuel cs} (h : Mk w wc m ab vb sb fuel cs) (o p q : Nat) (a b c : Value) (ob : Obj) : Mk w ((((wc.setCell ⟨vb, o, none⟩ a).setCell ⟨vb, p, none⟩ b).setCell ⟨vb, q, none⟩ c).alloc ob).drew m ab vb sb fuel (((cs.set o a).set p b).set q c) := by
  have hk := h.k2
  have hb : (((wc.setCell ⟨vb, o, none⟩ a).setCell ⟨vb, p, none⟩ b).setCell ⟨vb, q, none⟩ c).heap[vb]? = some (.cells (((cs.set o a).set p b).set q c).toArray 203 (0, 0)) := by
    have := heap_setCell_same (o := q) (heap_setCell_same (o := p) (heap_setCell_same (o := o) h.hV a) b) c
    simpa using this
  have hm : ∀ k, k ≠ vb → (((wc.setCell ⟨vb, o, none⟩ a).setCell ⟨vb, p, none⟩ b).setCell ⟨vb, q, none⟩ c).heap[k]? = wc.heap[k]? := fun k hk => (Below.heap_setCell _ _ _ _ hk).trans ((Below.heap_setCell _ _ _ _ hk).trans (Below.heap_setCell _ _ _ _ hk))
  have hl : ∀ k, k ≠ vb → ∀ x, wc.heap[k]? = some x → (((((wc.setCell ⟨vb, o, none⟩ a).setCell ⟨vb, p, none⟩ b).setCell ⟨vb, q, none⟩ c).alloc ob).drew).heap[k]? = some x := fun k hk x hx => heapD ((Below.heap_alloc _ _ _ (heap_lt ((hm k hk).trans hx))).trans ((hm k hk).trans hx))
  exact ⟨h.k1, h.k2, h.k3, hl m h.ne _ h.hM, heapD ((Below.heap_alloc _ _ _ (heap_lt hb)).trans hb), hl sb h.ne2 _ h.hS, toDrew ((((h.hO.setCell (p := ⟨vb, o, none⟩) (fun e => absurd e (by show ¬ vb < w.heap.size; omega)) _).setCell (p := ⟨vb, p, none⟩) (fun e => absurd e (by show ¬ vb < w.heap.size; omega)) _).setCell (p := ⟨vb, q, none⟩) (fun e => absurd e (by show ¬ vb < w.heap.size; omega)) _).alloc _)⟩
end Go.Proofs.YtdbdbaepmdmnfaaGreatDoor

namespace Go.Proofs.YtdbdbaepmdmnfaaGreatDoor
open Go.RowKit
set_option maxHeartbeats 1000000 in
theorem caught_idle (a b : Addr) (w : World) :
    CallsD Tryz.prog 97 #[.pointer (some a), .pointer (some b)] .returning w fun e u' w' => e = .returned (.tuple #[]) ∧ u' = .returning ∧ w' = w := by
  refine callsD_of_wpS Tryz.func97 rfl fun c₀ cs hu => ?_
  apply wpS_seq
  apply wpS_region
  simp [wpOpsS, go_sem, recoverD, hu, Tryz.ntmps97, Exit.thenS]
  refine wpS_of_wp ?_
  go_wp2
  cases c₀
  simp_all [bodyPostS, results, Tryz.results97]
set_option maxRecDepth 20000 in
set_option maxHeartbeats 4000000 in
theorem attempt_ok (m F : Nat) (hcf : ∀ (args : Array Value) (w : World), (callFunc F args).run Tryz.prog w = .ok (.enter F args) w) (caps : Array Value) (D : Nat → Prop) (Q : World → Prop) (w : World) (hD : ∀ k, D k → k < w.heap.size)
    (h1 : ∀ W, Only (fun _ => False) w W → Calls Tryz.prog F caps W fun en w' => en = .returned (.tuple #[]) ∧ Q w' ∧ Only D W w') :
    Calls Tryz.prog 61 #[.pointer (some ⟨m, 0, none⟩), .func (.func F) #[] caps] w fun en w' => en = .returned .nilIface ∧ (∃ w1, Q w1 ∧ Only (fun k => k = w.heap.size + 1) w1 w') ∧ Only D w w' := by
  have hmf : ∀ (fn : Fn) (first cap : Array Value) (w : World), (Instr.makeFunc fn first cap).run Tryz.prog w = .ok (.func fn first cap) w := fun _ _ _ _ => rfl
  have H1 := hide (h1 ((w.alloc (.cells #[.pointer (some ⟨m, 0, none⟩)] 130)).alloc (.cells #[.nilIface] 74)) ((onlyA w _).alloc _))
  have HD := hide hD
  clear h1 hD
  go_enter_defers Tryz.func61, Tryz.ntmps61
  go_wp2_with fail
  refine (H1.out).mono ?_
  rintro en w1 ⟨rfl, hQ, ho⟩
  have hb := (ho.block (w.heap.size + 1) (by simp) (fun e => by have := HD.out _ e; omega)).trans (new_at2 (W := w.alloc (.cells #[.pointer (some ⟨m, 0, none⟩)] 130)) (by simp) (.cells #[.nilIface] 74))
  have c0 : w1.cell? ⟨w.heap.size + 1, 0, none⟩ = some .nilIface := cell_of hb rfl
  have cf := free_of hb
  have HQ := hide hQ
  have HO := hide (fromAlloc (fromAlloc ho))
  clear hQ ho hb H1
  go_wp2
  refine leaves_cons (f := 97) (args := #[.pointer (some ⟨w.heap.size, 0, none⟩), .pointer (some ⟨w.heap.size + 1, 0, none⟩)]) (by simp) (by simp [go_sem]) ?_
  refine (caught_idle _ _ _).mono ?_
  rintro e u' w'' ⟨rfl, rfl, rfl⟩
  refine ⟨.nilIface, ?_, rfl, ⟨w1, HQ.out, (Only.refl (fun k => k = w.heap.size + 1) w1).setCell (p := ⟨w.heap.size + 1, 0, none⟩) (fun _ => rfl) _⟩, HO.out.setCell (p := ⟨w.heap.size + 1, 0, none⟩) (fun h => absurd h (by show ¬ w.heap.size + 1 < w.heap.size; omega)) _⟩
  simp [results, Tryz.results61, go_sem, c0]
set_option maxRecDepth 20000 in
set_option maxHeartbeats 1000000 in
theorem doAll_nil (p : Option Addr) (w : World) : Calls Tryz.prog 63 #[.pointer p, .slice none 0 0] w fun en w' => en = .returned (.tuple #[]) ∧ w' = w := by
  go_enter Tryz.func63, Tryz.ntmps63
  go_wp2
  go_loop [8] (fun s => s = .int .i64 0) (fun _ => 0)
  case atStart => exact rfl
  case round =>
    subst hrel
    go_wp2
    go_end0
    exact ⟨rfl, rfl⟩
end Go.Proofs.YtdbdbaepmdmnfaaGreatDoor

