import Derived.Test.YtdbdbaepmdmnfaaGreatDoorZ20
namespace Go.Proofs.YtdbdbaepmdmnfaaGreatDoor
open Go.RowKit
/-- A machine: its block, and what lies in it. -/
def MAt (w : World) (m ab vb : Nat) (txt : ByteArray) (flds lst : Value) (size fuel code : Nat) : Prop :=
  w.heap[m]? = some (.cells #[.pointer (some ⟨ab, 0, none⟩), .slice (some ⟨vb, 0, none⟩) 7 7, .string txt, flds, .slice none 0 0, lst, .int .i64 size, .int .i64 fuel, .int .i64 code] 200 (0, 0))
/-- The seven variables: kind, number, text each. -/
def VAt (w : World) (vb : Nat) (cs : List Value) : Prop := w.heap[vb]? = some (.cells cs.toArray 203 (0, 0))
theorem heapD {w : World} {k : Nat} {o : Option Obj} (h : w.heap[k]? = o) : w.drew.heap[k]? = o := h
/-- A machine under way: the places are known. -/
structure Mk (w wc : World) (m ab vb sb fuel : Nat) (cs : List Value) : Prop where
  k1 : w.heap.size ≤ m
  k2 : w.heap.size ≤ vb
  k3 : w.heap.size ≤ sb
  hM : MAt wc m ab vb ⟨#[]⟩ (.slice none 0 0) (.slice (some ⟨sb, 0, none⟩) 1 1) 0 fuel 0
  hV : VAt wc vb cs
  hS : wc.heap[sb]? = some (.cells #[.string ⟨#[]⟩, .slice none 0 0] 142 (0, 0))
  hO : Only (fun _ => False) w wc
theorem Mk.ne {w wc m ab vb sb fuel cs} (h : Mk w wc m ab vb sb fuel cs) : m ≠ vb := fun e => by have h1 := h.hM; have h2 := h.hV; unfold MAt at h1; unfold VAt at h2; rw [e, h2] at h1; cases h1
theorem Mk.ne2 {w wc m ab vb sb fuel cs} (h : Mk w wc m ab vb sb fuel cs) : sb ≠ vb := fun e => by have h1 := h.hS; have h2 := h.hV; unfold VAt at h2; rw [e, h2] at h1; cases h1
theorem Mk.step {w wc m ab vb sb fuel cs} (h : Mk w wc m ab vb sb fuel cs) (o p q : Nat) (a b c : Value) (ob : Obj) : Mk w ((((wc.setCell ⟨vb, o, none⟩ a).setCell ⟨vb, p, none⟩ b).setCell ⟨vb, q, none⟩ c).alloc ob).drew m ab vb sb fuel (((cs.set o a).set p b).set q c) := by
  have hk := h.k2
  have hb : (((wc.setCell ⟨vb, o, none⟩ a).setCell ⟨vb, p, none⟩ b).setCell ⟨vb, q, none⟩ c).heap[vb]? = some (.cells (((cs.set o a).set p b).set q c).toArray 203 (0, 0)) := by
    have := heap_setCell_same (o := q) (heap_setCell_same (o := p) (heap_setCell_same (o := o) h.hV a) b) c
    simpa using this
  have hm : ∀ k, k ≠ vb → (((wc.setCell ⟨vb, o, none⟩ a).setCell ⟨vb, p, none⟩ b).setCell ⟨vb, q, none⟩ c).heap[k]? = wc.heap[k]? := fun k hk => (Below.heap_setCell _ _ _ _ hk).trans ((Below.heap_setCell _ _ _ _ hk).trans (Below.heap_setCell _ _ _ _ hk))
  have hl : ∀ k, k ≠ vb → ∀ x, wc.heap[k]? = some x → (((((wc.setCell ⟨vb, o, none⟩ a).setCell ⟨vb, p, none⟩ b).setCell ⟨vb, q, none⟩ c).alloc ob).drew).heap[k]? = some x := fun k hk x hx => heapD ((Below.heap_alloc _ _ _ (heap_lt ((hm k hk).trans hx))).trans ((hm k hk).trans hx))
  exact ⟨h.k1, h.k2, h.k3, hl m h.ne _ h.hM, heapD ((Below.heap_alloc _ _ _ (heap_lt hb)).trans hb), hl sb h.ne2 _ h.hS, toDrew ((((h.hO.setCell (p := ⟨vb, o, none⟩) (fun e => absurd e (by show ¬ vb < w.heap.size; omega)) _).setCell (p := ⟨vb, p, none⟩) (fun e => absurd e (by show ¬ vb < w.heap.size; omega)) _).setCell (p := ⟨vb, q, none⟩) (fun e => absurd e (by show ¬ vb < w.heap.size; omega)) _).alloc _)⟩
end Go.Proofs.YtdbdbaepmdmnfaaGreatDoor

