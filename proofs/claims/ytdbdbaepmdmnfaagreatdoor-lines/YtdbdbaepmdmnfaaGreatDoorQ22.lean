import Derived.Test.YtdbdbaepmdmnfaaGreatDoorQ08
import Derived.Test.YtdbdbaepmdmnfaaGreatDoorQ01
import Derived.Test.YtdbdbaepmdmnfaaGreatDoorProg
import Derived.Deep.RegionLaw
import Derived.Deep.AppendLies
import Derived.Deep.LoopGhost
import Derived.Shelf.Bits.Mul64
import Derived.Laws.CopyOwn
import Derived.Laws.OwnMore
import Derived.Deep.OwnRows
namespace Go.Proofs.YtdbdbaepmdmnfaaGreatDoor
open Go.RowKit
def ints (l : List Nat) : List Value := l.map (fun n : Nat => Value.int .i64 (n : Int))
def zints (l : List Int) : List Value := l.map (fun z : Int => Value.int .i64 z)
def thr (l : List (Nat × Nat)) : List Value := l.flatMap (fun x => [Value.int .i64 x.1, Value.int .i64 x.2])
/-- A place's length, of the last end of a match that begins there. -/
def lenV (p : Nat) (best : Option Nat) : Int := match best with | none => -1 | some B => (B : Int) - p
/-- A search lies in block sb; rv: what each state was reached at last; stk: its stack; the lengths are ls, but at place p that of best. -/
structure Srch (w : World) (sb rb lb bs : Nat) (vS : Value) (Q : List St) (ls : List Int) (p : Nat) (rv : List Nat) (vK : Value) (stk : List Nat) (best : Option Nat) : Prop where
  blk : w.heap[sb]? = some (.cells #[vS, .slice (some ⟨rb, 0, none⟩) Q.length Q.length, vK, .slice (some ⟨lb, 0, none⟩) ls.length ls.length] 176 (0, 0))
  rch : w.heap[rb]? = some (.cells (ints rv).toArray 3 (0, 0))
  lns : w.heap[lb]? = some (.cells (zints (ls.set p (lenV p best))).toArray 3 (0, 0))
  len : rv.length = Q.length
  pat : PatAt w vS Q
  own : w.ownsRow bs 3 1 vK stk.length (ints stk)
  rs : rb ≠ sb ∧ lb ≠ sb ∧ lb ≠ rb ∧ sb < bs ∧ rb < bs ∧ lb < bs
  ss : ∀ k, vS.ownBlock = some k → k ≠ sb ∧ k ≠ rb ∧ k ≠ lb ∧ k < bs
theorem Srch.only {w w' sb rb lb bs vS Q ls p rv vK stk best D} (h : Srch w sb rb lb bs vS Q ls p rv vK stk best) (ho : Only D w w') (h1 : ¬ D sb) (h2 : ¬ D rb) (h2' : ¬ D lb) (h3 : ∀ k, vS.ownBlock = some k → ¬ D k) (h4 : ∀ k, vK.ownBlock = some k → ¬ D k) : Srch w' sb rb lb bs vS Q ls p rv vK stk best := by
  obtain ⟨xs, hp1, hp2⟩ := h.pat
  exact ⟨(ho.block sb (heap_lt h.blk) h1).trans h.blk, (ho.block rb (heap_lt h.rch) h2).trans h.rch, (ho.block lb (heap_lt h.lns) h2').trans h.lns, h.len, ⟨xs, ownsRow_of hp1 (fun k hk => ho.block k (hp1.lt k hk).2 (h3 k hk)), hp2⟩, ownsRow_of h.own (fun k hk => ho.block k (h.own.lt k hk).2 (h4 k hk)), h.rs, h.ss⟩
theorem zints_set (l : List Int) (k : Nat) (x : Int) : zints (l.set k x) = (zints l).set k (.int .i64 x) := by simp [zints, List.map_set]
theorem zints_get (l : List Int) (k : Nat) (x : Int) (h : l[k]? = some x) : (zints l)[k]? = some (.int .i64 x) := by simp [zints, h]
/-- The place's length is noted. -/
theorem Srch.note {w sb rb lb bs vS Q ls p rv vK stk best} (h : Srch w sb rb lb bs vS Q ls p rv vK stk best) (b : Nat) : Srch (w.setCell ⟨lb, p, none⟩ (.int .i64 ((b : Int) - p))) sb rb lb bs vS Q ls p rv vK stk (some b) := by
  obtain ⟨xs, hp1, hp2⟩ := h.pat
  have hrs := h.rs
  refine ⟨(Below.heap_setCell _ _ _ _ (show sb ≠ lb by omega)).trans h.blk, (Below.heap_setCell _ _ _ _ (show rb ≠ lb by omega)).trans h.rch, ?_, h.len, ⟨xs, ownsRow_of hp1 (fun k hk => ?_), hp2⟩, ownsRow_of h.own (fun k hk => ?_), h.rs, h.ss⟩
  · have := heap_setCell_same (o := p) h.lns (.int .i64 ((b : Int) - p))
    rw [this]
    congr 2
    apply Array.ext'
    rw [Array.toList_setIfInBounds, ← zints_set, List.set_set]
    rfl
  · exact Below.heap_setCell _ _ _ _ (h.ss k hk).2.2.1
  · have := (h.own.lt k hk).1
    exact Below.heap_setCell _ _ _ _ (show k ≠ lb by omega)
/-- The search turns to another place. -/
theorem Srch.turn {w sb rb lb bs vS Q ls p rv vK stk best} (h : Srch w sb rb lb bs vS Q ls p rv vK stk best) (p' : Nat) (hp : (ls.set p (lenV p best))[p']? = some (-1)) : Srch w sb rb lb bs vS Q (ls.set p (lenV p best)) p' rv vK stk none := by
  refine ⟨?_, h.rch, ?_, h.len, h.pat, h.own, h.rs, h.ss⟩
  · rw [List.length_set]; exact h.blk
  · have hs : (ls.set p (lenV p best)).set p' (lenV p' none) = ls.set p (lenV p best) := by
      apply List.ext_getElem?
      intro k
      by_cases e : k = p'
      · subst e
        rw [List.getElem?_set_self (List.getElem?_eq_some_iff.1 hp).1, hp]; rfl
      · rw [List.getElem?_set_ne (fun h => e h.symm)]
    rw [hs]; exact h.lns
end Go.Proofs.YtdbdbaepmdmnfaaGreatDoor
namespace Go.Proofs.YtdbdbaepmdmnfaaGreatDoor
open Go.RowKit
theorem ints_len (l : List Nat) : (ints l).length = l.length := by simp [ints]
theorem ints_get (l : List Nat) (k x : Nat) (h : l[k]? = some x) : (ints l)[k]? = some (.int .i64 x) := by simp [ints, h]
theorem ints_append (l m : List Nat) : ints (l ++ m) = ints l ++ ints m := by simp [ints]
theorem ints_set (l : List Nat) (k x : Nat) : ints (l.set k x) = (ints l).set k (.int .i64 x) := by simp [ints, List.map_set]
theorem thr_append (l : List (Nat × Nat)) (q b : Nat) : thr (l ++ [(q, b)]) = thr l ++ [.int .i64 q, .int .i64 b] := by simp [thr]
/-- How many states were not reached at the place. -/
def unm (rv : List Nat) (x : Nat) : Nat := rv.countP (fun y => y != x)
theorem unm_le (rv : List Nat) (x : Nat) : unm rv x ≤ rv.length := List.countP_le_length
theorem unm_set {rv : List Nat} {q x y : Nat} (h : rv[q]? = some y) (hy : y ≠ x) : unm (rv.set q x) x + 1 = unm rv x := by
  unfold unm
  induction rv generalizing q with
  | nil => simp at h
  | cons a l ih =>
    cases q with
    | zero =>
      simp at h
      subst h
      simp [hy]
    | succ q =>
      simp at h
      have := ih h
      simp only [List.set_cons_succ, List.countP_cons]
      omega
/-- Where a row may lie behind a call: where it lay, or in a block that was not there. -/
def MovedB (w : World) (v v' : Value) : Prop := v'.ownBlock = v.ownBlock ∨ ∃ G, v'.ownBlock = some G ∧ w.heap.size ≤ G
theorem MovedB.refl (w : World) (v : Value) : MovedB w v v := Or.inl rfl
theorem MovedB.trans {w w1 : World} {u v x : Value} (h : MovedB w u v) (hs : w.heap.size ≤ w1.heap.size) (k : MovedB w1 v x) : MovedB w u x := by
  rcases k with k | ⟨G, k, k2⟩
  · rw [MovedB, k]; exact h
  · exact Or.inr ⟨G, k, Nat.le_trans hs k2⟩
theorem MovedB.old {w : World} {v v' : Value} (h : MovedB w v v') {k : Nat} (hk : v'.ownBlock = some k) (hl : k < w.heap.size) : some k = v.ownBlock := by
  rcases h with h | ⟨G, h, h2⟩
  · rw [← h, hk]
  · rw [h] at hk; cases hk; omega
theorem rows_apart {w : World} {B B' : Nat} {e e' : TypeId} {z z' : Nat} {v v' : Value} {n n' : Nat} {xs xs' : List Value} (h : w.ownsRow B e z v n xs) (h' : w.ownsRow B' e' z' v' n' xs') (hne : e ≠ e') : ∀ k, v.ownBlock = some k → v'.ownBlock ≠ some k := by
  intro k hk hk'
  rcases h.2 with ⟨rfl, _⟩ | ⟨g, cap, cur, rfl, _, h3, _⟩
  · cases hk
  · cases hk
    rcases h'.2 with ⟨rfl, _⟩ | ⟨g', cap', cur', rfl, _, h3', _⟩
    · cases hk'
    · cases hk'
      rw [h3] at h3'
      injection h3' with h4
      injection h4 with _ h5 _
      exact hne h5
theorem row_short {w : World} {B : Nat} {e : TypeId} {po : Option Addr} {n m cap : Nat} {l : List Nat} (h : w.ownsRow B e 1 (.slice po n cap) n (ints l)) (hm : m ≤ n) : w.ownsRow B e 1 (.slice po m cap) m (ints (l.take m)) := by
  have hl := h.1
  rw [ints_len] at hl
  refine ⟨by rw [ints_len, List.length_take]; omega, ?_⟩
  rcases h.2 with ⟨e1, e2⟩ | ⟨g, cap', cur, hv, h3, h4, h5, h6, h7, h8⟩
  · cases e1
    exact Or.inl ⟨by rw [show m = 0 by omega], by omega⟩
  · cases hv
    refine Or.inr ⟨g, cap, cur, rfl, h3, h4, by omega, h6, h7, ?_⟩
    have : (ints (l.take m)) = (ints l).take m := by simp [ints, List.map_take]
    rw [this, ← h8, List.take_take]
    congr 1
    omega
theorem Srch.alloc {w sb rb lb bs vS Q ls p rv vK stk best} (h : Srch w sb rb lb bs vS Q ls p rv vK stk best) (o : Obj) : Srch (w.alloc o) sb rb lb bs vS Q ls p rv vK stk best := h.only (D := fun _ => False) ((Only.refl _ w).alloc o) (fun e => e) (fun e => e) (fun e => e) (fun _ _ e => e) (fun _ _ e => e)
/-- The stack is turned. -/
theorem Srch.setStack {w w1 sb rb lb bs vS Q ls p rv vK stk best v' stk'} (h : Srch w sb rb lb bs vS Q ls p rv vK stk best) (hg : w.grownBy w1 vK.ownBlock) (ho : w1.ownsRow bs 3 1 v' stk'.length (ints stk')) : Srch (w1.setCell ⟨sb, 2, none⟩ v') sb rb lb bs vS Q ls p rv v' stk' best := by
  obtain ⟨xs, hp1, hp2⟩ := h.pat
  have hrs := h.rs
  have hK : ∀ k, k < bs → some k ≠ vK.ownBlock := fun k hk e => by have := (h.own.lt k e.symm).1; omega
  have hb : ∀ k, k < bs → k < w.heap.size → w1.heap[k]? = w.heap[k]? := fun k hk hl => hg.block k hl (hK k hk)
  have hb1 := (hb sb (by omega) (heap_lt h.blk)).trans h.blk
  refine ⟨heap_setCell_same hb1 v', ?_, ?_, h.len, ⟨xs, ownsRow_of hp1 (fun k hk => ?_), hp2⟩, ownsRow_of ho (fun k hk => ?_), h.rs, h.ss⟩
  · exact (Below.heap_setCell _ _ _ _ (show rb ≠ sb by omega)).trans ((hb rb (by omega) (heap_lt h.rch)).trans h.rch)
  · exact (Below.heap_setCell _ _ _ _ (show lb ≠ sb by omega)).trans ((hb lb (by omega) (heap_lt h.lns)).trans h.lns)
  · have := h.ss k hk
    exact (Below.heap_setCell _ _ _ _ (show k ≠ sb by omega)).trans (hb k (by omega) (hp1.lt k hk).2)
  · have := (ho.lt k hk).1
    exact Below.heap_setCell _ _ _ _ (show k ≠ sb by omega)
theorem grown_refl (w : World) (r : Option Nat) : w.grownBy w r := ⟨rfl, rfl, rfl, Nat.le_refl _, fun _ _ _ => rfl⟩
/-- A state is reached. -/
theorem Srch.reach {w sb rb lb bs vS Q ls p rv vK stk best} (h : Srch w sb rb lb bs vS Q ls p rv vK stk best) (q x : Nat) : Srch (w.setCell ⟨rb, q, none⟩ (.int .i64 x)) sb rb lb bs vS Q ls p (rv.set q x) vK stk best := by
  obtain ⟨xs, hp1, hp2⟩ := h.pat
  have hrs := h.rs
  refine ⟨(Below.heap_setCell _ _ _ _ (show sb ≠ rb by omega)).trans h.blk, ?_, (Below.heap_setCell _ _ _ _ (show lb ≠ rb by omega)).trans h.lns, by rw [List.length_set]; exact h.len, ⟨xs, ownsRow_of hp1 (fun k hk => ?_), hp2⟩, ownsRow_of h.own (fun k hk => ?_), h.rs, h.ss⟩
  · have := heap_setCell_same (o := q) h.rch (.int .i64 x)
    rw [this, ints_set]
    simp
  · exact Below.heap_setCell _ _ _ _ (h.ss k hk).2.1
  · have := (h.own.lt k hk).1
    exact Below.heap_setCell _ _ _ _ (show k ≠ rb by omega)
theorem Srch.rcell {w sb rb lb bs vS Q ls p rv vK stk best} {q x : Nat} (h : Srch w sb rb lb bs vS Q ls p rv vK stk best) (hq : rv[q]? = some x) : w.cell? ⟨rb, q, none⟩ = some (.int .i64 x) := cell_of h.rch (by rw [List.getElem?_toArray]; exact ints_get _ _ _ hq)
theorem Srch.scell {w sb rb lb bs vS Q ls p rv K n cap stk best} {k x : Nat} (h : Srch w sb rb lb bs vS Q ls p rv (.slice (some ⟨K, 0, none⟩) n cap) stk best) (hk : stk[k]? = some x) : w.cell? ⟨K, k, none⟩ = some (.int .i64 x) := by
  have := h.own.cells (g := K) rfl k _ (ints_get _ _ _ hk)
  unfold Addr.add at this
  split at this
  · rename_i h0; rw [h0]; exact this
  · simpa using this
theorem PatAt.cells {w G n cap Q k q} (h : PatAt w (.slice (some ⟨G, 0, none⟩) n cap) Q) (hk : Q[k]? = some q) : ∃ ys, SetIs ys q.set ∧ ∀ j u, (stCs q ys)[j]? = some u → w.cell? ⟨G, k * 7 + j, none⟩ = some u := by
  obtain ⟨xs, h2, h3⟩ := h
  obtain ⟨ys, h4, h5⟩ := h3 k q hk
  refine ⟨ys, h4, fun j u hj => ?_⟩
  rcases h2.2 with ⟨e, _⟩ | ⟨g, cap', cur, hv, _, h7, _, _, _, h8⟩
  · cases e
  · cases hv
    have h9 := h5 j u hj
    rw [← h8, List.getElem?_take] at h9
    split at h9
    · refine cell_of h7 ?_
      rw [← Array.getElem?_toList]; exact h9
    · cases h9
theorem PatAt.form {w v Q} (h : PatAt w v Q) (hQ : Q.length ≠ 0) : ∃ G cap, v = .slice (some ⟨G, 0, none⟩) Q.length cap := by
  obtain ⟨xs, h2, _⟩ := h
  rcases h2.2 with ⟨_, h0⟩ | ⟨g, cap, cur, hv, _⟩
  · exact absurd h0 hQ
  · exact ⟨g, cap, hv⟩
theorem own_form {w : World} {B : Nat} {e : TypeId} {z : Nat} {v : Value} {n : Nat} {xs : List Value} (h : w.ownsRow B e z v n xs) (hn : n ≠ 0) : ∃ G cap, v = .slice (some ⟨G, 0, none⟩) n cap := by
  rcases h.2 with ⟨_, h0⟩ | ⟨g, cap, cur, hv, _⟩
  · exact absurd h0 hn
  · exact ⟨g, cap, hv⟩
end Go.Proofs.YtdbdbaepmdmnfaaGreatDoor
namespace Go.Proofs.YtdbdbaepmdmnfaaGreatDoor
open Go.RowKit
theorem info3 : (Tryz.prog.info? 3).map (fun i => (i.zero, i.size, i.bytes)) = some (some (.int .i64 0), 1, 8) := by kernel_rfl
theorem info283 : (Tryz.prog.info? 248).map (fun i => (i.zero, i.size, i.bytes)) = some (some (.agg #[.int .i64 0, .int .i64 0]), 2, 16) := by kernel_rfl
def stkN (w : World) (sb : Nat) : Nat := match w.cell? ⟨sb, 2, none⟩ with | some (.slice _ n _) => n | _ => 0
def unmN (w : World) (rb n : Nat) (x : Int) : Nat := (List.range n).countP (fun k => match w.cell? ⟨rb, k, none⟩ with | some v => intOf v != x | none => false)
theorem Srch.stkN {w sb rb lb bs vS Q ls p rv vK stk best} (h : Srch w sb rb lb bs vS Q ls p rv vK stk best) : stkN w sb = stk.length := by
  obtain ⟨po, cap, rfl⟩ := ownsRow_slice h.own
  have : w.cell? ⟨sb, 2, none⟩ = some (.slice po stk.length cap) := cell_of h.blk rfl
  unfold YtdbdbaepmdmnfaaGreatDoor.stkN
  rw [this]
theorem Srch.unmN {w sb rb lb bs vS Q ls p rv vK stk best} (h : Srch w sb rb lb bs vS Q ls p rv vK stk best) (x : Nat) : unmN w rb Q.length ((x : Int)) = unm rv x := by
  have hr : rv = (List.range rv.length).map (fun k => rv.getD k 0) := by
    apply List.ext_getElem
    · simp
    · intro i h1 h2
      simp [h1]
  unfold YtdbdbaepmdmnfaaGreatDoor.unmN unm
  conv => rhs; rw [hr]
  rw [List.countP_map, h.len]
  apply List.countP_congr
  intro k hk
  have hk' : k < rv.length := by rw [h.len]; exact List.mem_range.1 hk
  have hq : rv[k]? = some rv[k] := List.getElem?_eq_getElem hk'
  rw [h.rcell hq]
  have e : rv.getD k 0 = rv[k] := by simp [hk']
  simp only [Function.comp, e, intOf]
  constructor
  · intro h1
    simp only [bne_iff_ne, ne_eq] at h1 ⊢
    omega
  · intro h1
    simp only [bne_iff_ne, ne_eq] at h1 ⊢
    omega
/-- While follow goes round. -/
def FLoop (W0 : World) (sb rb lb bs : Nat) (vS : Value) (Q : List St) (t : List UInt8) (ls : List Int) (rv : List Nat) (vK : Value) (best : Option Nat) (vO : Value) (O : List (Nat × Nat)) (q0 b p : Nat) (s1 : Value) (wr : World) : Prop :=
  ∃ (vK1 : Value) (stk1 rv1 : List Nat) (O1 : List (Nat × Nat)) (best1 : Option Nat), Srch wr sb rb lb bs vS Q ls p rv1 vK1 stk1 best1 ∧ wr.ownsRow bs 248 2 s1 O1.length (thr O1) ∧
    FInv Q t p b q0 (fun q => rv[q]? = some (p + 1)) O best stk1 (fun q => rv1[q]? = some (p + 1)) O1 best1 ∧ (∀ x ∈ stk1, x < Q.length) ∧ O1.length + unm rv1 (p + 1) ≤ Q.length ∧ 2 * unm rv1 (p + 1) + stk1.length ≤ 2 * Q.length + 1 ∧
    (∀ (k x : Nat), rv1[k]? = some x → x = p + 1 ∨ rv[k]? = some x) ∧ Only (fun k => k = sb ∨ (k = rb ∨ k = lb) ∨ some k = vK.ownBlock ∨ some k = vO.ownBlock) W0 wr ∧ MovedB W0 vK vK1 ∧ MovedB W0 vO s1
def FollowPost (w : World) (sb rb lb bs : Nat) (vS : Value) (Q : List St) (t : List UInt8) (ls : List Int) (rv : List Nat) (vK : Value) (best : Option Nat) (vO : Value) (O : List (Nat × Nat)) (q0 b p : Nat) (e : Ending) (w' : World) : Prop :=
  ∃ (vO' : Value) (vK1 : Value) (rv1 : List Nat) (O1 : List (Nat × Nat)) (best1 : Option Nat), e = .returned vO' ∧ Srch w' sb rb lb bs vS Q ls p rv1 vK1 [] best1 ∧ w'.ownsRow bs 248 2 vO' O1.length (thr O1) ∧
    FInv Q t p b q0 (fun q => rv[q]? = some (p + 1)) O best [] (fun q => rv1[q]? = some (p + 1)) O1 best1 ∧ O1.length + unm rv1 (p + 1) ≤ Q.length ∧
    (∀ (k x : Nat), rv1[k]? = some x → x = p + 1 ∨ rv[k]? = some x) ∧ Only (fun k => k = sb ∨ (k = rb ∨ k = lb) ∨ some k = vK.ownBlock ∨ some k = vO.ownBlock) w w' ∧ MovedB w vK vK1 ∧ MovedB w vO vO'
theorem Only.fromAlloc {D : Nat → Prop} {w w' : World} {o : Obj} (h : Only D (w.alloc o) w') : Only D w w' := ((Only.refl D w).alloc o).trans h (fun _ _ e => e)
theorem MovedB.fromAlloc {w : World} {o : Obj} {v v' : Value} (h : MovedB (w.alloc o) v v') : MovedB w v v' := by
  rcases h with h | ⟨G, h, h2⟩
  · exact Or.inl h
  · exact Or.inr ⟨G, h, by rw [World.size_alloc] at h2; omega⟩
theorem FLoop.done {w sb rb lb bs vS Q t ls rv vK best vO O q0 b p s1 wr o vK1 rv1 O1 best1} (h1 : Srch wr sb rb lb bs vS Q ls p rv1 vK1 [] best1) (h2 : wr.ownsRow bs 248 2 s1 O1.length (thr O1))
    (h3 : FInv Q t p b q0 (fun q => rv[q]? = some (p + 1)) O best [] (fun q => rv1[q]? = some (p + 1)) O1 best1) (h4 : O1.length + unm rv1 (p + 1) ≤ Q.length) (h5 : ∀ (k x : Nat), rv1[k]? = some x → x = p + 1 ∨ rv[k]? = some x)
    (h6 : Only (fun k => k = sb ∨ (k = rb ∨ k = lb) ∨ some k = vK.ownBlock ∨ some k = vO.ownBlock) (w.alloc o) wr) (h7 : MovedB (w.alloc o) vK vK1) (h8 : MovedB (w.alloc o) vO s1) : FollowPost w sb rb lb bs vS Q t ls rv vK best vO O q0 b p (.returned s1) wr :=
  ⟨s1, vK1, rv1, O1, best1, rfl, h1, h2, h3, h4, h5, h6.fromAlloc, h7.fromAlloc, h8.fromAlloc⟩
/-- What a state's kind says of the ways on from it. -/
theorem step_of {Q : List St} {t : List UInt8} {q p r : Nat} {st : St} (hq : Q[q]? = some st) : Step Q t q p r p ↔ (st.kind = 1 ∧ p = 0 ∧ r = st.next) ∨ (st.kind = 2 ∧ p = t.length ∧ r = st.next) ∨ (st.kind = 3 ∧ (r = st.next ∨ r = st.other)) := by
  constructor
  · rintro ⟨s, h, h1 | h1 | h1 | h1⟩
    · obtain ⟨_, c, _, _, _, h2⟩ := h1; omega
    · rw [hq] at h; cases h; exact Or.inl ⟨h1.1, h1.2.1, h1.2.2.1⟩
    · rw [hq] at h; cases h; exact Or.inr (Or.inl ⟨h1.1, h1.2.1, h1.2.2.1⟩)
    · rw [hq] at h; cases h; exact Or.inr (Or.inr ⟨h1.1, h1.2.1⟩)
  · rintro (h | h | h)
    · exact ⟨st, hq, Or.inr (Or.inl ⟨h.1, h.2.1, h.2.2, rfl⟩)⟩
    · exact ⟨st, hq, Or.inr (Or.inr (Or.inl ⟨h.1, h.2.1, h.2.2, rfl⟩))⟩
    · exact ⟨st, hq, Or.inr (Or.inr (Or.inr ⟨h.1, h.2, rfl⟩))⟩
theorem takes_iff {Q : List St} {q : Nat} {st : St} (hq : Q[q]? = some st) : Takes Q q ↔ st.kind = 0 := ⟨fun ⟨s, h, hk⟩ => by rw [hq] at h; cases h; exact hk, fun h => ⟨st, hq, h⟩⟩
theorem done_iff {Q : List St} {q : Nat} {st : St} (hq : Q[q]? = some st) : Done Q q ↔ st.kind = 4 := ⟨fun ⟨s, h, hk⟩ => by rw [hq] at h; cases h; exact hk, fun h => ⟨st, hq, h⟩⟩
theorem set_iff {rv : List Nat} {q y : Nat} (h : q < rv.length) (x : Nat) : (rv.set q y)[x]? = some y ↔ rv[x]? = some y ∨ x = q := by
  by_cases e : x = q
  · subst e; simp [List.getElem?_set_self h]
  · rw [List.getElem?_set_ne (fun h => e h.symm)]; simp [e]
end Go.Proofs.YtdbdbaepmdmnfaaGreatDoor
namespace Go.Proofs.YtdbdbaepmdmnfaaGreatDoor
open Go.RowKit
/-- The lengths of the places beyond p are told; those ahead of it are not yet. -/
def LsOK (Q : List St) (t : List UInt8) (last p : Nat) (ls : List Int) : Prop :=
  ls.length = t.length + 1 ∧ (∀ k, p < k → k ≤ t.length → ∃ b, LenAt Q t last k b ∧ ls[k]? = some (lenV k b)) ∧ ∀ k, k < p → ls[k]? = some (-1)
/-- What holds of a search at place p; the ends from h on were followed; open and next are vO and vN. -/
def RunI (w0 wr : World) (sb rb lb bs : Nat) (vS : Value) (Q : List St) (t : List UInt8) (ls : List Int) (last p h : Nat) (vO vN : Value) (O : List (Nat × Nat)) (best : Option Nat) : Prop :=
  ∃ (rv : List Nat) (vK : Value) (stk : List Nat) (N : List (Nat × Nat)), Srch wr sb rb lb bs vS Q ls p rv vK stk best ∧ wr.ownsRow bs 248 2 vO O.length (thr O) ∧ wr.ownsRow bs 248 2 vN N.length (thr N) ∧ (∀ k, vO.ownBlock = some k → vN.ownBlock ≠ some k) ∧
    RInv Q t last p h (fun q => rv[q]? = some (p + 1)) O best ∧ (∀ (k x : Nat), rv[k]? = some x → x = 0 ∨ p + 1 ≤ x) ∧ O.length + unm rv (p + 1) ≤ Q.length ∧ Only (fun k => k = sb ∨ (k = rb ∨ k = lb)) w0 wr ∧ MovedB w0 (.slice none 0 0) vK ∧ MovedB w0 (.slice none 0 0) vO ∧ MovedB w0 (.slice none 0 0) vN
/-- While the threads of place p + 1 are gone through: the first i of O were. -/
def InI (w0 wr : World) (sb rb lb bs : Nat) (vS : Value) (Q : List St) (t : List UInt8) (ls : List Int) (p : Nat) (vO : Value) (O : List (Nat × Nat)) (i : Nat) (vN : Value) (best : Option Nat) : Prop :=
  ∃ (rv : List Nat) (vK : Value) (stk : List Nat) (N : List (Nat × Nat)), Srch wr sb rb lb bs vS Q ls p rv vK stk best ∧ wr.ownsRow bs 248 2 vO O.length (thr O) ∧ wr.ownsRow bs 248 2 vN N.length (thr N) ∧ (∀ k, vO.ownBlock = some k → vN.ownBlock ≠ some k) ∧
    PInv Q t p (srcOf Q t p (O.take i)) (fun q => rv[q]? = some (p + 1)) N best ∧ (∀ (k x : Nat), rv[k]? = some x → x = 0 ∨ p + 1 ≤ x) ∧ N.length + unm rv (p + 1) ≤ Q.length ∧ Only (fun k => k = sb ∨ (k = rb ∨ k = lb)) w0 wr ∧ MovedB w0 (.slice none 0 0) vK ∧ MovedB w0 (.slice none 0 0) vO ∧ MovedB w0 (.slice none 0 0) vN
theorem movedNil {w : World} {v : Value} (h : MovedB w (.slice none 0 0) v) : ∀ k, v.ownBlock = some k → w.heap.size ≤ k := by
  intro k hk
  rcases h with h | ⟨G, h, h2⟩
  · rw [h] at hk; cases hk
  · rw [h] at hk; cases hk; exact h2
/-- What else lies in memory stands while a thread is followed. -/
theorem follow_frame {w0 w w' : World} {sb rb lb bs : Nat} {vS : Value} {Q : List St} {ls : List Int} {p : Nat} {rv : List Nat} {vK : Value} {stk : List Nat} {best : Option Nat} {vO vN vK1 vO1 : Value} {n : Nat} {xs : List Value} {n1 : Nat} {xs1 : List Value}
    (hS : Srch w sb rb lb bs vS Q ls p rv vK stk best) (hN : w.ownsRow bs 248 2 vN n xs) (hap : ∀ k, vO.ownBlock = some k → vN.ownBlock ≠ some k) (ho : Only (fun k => k = sb ∨ (k = rb ∨ k = lb) ∨ some k = vK.ownBlock ∨ some k = vO.ownBlock) w w')
    (_hO1 : w'.ownsRow bs 248 2 vO1 n1 xs1) (hk1 : MovedB w vK vK1) (ho1 : MovedB w vO vO1) (h0 : Only (fun k => k = sb ∨ (k = rb ∨ k = lb)) w0 w) (mK : MovedB w0 (.slice none 0 0) vK) (mO : MovedB w0 (.slice none 0 0) vO) :
    w'.ownsRow bs 248 2 vN n xs ∧ (∀ k, vO1.ownBlock = some k → vN.ownBlock ≠ some k) ∧ Only (fun k => k = sb ∨ (k = rb ∨ k = lb)) w0 w' ∧ MovedB w0 (.slice none 0 0) vK1 ∧ MovedB w0 (.slice none 0 0) vO1 := by
  have hrs := hS.rs
  refine ⟨ownsRow_of hN (fun k hk => ho.block k (hN.lt k hk).2 ?_), fun k hk e => ?_, h0.trans ho (fun i hi e => ?_), mK.trans h0.size hk1, mO.trans h0.size ho1⟩
  · have := (hN.lt k hk).1
    rintro (e | e | e | e)
    · omega
    · omega
    · exact rows_apart hN hS.own (by decide) k hk e.symm
    · exact hap k e.symm hk
  · rcases ho1 with e1 | ⟨G, e1, e2⟩
    · rw [e1] at hk; exact hap k hk e
    · rw [e1] at hk; cases hk
      have := (hN.lt _ e).2
      omega
  · rcases e with e | e | e | e
    · exact Or.inl e
    · exact Or.inr e
    · have := movedNil mK i e.symm; omega
    · have := movedNil mO i e.symm; omega
theorem row_none {w : World} {B : Nat} {e : TypeId} {z : Nat} {po : Option Addr} {n cap n' : Nat} {xs : List Value} (h : w.ownsRow B e z (.slice po n cap) n' xs) : w.ownsRow B e z (.slice po 0 cap) 0 [] := by
  refine ⟨by simp, ?_⟩
  rcases h.2 with ⟨e1, e2⟩ | ⟨g, cap', cur, hv, h3, h4, h5, h6, h7, h8⟩
  · cases e1
    exact Or.inl ⟨rfl, rfl⟩
  · cases hv
    exact Or.inr ⟨g, cap, cur, rfl, h3, h4, Nat.zero_le _, h6, h7, by simp⟩
theorem RunI.begin {w : World} {sb rb lb bs : Nat} {vS : Value} {Q : List St} {t : List UInt8} {ls : List Int} {last : Nat} {rv : List Nat} (h : Srch w sb rb lb bs vS Q ls t.length rv (.slice none 0 0) [] none) (hrv : ∀ (k x : Nat), rv[k]? = some x → x = 0) :
    RunI w w sb rb lb bs vS Q t ls last t.length (t.length + 1) (.slice none 0 0) (.slice none 0 0) [] none :=
  ⟨rv, .slice none 0 0, [], [], h, World.ownsRow_nil _ _ _ _, World.ownsRow_nil _ _ _ _, (fun k hk => by cases hk), RInv.begin _ (fun q hq => by have := hrv _ _ hq; omega), (fun k x hx => Or.inl (hrv k x hx)), by have := unm_le rv (t.length + 1); rw [h.len] at this; simpa using this, Only.refl _ _, MovedB.refl _ _, MovedB.refl _ _, MovedB.refl _ _⟩
/-- The threads that came on are the open ones at the next place. -/
theorem InI.next {w0 wr : World} {sb rb lb bs : Nat} {vS : Value} {Q : List St} {t : List UInt8} {ls : List Int} {last p : Nat} {vO : Value} {O : List (Nat × Nat)} {best0 : Option Nat} {vN : Value} {best : Option Nat} {M : Nat → Prop}
    (h : InI w0 wr sb rb lb bs vS Q t ls p vO O O.length vN best) (hR : RInv Q t last (p + 1) (p + 1) M O best0) :
    ∃ N, RunI w0 wr sb rb lb bs vS Q t ls last p (p + 1) vN vO N best := by
  obtain ⟨rv, vK, stk, N, h1, h2, h3, h4, h5, h6, h7, h8, h9, h10, h11⟩ := h
  rw [List.take_length] at h5
  exact ⟨N, rv, vK, stk, O, h1, h3, h2, fun k hk e => h4 k e hk, RInv.next hR h5, h6, h7, h8, h9, h11, h10⟩
theorem LsOK.next {Q t last p ls b} (h : LsOK Q t last (p + 1) ls) (hp : p + 1 ≤ t.length) (hb : LenAt Q t last (p + 1) b) : LsOK Q t last p (ls.set (p + 1) (lenV (p + 1) b)) := by
  obtain ⟨h1, h2, h3⟩ := h
  refine ⟨by rw [List.length_set]; exact h1, fun k hk hl => ?_, fun k hk => ?_⟩
  · by_cases e : k = p + 1
    · subst e
      exact ⟨b, hb, List.getElem?_set_self (by omega)⟩
    · obtain ⟨c, h4, h5⟩ := h2 k (by omega) hl
      exact ⟨c, h4, by rw [List.getElem?_set_ne (fun h => e h.symm)]; exact h5⟩
  · rw [List.getElem?_set_ne (by omega)]
    exact h3 k (by omega)
/-- What is told of all places. -/
def AllLen (Q : List St) (t : List UInt8) (last : Nat) (L : List Int) : Prop := L.length = t.length + 1 ∧ ∀ k, k ≤ t.length → ∃ b, LenAt Q t last k b ∧ L[k]? = some (lenV k b)
theorem LsOK.all {Q t last ls b} (h : LsOK Q t last 0 ls) (hb : LenAt Q t last 0 b) : AllLen Q t last (ls.set 0 (lenV 0 b)) := by
  obtain ⟨h1, h2, h3⟩ := h
  refine ⟨by rw [List.length_set]; exact h1, fun k hl => ?_⟩
  by_cases e : k = 0
  · subst e
    exact ⟨b, hb, List.getElem?_set_self (by omega)⟩
  · obtain ⟨c, h4, h5⟩ := h2 k (by omega) hl
    exact ⟨c, h4, by rw [List.getElem?_set_ne (fun h => e h.symm)]; exact h5⟩
theorem thr_get (l : List (Nat × Nat)) (i q b : Nat) (h : l[i]? = some (q, b)) : (thr l)[i * 2]? = some (.int .i64 q) ∧ (thr l)[i * 2 + 1]? = some (.int .i64 b) := by
  induction l generalizing i with
  | nil => simp at h
  | cons a l ih =>
    cases i with
    | zero =>
      simp at h
      subst h
      simp [thr]
    | succ i =>
      simp at h
      have := ih i h
      rw [show (i + 1) * 2 = i * 2 + 2 by omega, show i * 2 + 2 + 1 = (i * 2 + 1) + 2 by omega]
      simpa [thr] using this
theorem thr_cell {w : World} {B GO n cap : Nat} {O : List (Nat × Nat)} {i q b : Nat} (h : w.ownsRow B 248 2 (.slice (some ⟨GO, 0, none⟩) n cap) O.length (thr O)) (hi : O[i]? = some (q, b)) : w.cell? ⟨GO, i * 2, none⟩ = some (.int .i64 q) ∧ w.cell? ⟨GO, i * 2 + 1, none⟩ = some (.int .i64 b) := by
  have key : ∀ j u, (thr O)[j]? = some u → w.cell? ⟨GO, j, none⟩ = some u := fun j u hj => by
    have := h.cells (g := GO) rfl j u hj
    unfold Addr.add at this
    split at this
    · rename_i h0; rw [h0]; exact this
    · simpa using this
  exact ⟨key _ _ (thr_get O i q b hi).1, key _ _ (thr_get O i q b hi).2⟩
end Go.Proofs.YtdbdbaepmdmnfaaGreatDoor
namespace Go.Proofs.YtdbdbaepmdmnfaaGreatDoor
open Go.RowKit
theorem src_nil (Q : List St) (t : List UInt8) (p : Nat) : srcOf Q t p [] = fun _ _ => False := by
  funext q b
  simp [srcOf]
theorem step_byte {Q : List St} {t : List UInt8} {q p r : Nat} {st : St} {c : UInt8} (hq : Q[q]? = some st) (hk : st.kind = 0) (hc : t[p]? = some c) : Step Q t q (p + 1) r p ↔ st.set c = true ∧ r = st.next := by
  constructor
  · rintro ⟨s, h, h1 | h1 | h1 | h1⟩
    · rw [hq] at h; cases h
      obtain ⟨_, c', h2, h3, h4, _⟩ := h1
      rw [hc] at h2; cases h2
      exact ⟨h3, h4⟩
    · omega
    · omega
    · omega
  · rintro ⟨h1, rfl⟩
    exact ⟨st, hq, Or.inl ⟨hk, c, hc, h1, rfl, rfl⟩⟩
theorem take_push {O : List (Nat × Nat)} {i q b : Nat} (h : O[i]? = some (q, b)) : O.take (i + 1) = O.take i ++ [(q, b)] := by
  rw [List.take_add_one, h]; rfl
theorem src_yes {Q : List St} {t : List UInt8} {p : Nat} {l : List (Nat × Nat)} {q b : Nat} {st : St} {c : UInt8} (hq : Q[q]? = some st) (hk : st.kind = 0) (hc : t[p]? = some c) (hs : st.set c = true) : srcOf Q t p (l ++ [(q, b)]) = fun q' b' => srcOf Q t p l q' b' ∨ (q' = st.next ∧ b' = b) := by
  funext q' b'
  unfold srcOf
  apply propext
  constructor
  · rintro ⟨x, hx, h1, h2⟩
    rcases List.mem_append.1 hx with hx | hx
    · exact Or.inl ⟨x, hx, h1, h2⟩
    · simp at hx; subst hx
      exact Or.inr ⟨((step_byte hq hk hc).1 h2).2, h1.symm⟩
  · rintro (⟨x, hx, h1, h2⟩ | ⟨h1, h2⟩)
    · exact ⟨x, List.mem_append.2 (Or.inl hx), h1, h2⟩
    · exact ⟨(q, b), by simp, h2.symm, (step_byte hq hk hc).2 ⟨hs, h1⟩⟩
theorem src_no {Q : List St} {t : List UInt8} {p : Nat} {l : List (Nat × Nat)} {q b : Nat} {st : St} {c : UInt8} (hq : Q[q]? = some st) (hk : st.kind = 0) (hc : t[p]? = some c) (hs : st.set c = false) : srcOf Q t p (l ++ [(q, b)]) = srcOf Q t p l := by
  funext q' b'
  unfold srcOf
  apply propext
  constructor
  · rintro ⟨x, hx, h1, h2⟩
    rcases List.mem_append.1 hx with hx | hx
    · exact ⟨x, hx, h1, h2⟩
    · simp at hx; subst hx
      have := ((step_byte hq hk hc).1 h2).1
      rw [hs] at this; cases this
  · rintro ⟨x, hx, h1, h2⟩
    exact ⟨x, List.mem_append.2 (Or.inl hx), h1, h2⟩
theorem sorted_at {O : List (Nat × Nat)} {i : Nat} {x : Nat × Nat} (hs : O.Pairwise (fun x y => y.2 ≤ x.2)) (hx : O[i]? = some x) : ∀ y ∈ O.take i, x.2 ≤ y.2 := by
  obtain ⟨hi, e⟩ := List.getElem?_eq_some_iff.1 hx
  have h1 : O = O.take i ++ (x :: O.drop (i + 1)) := by
    rw [← e, List.getElem_cons_drop]; exact (List.take_append_drop i O).symm
  rw [h1] at hs
  rw [List.pairwise_append] at hs
  exact fun y hy => hs.2.2 y hy x (by simp)
theorem src_ge {Q : List St} {t : List UInt8} {p b : Nat} {l : List (Nat × Nat)} (h : ∀ y ∈ l, b ≤ y.2) : ∀ q b', srcOf Q t p l q b' → b ≤ b' := by
  rintro q b' ⟨x, hx, rfl, _⟩
  exact h x hx
theorem InI.begin {w0 wr : World} {sb rb lb bs : Nat} {vS : Value} {Q : List St} {t : List UInt8} {ls : List Int} {last p h : Nat} {vO : Value} {poN : Option Addr} {nN capN : Nat} {O : List (Nat × Nat)} {best : Option Nat} (h : RunI w0 wr sb rb lb bs vS Q t ls last (p + 1) h vO (.slice poN nN capN) O best) (hl : LsOK Q t last (p + 1) ls) :
    InI w0 wr sb rb lb bs vS Q t (ls.set (p + 1) (lenV (p + 1) best)) p vO O 0 (.slice poN 0 capN) none := by
  obtain ⟨rv, vK, stk, N, h1, h2, h3, h4, h5, h6, h7, h8, h9, h10, h11⟩ := h
  have hown : ∀ n m, (Value.slice poN n capN).ownBlock = (Value.slice poN m capN).ownBlock := fun n m => by cases poN <;> rfl
  refine ⟨rv, vK, stk, [], h1.turn p (by rw [List.getElem?_set_ne (by omega)]; exact hl.2.2 p (by omega)), h2, row_none h3, fun k hk e => h4 k hk (by rw [hown nN 0]; exact e), ?_, fun k x hx => by have := h6 k x hx; omega, ?_, h8, h9, h10, ?_⟩
  · rw [List.take_zero, src_nil]
    exact PInv.begin _ (fun q hq => by have := h6 _ _ hq; omega)
  · have := unm_le rv (p + 1)
    rw [h1.len] at this
    simpa using this
  · rcases h11 with e | ⟨G, e, e2⟩
    · exact Or.inl (by rw [hown 0 nN]; exact e)
    · exact Or.inr ⟨G, by rw [hown 0 nN]; exact e, e2⟩
/-- A box that is made turns nothing. -/
theorem InI.alloc {w0 wr : World} {sb rb lb bs : Nat} {vS : Value} {Q : List St} {t : List UInt8} {ls : List Int} {p : Nat} {vO : Value} {O : List (Nat × Nat)} {i : Nat} {vN : Value} {best : Option Nat} (h : InI w0 wr sb rb lb bs vS Q t ls p vO O i vN best) (o : Obj) (n : Nat) : InI w0 ((wr.alloc o).drewN n) sb rb lb bs vS Q t ls p vO O i vN best := by
  obtain ⟨rv, vK, stk, N, h1, h2, h3, h4, h5, h6, h7, h8, h9, h10, h11⟩ := h
  refine ⟨rv, vK, stk, N, h1.only (D := fun _ => False) (((Only.refl _ wr).alloc o).drewN n) (fun e => e) (fun e => e) (fun e => e) (fun _ _ e => e) (fun _ _ e => e), ownsRow_of h2 (fun k hk => Below.heap_alloc _ _ _ (h2.lt k hk).2), ownsRow_of h3 (fun k hk => Below.heap_alloc _ _ _ (h3.lt k hk).2), h4, h5, h6, h7, (h8.alloc o).drewN n, h9, h10, h11⟩
theorem InI.pass {w0 wr : World} {sb rb lb bs : Nat} {vS : Value} {Q : List St} {t : List UInt8} {ls : List Int} {p : Nat} {vO : Value} {O : List (Nat × Nat)} {i : Nat} {vN : Value} {best : Option Nat} {q b : Nat} {st : St} {c : UInt8} (h : InI w0 wr sb rb lb bs vS Q t ls p vO O i vN best)
    (hx : O[i]? = some (q, b)) (hq : Q[q]? = some st) (hk : st.kind = 0) (hc : t[p]? = some c) (hs : st.set c = false) : InI w0 wr sb rb lb bs vS Q t ls p vO O (i + 1) vN best := by
  obtain ⟨rv, vK, stk, N, h1, h2, h3, h4, h5, h6⟩ := h
  refine ⟨rv, vK, stk, N, h1, h2, h3, h4, ?_, h6⟩
  rw [take_push hx, src_no hq hk hc hs]
  exact h5
theorem InI.step {w0 W w2 : World} {sb rb lb bs : Nat} {vS : Value} {Q : List St} {t : List UInt8} {ls : List Int} {p : Nat} {vO : Value} {O : List (Nat × Nat)} {i : Nat} {vN : Value} {b3 : Option Nat} {rv3 : List Nat} {vK3 : Value} {stk3 : List Nat} {N3 : List (Nat × Nat)} {q b : Nat} {st : St} {c : UInt8} {e : Ending}
    (hu : OneDone Q) (hS3 : Srch W sb rb lb bs vS Q ls p rv3 vK3 stk3 b3) (hO3 : W.ownsRow bs 248 2 vO O.length (thr O)) (hap3 : ∀ k, vO.ownBlock = some k → vN.ownBlock ≠ some k)
    (hP3 : PInv Q t p (srcOf Q t p (O.take i)) (fun q => rv3[q]? = some (p + 1)) N3 b3) (hrv3 : ∀ (k x : Nat), rv3[k]? = some x → x = 0 ∨ p + 1 ≤ x) (ho3 : Only (fun k => k = sb ∨ (k = rb ∨ k = lb)) w0 W) (mK3 : MovedB w0 (.slice none 0 0) vK3) (mO3 : MovedB w0 (.slice none 0 0) vO) (mN3 : MovedB w0 (.slice none 0 0) vN)
    (hx : O[i]? = some (q, b)) (hq : Q[q]? = some st) (hk : st.kind = 0) (hc : t[p]? = some c) (hs : st.set c = true) (hsort : ∀ y ∈ O.take i, b ≤ y.2)
    (hf : FollowPost W sb rb lb bs vS Q t ls rv3 vK3 b3 vN N3 st.next b p e w2) : ∃ vN4 b4, e = .returned vN4 ∧ InI w0 w2 sb rb lb bs vS Q t ls p vO O (i + 1) vN4 b4 := by
  obtain ⟨vN4, vK4, rv4, N4, b4, rfl, hS4, hN4, hF4, hol4, hrv4, ho4, mk4, mn4⟩ := hf
  obtain ⟨f1, f2, f3, f4, f5⟩ := follow_frame hS3 hO3 (fun k hk e => hap3 k e hk) ho4 hN4 mk4 mn4 ho3 mK3 mN3
  refine ⟨vN4, b4, rfl, rv4, vK4, [], N4, hS4, f1, hN4, fun k hk e => f2 k e hk, ?_, ?_, hol4, f3, f4, mO3, f5⟩
  · rw [take_push hx, src_yes hq hk hc hs]
    exact PInv.follow hP3 hu hF4 (src_ge hsort)
  · intro k x hx4
    rcases hrv4 k x hx4 with h | h
    · omega
    · exact hrv3 k x h
end Go.Proofs.YtdbdbaepmdmnfaaGreatDoor
namespace Go.Proofs.YtdbdbaepmdmnfaaGreatDoor
open Go.RowKit
end Go.Proofs.YtdbdbaepmdmnfaaGreatDoor
namespace Go.Proofs.YtdbdbaepmdmnfaaGreatDoor
open Go.RowKit
def bBeg (best : Option (Nat × Nat)) : Int := match best with | none => -1 | some x => x.1
def bLen (best : Option (Nat × Nat)) : Int := match best with | none => 0 | some x => x.2
end Go.Proofs.YtdbdbaepmdmnfaaGreatDoor
namespace Go.Proofs
open Go.Shelf
def Tryz.mlays212_ren : Go.Shelf.Ren := ⟨fun | 212 => 123 | 263 => 159 | 264 => 160 | n => n, fun | 46 => 241 | 51 => 327 | 146 => 328 | 53 => 113 | 148 => 330 | n => n, fun | n => n⟩
theorem Tryz.mlays212 : Go.Proofs.Lays.n212 Tryz.prog Tryz.mlays212_ren := {
  mixed := by kernel_rfl
  f212 := Tryz.func123.trans (congrArg some (by kernel_rfl))
  f263 := Tryz.func159.trans (congrArg some (by kernel_rfl))
  f264 := Tryz.func160.trans (congrArg some (by kernel_rfl))
  t46 := Tryz.underlying241
  a46 := Tryz.isAgg241
  z46 := Tryz.sizeOf241
  v46 := Tryz.zeroValue241
  t51 := Tryz.underlying327
  a51 := Tryz.isAgg327
  z51 := Tryz.sizeOf327
  v51 := Tryz.zeroValue327
  t53 := Tryz.underlying113
  a53 := Tryz.isAgg113
  z53 := Tryz.sizeOf113
  v53 := Tryz.zeroValue113
  t146 := Tryz.underlying328
  a146 := Tryz.isAgg328
  z146 := Tryz.sizeOf328
  v146 := Tryz.zeroValue328
  t148 := Tryz.underlying330
  a148 := Tryz.isAgg330
  z148 := Tryz.sizeOf330
  v148 := Tryz.zeroValue330 }
open Go.RowKit Go.Lib in
theorem Tryz.mbits_Mul (x y : Nat) (hx : x < 18446744073709551616) (hy : y < 18446744073709551616) (w : World) :
    Calls Tryz.prog 123 #[.int .u64 x, .int .u64 y] w fun e w' => e = .returned (.tuple #[.int .u64 ((x * y / 18446744073709551616 : Nat) : Int), .int .u64 ((x * y % 18446744073709551616 : Nat) : Int)]) ∧ w' = w := Any.bits_Mul Tryz.mlays212 x y hx hy w
end Go.Proofs
namespace Go.Proofs.YtdbdbaepmdmnfaaGreatDoor
open Go.RowKit
/-- A row of N whole numbers, the first k of them -1, the others 0. -/
def half (k N : Nat) : List Value := List.replicate k (.int .i64 (-1)) ++ List.replicate (N - k) (.int .i64 0)
theorem half_len {k N : Nat} (h : k ≤ N) : (half k N).length = N := by simp [half]; omega
theorem half_zero (N : Nat) : madeCells #[.int .i64 0] N = (half 0 N).toArray := by
  apply Array.ext'
  rw [toList_madeCells_one]
  simp [half]
theorem half_splice {k m N : Nat} (h : k + m ≤ N) : splice (half k N) k (List.replicate m (.int .i64 (-1))) = half (k + m) N := by
  unfold splice half
  rw [List.take_append_of_le_length (by simp), List.take_of_length_le (by simp), List.length_replicate, List.drop_append, List.drop_of_length_le (by simp), List.nil_append, List.length_replicate, List.drop_replicate, ← List.append_assoc, List.replicate_append_replicate]
  congr 2
  omega
theorem half_get {k N j : Nat} {v : Value} (h : (List.replicate k (Value.int .i64 (-1)))[j]? = some v) : (half k N)[j]? = some v := by
  unfold half
  rw [List.getElem?_append_left (List.getElem?_eq_some_iff.1 h).1]; exact h
theorem add_at (g o j : Nat) : (⟨g, o, none⟩ : Addr).add j = ⟨g, o + j, none⟩ := by unfold Addr.add; split <;> simp_all
theorem minus_one (m : Nat) : ∀ v ∈ List.replicate m (Value.int .i64 (-1)), v.oneCell' = true := by
  intro v hv
  rw [(List.mem_replicate.1 hv).2]; rfl
theorem int_size : (Tryz.prog.info? 3).map (·.size) = some 1 := by kernel_rfl
/-- Some of the row's own cells are copied behind them. -/
theorem copy_half {w W : World} {g k m N : Nat} {p : Addr} {dc sl sc : Nat} (hg : W.heap[g]? = some (.cells (half k N).toArray 3 (0, 0))) (hk : k + m ≤ N) (hm : m = Nat.min sl (N - k)) (hsrc : ∀ j, j < m → W.cell? (p.add j) = some (.int .i64 (-1))) (B : Nat) (hB : Below B w W) (hBg : B ≤ g) :
    ∃ W', (Builtin.copy_ #[126, 126] 3 #[.slice (some ⟨g, k, none⟩) (N - k) dc, .slice (some p) sl sc]).run Tryz.prog W = .ok (goInt m) W' ∧ Hid (W'.heap[g]? = some (.cells (half (k + m) N).toArray 3 (0, 0))) ∧ Hid (Below B w W') := by
  have h := run_copy_row (P := Tryz.prog) W 126 126 3 3 g k (N - k) dc p sl sc (half k N).toArray 3 (List.replicate m (.int .i64 (-1))) Tryz.underlying126 int_size hg (by rw [List.length_replicate]; exact hm) (fun j v hj => by
    have hl := (List.getElem?_eq_some_iff.1 hj).1
    rw [List.length_replicate] at hl
    rw [List.getElem?_replicate, if_pos hl] at hj
    cases hj
    exact hsrc j hl) (by rw [List.length_replicate]; show k + m ≤ (half k N).length; rw [half_len (by omega)]; exact hk) (minus_one m)
  rw [List.length_replicate] at h
  refine ⟨_, h, ?_, below_setRow hB hBg _⟩
  refine (setRow_heap W g _ _ 3 (0, 0) hg).trans ?_
  rw [← half_splice hk]
  unfold splice
  rw [List.length_replicate, List.append_assoc]
set_option maxRecDepth 100000 in
set_option maxHeartbeats 4000000 in
theorem repeat_any (xb N : Nat) (h1 : 1 ≤ N) (hN : N ≤ 100000) (w : World) (hx : w.cell? ⟨xb, 0, none⟩ = some (.int .i64 (-1))) :
    Calls Tryz.prog 88 #[.slice (some ⟨xb, 0, none⟩) 1 1, .int .i64 N] w fun e w' => Below w.heap.size w w' ∧ e = .returned (.slice (some ⟨w.heap.size, 0, none⟩) N N) ∧ w'.heap[w.heap.size]? = some (.cells (half N N).toArray 3 (0, 0)) := by
  have hMul := Tryz.mbits_Mul 1 N (by omega) (by omega) w
  rw [Nat.one_mul, Nat.div_eq_of_lt (by omega : N < 18446744073709551616), Nat.mod_eq_of_lt (by omega : N < 18446744073709551616)] at hMul
  have hmk := run_make_row' (P := Tryz.prog) 126 3 (.int .i64 0) 8 Tryz.underlying126 info3 rfl .i64 .i64 N (by omega) (by omega)
  have hxl := World.block_lt_of_cell? w _ hx
  have hW : (w.alloc (.cells (madeCells #[.int .i64 0] N) 3)).heap[w.heap.size]? = some (.cells (half 0 N).toArray 3 (0, 0)) := by
    rw [← half_zero]; exact heap_alloc_new w _
  have hx2 : (w.alloc (.cells (madeCells #[.int .i64 0] N) 3)).cell? ⟨xb, 0, none⟩ = some (.int .i64 (-1)) := (World.cell?_of_block (a := ⟨xb, 0, none⟩) (Below.heap_alloc _ _ _ hxl)).trans hx
  obtain ⟨W1, hcp, HG1, HB1⟩ := copy_half (w := w) (dc := N) (sl := 1) (sc := 1) (p := ⟨xb, 0, none⟩) (m := 1) hW (by omega) (show 1 = Nat.min 1 (N - 0) by rw [Nat.sub_zero]; exact (Nat.min_eq_left h1).symm) (fun j hj => by have hj0 : j = 0 := (by omega); subst hj0; rw [add_at]; exact hx2) w.heap.size ((Below.refl _ w).alloc (Nat.le_refl _) _) (Nat.le_refl _)
  rw [Nat.sub_zero] at hcp
  clear hW hx2 hx
  go_enter Tryz.func88, Tryz.ntmps88
  go_wp2_with (go_at_call 123; refine hMul.mono ?_; rintro e w' ⟨rfl, hw⟩; rw [hw])
  clear hcp hmk hMul
  go_loopg [8] (N - 1) (fun g s8 wr => ∃ k : Nat, s8 = .int .i64 k ∧ 1 ≤ k ∧ k ≤ N ∧ g = N - k ∧ wr.heap[w.heap.size]? = some (.cells (half k N).toArray 3 (0, 0)) ∧ Below w.heap.size w wr)
  case atStart => exact ⟨1, rfl, Nat.le_refl _, h1, rfl, HG1.out, HB1.out⟩
  case round =>
    clear HG1 HB1
    obtain ⟨k, e8, hk1, hkN, hg, hrow, hbel⟩ := hrel
    subst e8
    by_cases hke : k = N
    · subst hke
      have HR := hide hrow
      have HB := hide hbel
      clear hrow hbel
      go_wp2
      go_ret
      exact ⟨HB.out, rfl, HR.out⟩
    · have hlt : (k : Int) < (N : Int) := by omega
      obtain ⟨m, HM⟩ : ∃ m, Hid (m = Nat.min k (N - k)) := ⟨_, rfl⟩
      have hm1 : 1 ≤ m := by rw [HM.out]; exact Nat.le_min.2 ⟨by omega, by omega⟩
      have hm0 : m ≤ k := by rw [HM.out]; exact Nat.min_le_left k (N - k)
      have hm2 : k + m ≤ N := by
        have h2 : m ≤ N - k := by rw [HM.out]; exact Nat.min_le_right k (N - k)
        omega
      have hbd := hbel.drew
      obtain ⟨W2, hcp, HG2, HB2⟩ := copy_half (w := w) (W := wr.drew) (g := w.heap.size) (k := k) (N := N) (dc := N - k) (sl := k) (sc := N) (p := ⟨w.heap.size, 0, none⟩) (m := m) hrow hm2 HM.out (fun j hj => by
        rw [add_at]
        refine cell_of (w := wr.drew) hrow ?_
        rw [List.getElem?_toArray]
        exact half_get (by rw [List.getElem?_replicate, if_pos (by omega)])) w.heap.size hbd (Nat.le_refl _)
      have Hg := hide hg
      have hke2 : ¬ N = k := fun e => hke e.symm
      clear hrow hbel hg hbd
      go_wp2
      go_region
      all_goals
        go_wp2
        go_roundg (N - (k + m))
        case measure => have := Hg.out; omega
        case rel => exact ⟨k + m, rfl, Nat.le_trans hk1 (Nat.le_add_right _ _), hm2, rfl, HG2.out, HB2.out⟩
end Go.Proofs.YtdbdbaepmdmnfaaGreatDoor
