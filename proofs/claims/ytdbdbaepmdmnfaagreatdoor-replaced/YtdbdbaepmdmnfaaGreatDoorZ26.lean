import Derived.Test.YtdbdbaepmdmnfaaGreatDoorZ14
import Derived.Test.YtdbdbaepmdmnfaaGreatDoorZ02
import Derived.Deep.RegionLaw
import Derived.Deep.AppendLies
import Derived.Deep.CutRange
import Derived.Deep.LoopGhost
namespace Go.Proofs.YtdbdbaepmdmnfaaGreatDoor
open Go.RowKit
def ints (l : List Nat) : List Value := l.map (fun n : Nat => Value.int .i64 (n : Int))
def zints (l : List Int) : List Value := l.map (fun z : Int => Value.int .i64 z)
def thr (l : List (Nat × Nat)) : List Value := l.flatMap (fun x => [Value.int .i64 x.1, Value.int .i64 x.2])
/-- A place's length, of the last end of a match that begins there. -/
def lenV (p : Nat) (best : Option Nat) : Int := match best with | none => -1 | some B => (B : Int) - p
/-- A search lies in block sb; rv: what each state was reached at last; stk: its stack; the lengths are ls, but at place p that of best. -/
structure Srch (w : World) (sb rb lb bs : Nat) (vS : Value) (Q : List St) (ls : List Int) (p : Nat) (rv : List Nat) (vK : Value) (stk : List Nat) (best : Option Nat) : Prop where
  blk : w.heap[sb]? = some (.cells #[vS, .slice (some ⟨rb, 0, none⟩) Q.length Q.length, vK, .slice (some ⟨lb, 0, none⟩) ls.length ls.length] 176 (0, 0))
  rch : w.heap[rb]? = some (.cells (ints rv).toArray 3 (0, 0))
  lns : w.heap[lb]? = some (.cells (zints (ls.set p (lenV p best))).toArray 3 (0, 0))
  len : rv.length = Q.length
  pat : PatAt w vS Q
  own : w.ownsRow bs 3 1 vK stk.length (ints stk)
  rs : rb ≠ sb ∧ lb ≠ sb ∧ lb ≠ rb ∧ sb < bs ∧ rb < bs ∧ lb < bs
  ss : ∀ k, vS.ownBlock = some k → k ≠ sb ∧ k ≠ rb ∧ k ≠ lb ∧ k < bs
theorem Srch.only {w w' sb rb lb bs vS Q ls p rv vK stk best D} (h : Srch w sb rb lb bs vS Q ls p rv vK stk best) (ho : Only D w w') (h1 : ¬ D sb) (h2 : ¬ D rb) (h2' : ¬ D lb) (h3 : ∀ k, vS.ownBlock = some k → ¬ D k) (h4 : ∀ k, vK.ownBlock = some k → ¬ D k) : Srch w' sb rb lb bs vS Q ls p rv vK stk best := by
  obtain ⟨xs, hp1, hp2⟩ := h.pat
  exact ⟨(ho.block sb (heap_lt h.blk) h1).trans h.blk, (ho.block rb (heap_lt h.rch) h2).trans h.rch, (ho.block lb (heap_lt h.lns) h2').trans h.lns, h.len, ⟨xs, ownsRow_of hp1 (fun k hk => ho.block k (hp1.lt k hk).2 (h3 k hk)), hp2⟩, ownsRow_of h.own (fun k hk => ho.block k (h.own.lt k hk).2 (h4 k hk)), h.rs, h.ss⟩
theorem zints_set (l : List Int) (k : Nat) (x : Int) : zints (l.set k x) = (zints l).set k (.int .i64 x) := by simp [zints, List.map_set]
theorem zints_get (l : List Int) (k : Nat) (x : Int) (h : l[k]? = some x) : (zints l)[k]? = some (.int .i64 x) := by simp [zints, h]
/-- The place's length is noted. -/
theorem Srch.note {w sb rb lb bs vS Q ls p rv vK stk best} (h : Srch w sb rb lb bs vS Q ls p rv vK stk best) (b : Nat) : Srch (w.setCell ⟨lb, p, none⟩ (.int .i64 ((b : Int) - p))) sb rb lb bs vS Q ls p rv vK stk (some b) := by
  obtain ⟨xs, hp1, hp2⟩ := h.pat
  have hrs := h.rs
  refine ⟨(Below.heap_setCell _ _ _ _ (show sb ≠ lb by omega)).trans h.blk, (Below.heap_setCell _ _ _ _ (show rb ≠ lb by omega)).trans h.rch, ?_, h.len, ⟨xs, ownsRow_of hp1 (fun k hk => ?_), hp2⟩, ownsRow_of h.own (fun k hk => ?_), h.rs, h.ss⟩
  · have := heap_setCell_same (o := p) h.lns (.int .i64 ((b : Int) - p))
    rw [this]
    congr 2
    apply Array.ext'
    rw [Array.toList_setIfInBounds, ← zints_set, List.set_set]
    rfl
  · exact Below.heap_setCell _ _ _ _ (h.ss k hk).2.2.1
  · have := (h.own.lt k hk).1
    exact Below.heap_setCell _ _ _ _ (show k ≠ lb by omega)
/-- The search turns to another place. -/
theorem Srch.turn {w sb rb lb bs vS Q ls p rv vK stk best} (h : Srch w sb rb lb bs vS Q ls p rv vK stk best) (p' : Nat) (hp : (ls.set p (lenV p best))[p']? = some (-1)) : Srch w sb rb lb bs vS Q (ls.set p (lenV p best)) p' rv vK stk none := by
  refine ⟨?_, h.rch, ?_, h.len, h.pat, h.own, h.rs, h.ss⟩
  · rw [List.length_set]; exact h.blk
  · have hs : (ls.set p (lenV p best)).set p' (lenV p' none) = ls.set p (lenV p best) := by
      apply List.ext_getElem?
      intro k
      by_cases e : k = p'
      · subst e
        rw [List.getElem?_set_self (List.getElem?_eq_some_iff.1 hp).1, hp]; rfl
      · rw [List.getElem?_set_ne (fun h => e h.symm)]
    rw [hs]; exact h.lns
end Go.Proofs.YtdbdbaepmdmnfaaGreatDoor
namespace Go.Proofs.YtdbdbaepmdmnfaaGreatDoor
open Go.RowKit
theorem ints_len (l : List Nat) : (ints l).length = l.length := by simp [ints]
theorem ints_get (l : List Nat) (k x : Nat) (h : l[k]? = some x) : (ints l)[k]? = some (.int .i64 x) := by simp [ints, h]
theorem ints_append (l m : List Nat) : ints (l ++ m) = ints l ++ ints m := by simp [ints]
theorem ints_set (l : List Nat) (k x : Nat) : ints (l.set k x) = (ints l).set k (.int .i64 x) := by simp [ints, List.map_set]
theorem thr_append (l : List (Nat × Nat)) (q b : Nat) : thr (l ++ [(q, b)]) = thr l ++ [.int .i64 q, .int .i64 b] := by simp [thr]
/-- How many states were not reached at the place. -/
def unm (rv : List Nat) (x : Nat) : Nat := rv.countP (fun y => y != x)
theorem unm_le (rv : List Nat) (x : Nat) : unm rv x ≤ rv.length := List.countP_le_length
theorem unm_set {rv : List Nat} {q x y : Nat} (h : rv[q]? = some y) (hy : y ≠ x) : unm (rv.set q x) x + 1 = unm rv x := by
  unfold unm
  induction rv generalizing q with
  | nil => simp at h
  | cons a l ih =>
    cases q with
    | zero =>
      simp at h
      subst h
      simp [hy]
    | succ q =>
      simp at h
      have := ih h
      simp only [List.set_cons_succ, List.countP_cons]
      omega
/-- Where a row may lie behind a call: where it lay, or in a block that was not there. -/
def MovedB (w : World) (v v' : Value) : Prop := v'.ownBlock = v.ownBlock ∨ ∃ G, v'.ownBlock = some G ∧ w.heap.size ≤ G
theorem MovedB.refl (w : World) (v : Value) : MovedB w v v := Or.inl rfl
theorem MovedB.trans {w w1 : World} {u v x : Value} (h : MovedB w u v) (hs : w.heap.size ≤ w1.heap.size) (k : MovedB w1 v x) : MovedB w u x := by
  rcases k with k | ⟨G, k, k2⟩
  · rw [MovedB, k]; exact h
  · exact Or.inr ⟨G, k, Nat.le_trans hs k2⟩
theorem MovedB.old {w : World} {v v' : Value} (h : MovedB w v v') {k : Nat} (hk : v'.ownBlock = some k) (hl : k < w.heap.size) : some k = v.ownBlock := by
  rcases h with h | ⟨G, h, h2⟩
  · rw [← h, hk]
  · rw [h] at hk; cases hk; omega
theorem rows_apart {w : World} {B B' : Nat} {e e' : TypeId} {z z' : Nat} {v v' : Value} {n n' : Nat} {xs xs' : List Value} (h : w.ownsRow B e z v n xs) (h' : w.ownsRow B' e' z' v' n' xs') (hne : e ≠ e') : ∀ k, v.ownBlock = some k → v'.ownBlock ≠ some k := by
  intro k hk hk'
  rcases h.2 with ⟨rfl, _⟩ | ⟨g, cap, cur, rfl, _, h3, _⟩
  · cases hk
  · cases hk
    rcases h'.2 with ⟨rfl, _⟩ | ⟨g', cap', cur', rfl, _, h3', _⟩
    · cases hk'
    · cases hk'
      rw [h3] at h3'
      injection h3' with h4
      injection h4 with _ h5 _
      exact hne h5
theorem row_short {w : World} {B : Nat} {e : TypeId} {po : Option Addr} {n m cap : Nat} {l : List Nat} (h : w.ownsRow B e 1 (.slice po n cap) n (ints l)) (hm : m ≤ n) : w.ownsRow B e 1 (.slice po m cap) m (ints (l.take m)) := by
  have hl := h.1
  rw [ints_len] at hl
  refine ⟨by rw [ints_len, List.length_take]; omega, ?_⟩
  rcases h.2 with ⟨e1, e2⟩ | ⟨g, cap', cur, hv, h3, h4, h5, h6, h7, h8⟩
  · cases e1
    exact Or.inl ⟨by rw [show m = 0 by omega], by omega⟩
  · cases hv
    refine Or.inr ⟨g, cap, cur, rfl, h3, h4, by omega, h6, h7, ?_⟩
    have : (ints (l.take m)) = (ints l).take m := by simp [ints, List.map_take]
    rw [this, ← h8, List.take_take]
    congr 1
    omega
theorem Srch.alloc {w sb rb lb bs vS Q ls p rv vK stk best} (h : Srch w sb rb lb bs vS Q ls p rv vK stk best) (o : Obj) : Srch (w.alloc o) sb rb lb bs vS Q ls p rv vK stk best := h.only (D := fun _ => False) ((Only.refl _ w).alloc o) (fun e => e) (fun e => e) (fun e => e) (fun _ _ e => e) (fun _ _ e => e)
/-- The stack is turned. -/
theorem Srch.setStack {w w1 sb rb lb bs vS Q ls p rv vK stk best v' stk'} (h : Srch w sb rb lb bs vS Q ls p rv vK stk best) (hg : w.grownBy w1 vK.ownBlock) (ho : w1.ownsRow bs 3 1 v' stk'.length (ints stk')) : Srch (w1.setCell ⟨sb, 2, none⟩ v') sb rb lb bs vS Q ls p rv v' stk' best := by
  obtain ⟨xs, hp1, hp2⟩ := h.pat
  have hrs := h.rs
  have hK : ∀ k, k < bs → some k ≠ vK.ownBlock := fun k hk e => by have := (h.own.lt k e.symm).1; omega
  have hb : ∀ k, k < bs → k < w.heap.size → w1.heap[k]? = w.heap[k]? := fun k hk hl => hg.block k hl (hK k hk)
  have hb1 := (hb sb (by omega) (heap_lt h.blk)).trans h.blk
  refine ⟨heap_setCell_same hb1 v', ?_, ?_, h.len, ⟨xs, ownsRow_of hp1 (fun k hk => ?_), hp2⟩, ownsRow_of ho (fun k hk => ?_), h.rs, h.ss⟩
  · exact (Below.heap_setCell _ _ _ _ (show rb ≠ sb by omega)).trans ((hb rb (by omega) (heap_lt h.rch)).trans h.rch)
  · exact (Below.heap_setCell _ _ _ _ (show lb ≠ sb by omega)).trans ((hb lb (by omega) (heap_lt h.lns)).trans h.lns)
  · have := h.ss k hk
    exact (Below.heap_setCell _ _ _ _ (show k ≠ sb by omega)).trans (hb k (by omega) (hp1.lt k hk).2)
  · have := (ho.lt k hk).1
    exact Below.heap_setCell _ _ _ _ (show k ≠ sb by omega)
theorem grown_refl (w : World) (r : Option Nat) : w.grownBy w r := ⟨rfl, rfl, rfl, Nat.le_refl _, fun _ _ _ => rfl⟩
/-- A state is reached. -/
theorem Srch.reach {w sb rb lb bs vS Q ls p rv vK stk best} (h : Srch w sb rb lb bs vS Q ls p rv vK stk best) (q x : Nat) : Srch (w.setCell ⟨rb, q, none⟩ (.int .i64 x)) sb rb lb bs vS Q ls p (rv.set q x) vK stk best := by
  obtain ⟨xs, hp1, hp2⟩ := h.pat
  have hrs := h.rs
  refine ⟨(Below.heap_setCell _ _ _ _ (show sb ≠ rb by omega)).trans h.blk, ?_, (Below.heap_setCell _ _ _ _ (show lb ≠ rb by omega)).trans h.lns, by rw [List.length_set]; exact h.len, ⟨xs, ownsRow_of hp1 (fun k hk => ?_), hp2⟩, ownsRow_of h.own (fun k hk => ?_), h.rs, h.ss⟩
  · have := heap_setCell_same (o := q) h.rch (.int .i64 x)
    rw [this, ints_set]
    simp
  · exact Below.heap_setCell _ _ _ _ (h.ss k hk).2.1
  · have := (h.own.lt k hk).1
    exact Below.heap_setCell _ _ _ _ (show k ≠ rb by omega)
theorem Srch.rcell {w sb rb lb bs vS Q ls p rv vK stk best} {q x : Nat} (h : Srch w sb rb lb bs vS Q ls p rv vK stk best) (hq : rv[q]? = some x) : w.cell? ⟨rb, q, none⟩ = some (.int .i64 x) := cell_of h.rch (by rw [List.getElem?_toArray]; exact ints_get _ _ _ hq)
theorem Srch.scell {w sb rb lb bs vS Q ls p rv K n cap stk best} {k x : Nat} (h : Srch w sb rb lb bs vS Q ls p rv (.slice (some ⟨K, 0, none⟩) n cap) stk best) (hk : stk[k]? = some x) : w.cell? ⟨K, k, none⟩ = some (.int .i64 x) := by
  have := h.own.cells (g := K) rfl k _ (ints_get _ _ _ hk)
  unfold Addr.add at this
  split at this
  · rename_i h0; rw [h0]; exact this
  · simpa using this
theorem PatAt.cells {w G n cap Q k q} (h : PatAt w (.slice (some ⟨G, 0, none⟩) n cap) Q) (hk : Q[k]? = some q) : ∃ ys, SetIs ys q.set ∧ ∀ j u, (stCs q ys)[j]? = some u → w.cell? ⟨G, k * 7 + j, none⟩ = some u := by
  obtain ⟨xs, h2, h3⟩ := h
  obtain ⟨ys, h4, h5⟩ := h3 k q hk
  refine ⟨ys, h4, fun j u hj => ?_⟩
  rcases h2.2 with ⟨e, _⟩ | ⟨g, cap', cur, hv, _, h7, _, _, _, h8⟩
  · cases e
  · cases hv
    have h9 := h5 j u hj
    rw [← h8, List.getElem?_take] at h9
    split at h9
    · refine cell_of h7 ?_
      rw [← Array.getElem?_toList]; exact h9
    · cases h9
theorem PatAt.form {w v Q} (h : PatAt w v Q) (hQ : Q.length ≠ 0) : ∃ G cap, v = .slice (some ⟨G, 0, none⟩) Q.length cap := by
  obtain ⟨xs, h2, _⟩ := h
  rcases h2.2 with ⟨_, h0⟩ | ⟨g, cap, cur, hv, _⟩
  · exact absurd h0 hQ
  · exact ⟨g, cap, hv⟩
theorem own_form {w : World} {B : Nat} {e : TypeId} {z : Nat} {v : Value} {n : Nat} {xs : List Value} (h : w.ownsRow B e z v n xs) (hn : n ≠ 0) : ∃ G cap, v = .slice (some ⟨G, 0, none⟩) n cap := by
  rcases h.2 with ⟨_, h0⟩ | ⟨g, cap, cur, hv, _⟩
  · exact absurd h0 hn
  · exact ⟨g, cap, hv⟩
end Go.Proofs.YtdbdbaepmdmnfaaGreatDoor
namespace Go.Proofs.YtdbdbaepmdmnfaaGreatDoor
open Go.RowKit
theorem info3 : (Tryz.prog.info? 3).map (fun i => (i.zero, i.size, i.bytes)) = some (some (.int .i64 0), 1, 8) := by kernel_rfl
theorem info283 : (Tryz.prog.info? 248).map (fun i => (i.zero, i.size, i.bytes)) = some (some (.agg #[.int .i64 0, .int .i64 0]), 2, 16) := by kernel_rfl
def stkN (w : World) (sb : Nat) : Nat := match w.cell? ⟨sb, 2, none⟩ with | some (.slice _ n _) => n | _ => 0
def unmN (w : World) (rb n : Nat) (x : Int) : Nat := (List.range n).countP (fun k => match w.cell? ⟨rb, k, none⟩ with | some v => intOf v != x | none => false)
theorem Srch.stkN {w sb rb lb bs vS Q ls p rv vK stk best} (h : Srch w sb rb lb bs vS Q ls p rv vK stk best) : stkN w sb = stk.length := by
  obtain ⟨po, cap, rfl⟩ := ownsRow_slice h.own
  have : w.cell? ⟨sb, 2, none⟩ = some (.slice po stk.length cap) := cell_of h.blk rfl
  unfold YtdbdbaepmdmnfaaGreatDoor.stkN
  rw [this]
theorem Srch.unmN {w sb rb lb bs vS Q ls p rv vK stk best} (h : Srch w sb rb lb bs vS Q ls p rv vK stk best) (x : Nat) : unmN w rb Q.length ((x : Int)) = unm rv x := by
  have hr : rv = (List.range rv.length).map (fun k => rv.getD k 0) := by
    apply List.ext_getElem
    · simp
    · intro i h1 h2
      simp [h1]
  unfold YtdbdbaepmdmnfaaGreatDoor.unmN unm
  conv => rhs; rw [hr]
  rw [List.countP_map, h.len]
  apply List.countP_congr
  intro k hk
  have hk' : k < rv.length := by rw [h.len]; exact List.mem_range.1 hk
  have hq : rv[k]? = some rv[k] := List.getElem?_eq_getElem hk'
  rw [h.rcell hq]
  have e : rv.getD k 0 = rv[k] := by simp [hk']
  simp only [Function.comp, e, intOf]
  constructor
  · intro h1
    simp only [bne_iff_ne, ne_eq] at h1 ⊢
    omega
  · intro h1
    simp only [bne_iff_ne, ne_eq] at h1 ⊢
    omega
/-- While follow goes round. -/
def FLoop (W0 : World) (sb rb lb bs : Nat) (vS : Value) (Q : List St) (t : List UInt8) (ls : List Int) (rv : List Nat) (vK : Value) (best : Option Nat) (vO : Value) (O : List (Nat × Nat)) (q0 b p : Nat) (s1 : Value) (wr : World) : Prop :=
  ∃ (vK1 : Value) (stk1 rv1 : List Nat) (O1 : List (Nat × Nat)) (best1 : Option Nat), Srch wr sb rb lb bs vS Q ls p rv1 vK1 stk1 best1 ∧ wr.ownsRow bs 248 2 s1 O1.length (thr O1) ∧
    FInv Q t p b q0 (fun q => rv[q]? = some (p + 1)) O best stk1 (fun q => rv1[q]? = some (p + 1)) O1 best1 ∧ (∀ x ∈ stk1, x < Q.length) ∧ O1.length + unm rv1 (p + 1) ≤ Q.length ∧ 2 * unm rv1 (p + 1) + stk1.length ≤ 2 * Q.length + 1 ∧
    (∀ (k x : Nat), rv1[k]? = some x → x = p + 1 ∨ rv[k]? = some x) ∧ Only (fun k => k = sb ∨ (k = rb ∨ k = lb) ∨ some k = vK.ownBlock ∨ some k = vO.ownBlock) W0 wr ∧ MovedB W0 vK vK1 ∧ MovedB W0 vO s1
def FollowPost (w : World) (sb rb lb bs : Nat) (vS : Value) (Q : List St) (t : List UInt8) (ls : List Int) (rv : List Nat) (vK : Value) (best : Option Nat) (vO : Value) (O : List (Nat × Nat)) (q0 b p : Nat) (e : Ending) (w' : World) : Prop :=
  ∃ (vO' : Value) (vK1 : Value) (rv1 : List Nat) (O1 : List (Nat × Nat)) (best1 : Option Nat), e = .returned vO' ∧ Srch w' sb rb lb bs vS Q ls p rv1 vK1 [] best1 ∧ w'.ownsRow bs 248 2 vO' O1.length (thr O1) ∧
    FInv Q t p b q0 (fun q => rv[q]? = some (p + 1)) O best [] (fun q => rv1[q]? = some (p + 1)) O1 best1 ∧ O1.length + unm rv1 (p + 1) ≤ Q.length ∧
    (∀ (k x : Nat), rv1[k]? = some x → x = p + 1 ∨ rv[k]? = some x) ∧ Only (fun k => k = sb ∨ (k = rb ∨ k = lb) ∨ some k = vK.ownBlock ∨ some k = vO.ownBlock) w w' ∧ MovedB w vK vK1 ∧ MovedB w vO vO'
theorem Only.fromAlloc {D : Nat → Prop} {w w' : World} {o : Obj} (h : Only D (w.alloc o) w') : Only D w w' := ((Only.refl D w).alloc o).trans h (fun _ _ e => e)
theorem MovedB.fromAlloc {w : World} {o : Obj} {v v' : Value} (h : MovedB (w.alloc o) v v') : MovedB w v v' := by
  rcases h with h | ⟨G, h, h2⟩
  · exact Or.inl h
  · exact Or.inr ⟨G, h, by rw [World.size_alloc] at h2; omega⟩
theorem FLoop.done {w sb rb lb bs vS Q t ls rv vK best vO O q0 b p s1 wr o vK1 rv1 O1 best1} (h1 : Srch wr sb rb lb bs vS Q ls p rv1 vK1 [] best1) (h2 : wr.ownsRow bs 248 2 s1 O1.length (thr O1))
    (h3 : FInv Q t p b q0 (fun q => rv[q]? = some (p + 1)) O best [] (fun q => rv1[q]? = some (p + 1)) O1 best1) (h4 : O1.length + unm rv1 (p + 1) ≤ Q.length) (h5 : ∀ (k x : Nat), rv1[k]? = some x → x = p + 1 ∨ rv[k]? = some x)
    (h6 : Only (fun k => k = sb ∨ (k = rb ∨ k = lb) ∨ some k = vK.ownBlock ∨ some k = vO.ownBlock) (w.alloc o) wr) (h7 : MovedB (w.alloc o) vK vK1) (h8 : MovedB (w.alloc o) vO s1) : FollowPost w sb rb lb bs vS Q t ls rv vK best vO O q0 b p (.returned s1) wr :=
  ⟨s1, vK1, rv1, O1, best1, rfl, h1, h2, h3, h4, h5, h6.fromAlloc, h7.fromAlloc, h8.fromAlloc⟩
/-- What a state's kind says of the ways on from it. -/
theorem step_of {Q : List St} {t : List UInt8} {q p r : Nat} {st : St} (hq : Q[q]? = some st) : Step Q t q p r p ↔ (st.kind = 1 ∧ p = 0 ∧ r = st.next) ∨ (st.kind = 2 ∧ p = t.length ∧ r = st.next) ∨ (st.kind = 3 ∧ (r = st.next ∨ r = st.other)) := by
  constructor
  · rintro ⟨s, h, h1 | h1 | h1 | h1⟩
    · obtain ⟨_, c, _, _, _, h2⟩ := h1; omega
    · rw [hq] at h; cases h; exact Or.inl ⟨h1.1, h1.2.1, h1.2.2.1⟩
    · rw [hq] at h; cases h; exact Or.inr (Or.inl ⟨h1.1, h1.2.1, h1.2.2.1⟩)
    · rw [hq] at h; cases h; exact Or.inr (Or.inr ⟨h1.1, h1.2.1⟩)
  · rintro (h | h | h)
    · exact ⟨st, hq, Or.inr (Or.inl ⟨h.1, h.2.1, h.2.2, rfl⟩)⟩
    · exact ⟨st, hq, Or.inr (Or.inr (Or.inl ⟨h.1, h.2.1, h.2.2, rfl⟩))⟩
    · exact ⟨st, hq, Or.inr (Or.inr (Or.inr ⟨h.1, h.2, rfl⟩))⟩
theorem takes_iff {Q : List St} {q : Nat} {st : St} (hq : Q[q]? = some st) : Takes Q q ↔ st.kind = 0 := ⟨fun ⟨s, h, hk⟩ => by rw [hq] at h; cases h; exact hk, fun h => ⟨st, hq, h⟩⟩
theorem done_iff {Q : List St} {q : Nat} {st : St} (hq : Q[q]? = some st) : Done Q q ↔ st.kind = 4 := ⟨fun ⟨s, h, hk⟩ => by rw [hq] at h; cases h; exact hk, fun h => ⟨st, hq, h⟩⟩
theorem set_iff {rv : List Nat} {q y : Nat} (h : q < rv.length) (x : Nat) : (rv.set q y)[x]? = some y ↔ rv[x]? = some y ∨ x = q := by
  by_cases e : x = q
  · subst e; simp [List.getElem?_set_self h]
  · rw [List.getElem?_set_ne (fun h => e h.symm)]; simp [e]
end Go.Proofs.YtdbdbaepmdmnfaaGreatDoor

namespace Go.Proofs.YtdbdbaepmdmnfaaGreatDoor
open Go.RowKit
/-- The lengths of the places beyond p are told; those ahead of it are not yet. -/
def LsOK (Q : List St) (t : List UInt8) (last p : Nat) (ls : List Int) : Prop :=
  ls.length = t.length + 1 ∧ (∀ k, p < k → k ≤ t.length → ∃ b, LenAt Q t last k b ∧ ls[k]? = some (lenV k b)) ∧ ∀ k, k < p → ls[k]? = some (-1)
/-- What holds of a search at place p; the ends from h on were followed; open and next are vO and vN. -/
def RunI (w0 wr : World) (sb rb lb bs : Nat) (vS : Value) (Q : List St) (t : List UInt8) (ls : List Int) (last p h : Nat) (vO vN : Value) (O : List (Nat × Nat)) (best : Option Nat) : Prop :=
  ∃ (rv : List Nat) (vK : Value) (stk : List Nat) (N : List (Nat × Nat)), Srch wr sb rb lb bs vS Q ls p rv vK stk best ∧ wr.ownsRow bs 248 2 vO O.length (thr O) ∧ wr.ownsRow bs 248 2 vN N.length (thr N) ∧ (∀ k, vO.ownBlock = some k → vN.ownBlock ≠ some k) ∧
    RInv Q t last p h (fun q => rv[q]? = some (p + 1)) O best ∧ (∀ (k x : Nat), rv[k]? = some x → x = 0 ∨ p + 1 ≤ x) ∧ O.length + unm rv (p + 1) ≤ Q.length ∧ Only (fun k => k = sb ∨ (k = rb ∨ k = lb)) w0 wr ∧ MovedB w0 (.slice none 0 0) vK ∧ MovedB w0 (.slice none 0 0) vO ∧ MovedB w0 (.slice none 0 0) vN
/-- While the threads of place p + 1 are gone through: the first i of O were. -/
def InI (w0 wr : World) (sb rb lb bs : Nat) (vS : Value) (Q : List St) (t : List UInt8) (ls : List Int) (p : Nat) (vO : Value) (O : List (Nat × Nat)) (i : Nat) (vN : Value) (best : Option Nat) : Prop :=
  ∃ (rv : List Nat) (vK : Value) (stk : List Nat) (N : List (Nat × Nat)), Srch wr sb rb lb bs vS Q ls p rv vK stk best ∧ wr.ownsRow bs 248 2 vO O.length (thr O) ∧ wr.ownsRow bs 248 2 vN N.length (thr N) ∧ (∀ k, vO.ownBlock = some k → vN.ownBlock ≠ some k) ∧
    PInv Q t p (srcOf Q t p (O.take i)) (fun q => rv[q]? = some (p + 1)) N best ∧ (∀ (k x : Nat), rv[k]? = some x → x = 0 ∨ p + 1 ≤ x) ∧ N.length + unm rv (p + 1) ≤ Q.length ∧ Only (fun k => k = sb ∨ (k = rb ∨ k = lb)) w0 wr ∧ MovedB w0 (.slice none 0 0) vK ∧ MovedB w0 (.slice none 0 0) vO ∧ MovedB w0 (.slice none 0 0) vN
theorem movedNil {w : World} {v : Value} (h : MovedB w (.slice none 0 0) v) : ∀ k, v.ownBlock = some k → w.heap.size ≤ k := by
  intro k hk
  rcases h with h | ⟨G, h, h2⟩
  · rw [h] at hk; cases hk
  · rw [h] at hk; cases hk; exact h2
/-- What else lies in memory stands while a thread is followed. -/
theorem follow_frame {w0 w w' : World} {sb rb lb bs : Nat} {vS : Value} {Q : List St} {ls : List Int} {p : Nat} {rv : List Nat} {vK : Value} {stk : List Nat} {best : Option Nat} {vO vN vK1 vO1 : Value} {n : Nat} {xs : List Value} {n1 : Nat} {xs1 : List Value}
    (hS : Srch w sb rb lb bs vS Q ls p rv vK stk best) (hN : w.ownsRow bs 248 2 vN n xs) (hap : ∀ k, vO.ownBlock = some k → vN.ownBlock ≠ some k) (ho : Only (fun k => k = sb ∨ (k = rb ∨ k = lb) ∨ some k = vK.ownBlock ∨ some k = vO.ownBlock) w w')
    (_hO1 : w'.ownsRow bs 248 2 vO1 n1 xs1) (hk1 : MovedB w vK vK1) (ho1 : MovedB w vO vO1) (h0 : Only (fun k => k = sb ∨ (k = rb ∨ k = lb)) w0 w) (mK : MovedB w0 (.slice none 0 0) vK) (mO : MovedB w0 (.slice none 0 0) vO) :
    w'.ownsRow bs 248 2 vN n xs ∧ (∀ k, vO1.ownBlock = some k → vN.ownBlock ≠ some k) ∧ Only (fun k => k = sb ∨ (k = rb ∨ k = lb)) w0 w' ∧ MovedB w0 (.slice none 0 0) vK1 ∧ MovedB w0 (.slice none 0 0) vO1 := by
  have hrs := hS.rs
  refine ⟨ownsRow_of hN (fun k hk => ho.block k (hN.lt k hk).2 ?_), fun k hk e => ?_, h0.trans ho (fun i hi e => ?_), mK.trans h0.size hk1, mO.trans h0.size ho1⟩
  · have := (hN.lt k hk).1
    rintro (e | e | e | e)
    · omega
    · omega
    · exact rows_apart hN hS.own (by decide) k hk e.symm
    · exact hap k e.symm hk
  · rcases ho1 with e1 | ⟨G, e1, e2⟩
    · rw [e1] at hk; exact hap k hk e
    · rw [e1] at hk; cases hk
      have := (hN.lt _ e).2
      omega
  · rcases e with e | e | e | e
    · exact Or.inl e
    · exact Or.inr e
    · have := movedNil mK i e.symm; omega
    · have := movedNil mO i e.symm; omega
theorem row_none {w : World} {B : Nat} {e : TypeId} {z : Nat} {po : Option Addr} {n cap n' : Nat} {xs : List Value} (h : w.ownsRow B e z (.slice po n cap) n' xs) : w.ownsRow B e z (.slice po 0 cap) 0 [] := by
  refine ⟨by simp, ?_⟩
  rcases h.2 with ⟨e1, e2⟩ | ⟨g, cap', cur, hv, h3, h4, h5, h6, h7, h8⟩
  · cases e1
    exact Or.inl ⟨rfl, rfl⟩
  · cases hv
    exact Or.inr ⟨g, cap, cur, rfl, h3, h4, Nat.zero_le _, h6, h7, by simp⟩
theorem RunI.begin {w : World} {sb rb lb bs : Nat} {vS : Value} {Q : List St} {t : List UInt8} {ls : List Int} {last : Nat} {rv : List Nat} (h : Srch w sb rb lb bs vS Q ls t.length rv (.slice none 0 0) [] none) (hrv : ∀ (k x : Nat), rv[k]? = some x → x = 0) :
    RunI w w sb rb lb bs vS Q t ls last t.length (t.length + 1) (.slice none 0 0) (.slice none 0 0) [] none :=
  ⟨rv, .slice none 0 0, [], [], h, World.ownsRow_nil _ _ _ _, World.ownsRow_nil _ _ _ _, (fun k hk => by cases hk), RInv.begin _ (fun q hq => by have := hrv _ _ hq; omega), (fun k x hx => Or.inl (hrv k x hx)), by have := unm_le rv (t.length + 1); rw [h.len] at this; simpa using this, Only.refl _ _, MovedB.refl _ _, MovedB.refl _ _, MovedB.refl _ _⟩
/-- The threads that came on are the open ones at the next place. -/
theorem InI.next {w0 wr : World} {sb rb lb bs : Nat} {vS : Value} {Q : List St} {t : List UInt8} {ls : List Int} {last p : Nat} {vO : Value} {O : List (Nat × Nat)} {best0 : Option Nat} {vN : Value} {best : Option Nat} {M : Nat → Prop}
    (h : InI w0 wr sb rb lb bs vS Q t ls p vO O O.length vN best) (hR : RInv Q t last (p + 1) (p + 1) M O best0) :
    ∃ N, RunI w0 wr sb rb lb bs vS Q t ls last p (p + 1) vN vO N best := by
  obtain ⟨rv, vK, stk, N, h1, h2, h3, h4, h5, h6, h7, h8, h9, h10, h11⟩ := h
  rw [List.take_length] at h5
  exact ⟨N, rv, vK, stk, O, h1, h3, h2, fun k hk e => h4 k e hk, RInv.next hR h5, h6, h7, h8, h9, h11, h10⟩
theorem LsOK.next {Q t last p ls b} (h : LsOK Q t last (p + 1) ls) (hp : p + 1 ≤ t.length) (hb : LenAt Q t last (p + 1) b) : LsOK Q t last p (ls.set (p + 1) (lenV (p + 1) b)) := by
  obtain ⟨h1, h2, h3⟩ := h
  refine ⟨by rw [List.length_set]; exact h1, fun k hk hl => ?_, fun k hk => ?_⟩
  · by_cases e : k = p + 1
    · subst e
      exact ⟨b, hb, List.getElem?_set_self (by omega)⟩
    · obtain ⟨c, h4, h5⟩ := h2 k (by omega) hl
      exact ⟨c, h4, by rw [List.getElem?_set_ne (fun h => e h.symm)]; exact h5⟩
  · rw [List.getElem?_set_ne (by omega)]
    exact h3 k (by omega)
/-- What is told of all places. -/
def AllLen (Q : List St) (t : List UInt8) (last : Nat) (L : List Int) : Prop := L.length = t.length + 1 ∧ ∀ k, k ≤ t.length → ∃ b, LenAt Q t last k b ∧ L[k]? = some (lenV k b)
theorem LsOK.all {Q t last ls b} (h : LsOK Q t last 0 ls) (hb : LenAt Q t last 0 b) : AllLen Q t last (ls.set 0 (lenV 0 b)) := by
  obtain ⟨h1, h2, h3⟩ := h
  refine ⟨by rw [List.length_set]; exact h1, fun k hl => ?_⟩
  by_cases e : k = 0
  · subst e
    exact ⟨b, hb, List.getElem?_set_self (by omega)⟩
  · obtain ⟨c, h4, h5⟩ := h2 k (by omega) hl
    exact ⟨c, h4, by rw [List.getElem?_set_ne (fun h => e h.symm)]; exact h5⟩
theorem thr_get (l : List (Nat × Nat)) (i q b : Nat) (h : l[i]? = some (q, b)) : (thr l)[i * 2]? = some (.int .i64 q) ∧ (thr l)[i * 2 + 1]? = some (.int .i64 b) := by
  induction l generalizing i with
  | nil => simp at h
  | cons a l ih =>
    cases i with
    | zero =>
      simp at h
      subst h
      simp [thr]
    | succ i =>
      simp at h
      have := ih i h
      rw [show (i + 1) * 2 = i * 2 + 2 by omega, show i * 2 + 2 + 1 = (i * 2 + 1) + 2 by omega]
      simpa [thr] using this
theorem thr_cell {w : World} {B GO n cap : Nat} {O : List (Nat × Nat)} {i q b : Nat} (h : w.ownsRow B 248 2 (.slice (some ⟨GO, 0, none⟩) n cap) O.length (thr O)) (hi : O[i]? = some (q, b)) : w.cell? ⟨GO, i * 2, none⟩ = some (.int .i64 q) ∧ w.cell? ⟨GO, i * 2 + 1, none⟩ = some (.int .i64 b) := by
  have key : ∀ j u, (thr O)[j]? = some u → w.cell? ⟨GO, j, none⟩ = some u := fun j u hj => by
    have := h.cells (g := GO) rfl j u hj
    unfold Addr.add at this
    split at this
    · rename_i h0; rw [h0]; exact this
    · simpa using this
  exact ⟨key _ _ (thr_get O i q b hi).1, key _ _ (thr_get O i q b hi).2⟩
end Go.Proofs.YtdbdbaepmdmnfaaGreatDoor
namespace Go.Proofs.YtdbdbaepmdmnfaaGreatDoor
open Go.RowKit
theorem src_nil (Q : List St) (t : List UInt8) (p : Nat) : srcOf Q t p [] = fun _ _ => False := by
  funext q b
  simp [srcOf]
theorem step_byte {Q : List St} {t : List UInt8} {q p r : Nat} {st : St} {c : UInt8} (hq : Q[q]? = some st) (hk : st.kind = 0) (hc : t[p]? = some c) : Step Q t q (p + 1) r p ↔ st.set c = true ∧ r = st.next := by
  constructor
  · rintro ⟨s, h, h1 | h1 | h1 | h1⟩
    · rw [hq] at h; cases h
      obtain ⟨_, c', h2, h3, h4, _⟩ := h1
      rw [hc] at h2; cases h2
      exact ⟨h3, h4⟩
    · omega
    · omega
    · omega
  · rintro ⟨h1, rfl⟩
    exact ⟨st, hq, Or.inl ⟨hk, c, hc, h1, rfl, rfl⟩⟩
theorem take_push {O : List (Nat × Nat)} {i q b : Nat} (h : O[i]? = some (q, b)) : O.take (i + 1) = O.take i ++ [(q, b)] := by
  rw [List.take_add_one, h]; rfl
theorem src_yes {Q : List St} {t : List UInt8} {p : Nat} {l : List (Nat × Nat)} {q b : Nat} {st : St} {c : UInt8} (hq : Q[q]? = some st) (hk : st.kind = 0) (hc : t[p]? = some c) (hs : st.set c = true) : srcOf Q t p (l ++ [(q, b)]) = fun q' b' => srcOf Q t p l q' b' ∨ (q' = st.next ∧ b' = b) := by
  funext q' b'
  unfold srcOf
  apply propext
  constructor
  · rintro ⟨x, hx, h1, h2⟩
    rcases List.mem_append.1 hx with hx | hx
    · exact Or.inl ⟨x, hx, h1, h2⟩
    · simp at hx; subst hx
      exact Or.inr ⟨((step_byte hq hk hc).1 h2).2, h1.symm⟩
  · rintro (⟨x, hx, h1, h2⟩ | ⟨h1, h2⟩)
    · exact ⟨x, List.mem_append.2 (Or.inl hx), h1, h2⟩
    · exact ⟨(q, b), by simp, h2.symm, (step_byte hq hk hc).2 ⟨hs, h1⟩⟩
theorem src_no {Q : List St} {t : List UInt8} {p : Nat} {l : List (Nat × Nat)} {q b : Nat} {st : St} {c : UInt8} (hq : Q[q]? = some st) (hk : st.kind = 0) (hc : t[p]? = some c) (hs : st.set c = false) : srcOf Q t p (l ++ [(q, b)]) = srcOf Q t p l := by
  funext q' b'
  unfold srcOf
  apply propext
  constructor
  · rintro ⟨x, hx, h1, h2⟩
    rcases List.mem_append.1 hx with hx | hx
    · exact ⟨x, hx, h1, h2⟩
    · simp at hx; subst hx
      have := ((step_byte hq hk hc).1 h2).1
      rw [hs] at this; cases this
  · rintro ⟨x, hx, h1, h2⟩
    exact ⟨x, List.mem_append.2 (Or.inl hx), h1, h2⟩
theorem sorted_at {O : List (Nat × Nat)} {i : Nat} {x : Nat × Nat} (hs : O.Pairwise (fun x y => y.2 ≤ x.2)) (hx : O[i]? = some x) : ∀ y ∈ O.take i, x.2 ≤ y.2 := by
  obtain ⟨hi, e⟩ := List.getElem?_eq_some_iff.1 hx
  have h1 : O = O.take i ++ (x :: O.drop (i + 1)) := by
    rw [← e, List.getElem_cons_drop]; exact (List.take_append_drop i O).symm
  rw [h1] at hs
  rw [List.pairwise_append] at hs
  exact fun y hy => hs.2.2 y hy x (by simp)
theorem src_ge {Q : List St} {t : List UInt8} {p b : Nat} {l : List (Nat × Nat)} (h : ∀ y ∈ l, b ≤ y.2) : ∀ q b', srcOf Q t p l q b' → b ≤ b' := by
  rintro q b' ⟨x, hx, rfl, _⟩
  exact h x hx
theorem InI.begin {w0 wr : World} {sb rb lb bs : Nat} {vS : Value} {Q : List St} {t : List UInt8} {ls : List Int} {last p h : Nat} {vO : Value} {poN : Option Addr} {nN capN : Nat} {O : List (Nat × Nat)} {best : Option Nat} (h : RunI w0 wr sb rb lb bs vS Q t ls last (p + 1) h vO (.slice poN nN capN) O best) (hl : LsOK Q t last (p + 1) ls) :
    InI w0 wr sb rb lb bs vS Q t (ls.set (p + 1) (lenV (p + 1) best)) p vO O 0 (.slice poN 0 capN) none := by
  obtain ⟨rv, vK, stk, N, h1, h2, h3, h4, h5, h6, h7, h8, h9, h10, h11⟩ := h
  have hown : ∀ n m, (Value.slice poN n capN).ownBlock = (Value.slice poN m capN).ownBlock := fun n m => by cases poN <;> rfl
  refine ⟨rv, vK, stk, [], h1.turn p (by rw [List.getElem?_set_ne (by omega)]; exact hl.2.2 p (by omega)), h2, row_none h3, fun k hk e => h4 k hk (by rw [hown nN 0]; exact e), ?_, fun k x hx => by have := h6 k x hx; omega, ?_, h8, h9, h10, ?_⟩
  · rw [List.take_zero, src_nil]
    exact PInv.begin _ (fun q hq => by have := h6 _ _ hq; omega)
  · have := unm_le rv (p + 1)
    rw [h1.len] at this
    simpa using this
  · rcases h11 with e | ⟨G, e, e2⟩
    · exact Or.inl (by rw [hown 0 nN]; exact e)
    · exact Or.inr ⟨G, by rw [hown 0 nN]; exact e, e2⟩
/-- A box that is made turns nothing. -/
theorem InI.alloc {w0 wr : World} {sb rb lb bs : Nat} {vS : Value} {Q : List St} {t : List UInt8} {ls : List Int} {p : Nat} {vO : Value} {O : List (Nat × Nat)} {i : Nat} {vN : Value} {best : Option Nat} (h : InI w0 wr sb rb lb bs vS Q t ls p vO O i vN best) (o : Obj) (n : Nat) : InI w0 ((wr.alloc o).drewN n) sb rb lb bs vS Q t ls p vO O i vN best := by
  obtain ⟨rv, vK, stk, N, h1, h2, h3, h4, h5, h6, h7, h8, h9, h10, h11⟩ := h
  refine ⟨rv, vK, stk, N, h1.only (D := fun _ => False) (((Only.refl _ wr).alloc o).drewN n) (fun e => e) (fun e => e) (fun e => e) (fun _ _ e => e) (fun _ _ e => e), ownsRow_of h2 (fun k hk => Below.heap_alloc _ _ _ (h2.lt k hk).2), ownsRow_of h3 (fun k hk => Below.heap_alloc _ _ _ (h3.lt k hk).2), h4, h5, h6, h7, (h8.alloc o).drewN n, h9, h10, h11⟩
theorem InI.pass {w0 wr : World} {sb rb lb bs : Nat} {vS : Value} {Q : List St} {t : List UInt8} {ls : List Int} {p : Nat} {vO : Value} {O : List (Nat × Nat)} {i : Nat} {vN : Value} {best : Option Nat} {q b : Nat} {st : St} {c : UInt8} (h : InI w0 wr sb rb lb bs vS Q t ls p vO O i vN best)
    (hx : O[i]? = some (q, b)) (hq : Q[q]? = some st) (hk : st.kind = 0) (hc : t[p]? = some c) (hs : st.set c = false) : InI w0 wr sb rb lb bs vS Q t ls p vO O (i + 1) vN best := by
  obtain ⟨rv, vK, stk, N, h1, h2, h3, h4, h5, h6⟩ := h
  refine ⟨rv, vK, stk, N, h1, h2, h3, h4, ?_, h6⟩
  rw [take_push hx, src_no hq hk hc hs]
  exact h5
theorem InI.step {w0 W w2 : World} {sb rb lb bs : Nat} {vS : Value} {Q : List St} {t : List UInt8} {ls : List Int} {p : Nat} {vO : Value} {O : List (Nat × Nat)} {i : Nat} {vN : Value} {b3 : Option Nat} {rv3 : List Nat} {vK3 : Value} {stk3 : List Nat} {N3 : List (Nat × Nat)} {q b : Nat} {st : St} {c : UInt8} {e : Ending}
    (hu : OneDone Q) (hS3 : Srch W sb rb lb bs vS Q ls p rv3 vK3 stk3 b3) (hO3 : W.ownsRow bs 248 2 vO O.length (thr O)) (hap3 : ∀ k, vO.ownBlock = some k → vN.ownBlock ≠ some k)
    (hP3 : PInv Q t p (srcOf Q t p (O.take i)) (fun q => rv3[q]? = some (p + 1)) N3 b3) (hrv3 : ∀ (k x : Nat), rv3[k]? = some x → x = 0 ∨ p + 1 ≤ x) (ho3 : Only (fun k => k = sb ∨ (k = rb ∨ k = lb)) w0 W) (mK3 : MovedB w0 (.slice none 0 0) vK3) (mO3 : MovedB w0 (.slice none 0 0) vO) (mN3 : MovedB w0 (.slice none 0 0) vN)
    (hx : O[i]? = some (q, b)) (hq : Q[q]? = some st) (hk : st.kind = 0) (hc : t[p]? = some c) (hs : st.set c = true) (hsort : ∀ y ∈ O.take i, b ≤ y.2)
    (hf : FollowPost W sb rb lb bs vS Q t ls rv3 vK3 b3 vN N3 st.next b p e w2) : ∃ vN4 b4, e = .returned vN4 ∧ InI w0 w2 sb rb lb bs vS Q t ls p vO O (i + 1) vN4 b4 := by
  obtain ⟨vN4, vK4, rv4, N4, b4, rfl, hS4, hN4, hF4, hol4, hrv4, ho4, mk4, mn4⟩ := hf
  obtain ⟨f1, f2, f3, f4, f5⟩ := follow_frame hS3 hO3 (fun k hk e => hap3 k e hk) ho4 hN4 mk4 mn4 ho3 mK3 mN3
  refine ⟨vN4, b4, rfl, rv4, vK4, [], N4, hS4, f1, hN4, fun k hk e => f2 k e hk, ?_, ?_, hol4, f3, f4, mO3, f5⟩
  · rw [take_push hx, src_yes hq hk hc hs]
    exact PInv.follow hP3 hu hF4 (src_ge hsort)
  · intro k x hx4
    rcases hrv4 k x hx4 with h | h
    · omega
    · exact hrv3 k x h
end Go.Proofs.YtdbdbaepmdmnfaaGreatDoor

namespace Go.Proofs.YtdbdbaepmdmnfaaGreatDoor
open Go.RowKit
theorem own_room {w : World} {B : Nat} {e : TypeId} {z : Nat} {po : Option Addr} {n cap n' : Nat} {xs : List Value} (h : w.ownsRow B e z (.slice po n cap) n' xs) : n' ≤ cap := by
  rcases h.2 with ⟨_, e⟩ | ⟨_, _, _, hv, _, _, h5, _⟩
  · omega
  · cases hv; exact h5
theorem Srch.grownO {w w1 sb rb lb bs vS Q ls p rv vK stk best vO n xs} (h : Srch w sb rb lb bs vS Q ls p rv vK stk best) (hO : w.ownsRow bs 248 2 vO n xs) (hg : w.grownBy w1 vO.ownBlock) : Srch w1 sb rb lb bs vS Q ls p rv vK stk best := by
  have ho : Only (fun k => some k = vO.ownBlock) w w1 := (Only.refl _ w).grown hg (fun k hk _ => hk.symm)
  have hrs := h.rs
  refine h.only ho (fun e => ?_) (fun e => ?_) (fun e => ?_) (fun k hk e => ?_) (fun k hk e => rows_apart h.own hO (by decide) k hk e.symm)
  · have := (hO.lt _ e.symm).1; omega
  · have := (hO.lt _ e.symm).1; omega
  · have := (hO.lt _ e.symm).1; omega
  · have := (hO.lt _ e.symm).1
    have := h.ss k hk
    omega
theorem push_srch {W sb rb lb bs vS Q ls p rv vK l best vO n xs sl w4 v' ss} (h : Srch W sb rb lb bs vS Q ls p rv vK l best) (hO : W.ownsRow bs 248 2 vO n xs) (hg : ((W.alloc sl).drew).grownBy w4 vK.ownBlock) (ho : w4.ownsRow bs 3 1 v' (l ++ ss).length (ints (l ++ ss))) :
    Srch (w4.setCell ⟨sb, 2, none⟩ v') sb rb lb bs vS Q ls p rv v' (l ++ ss) best ∧ (w4.setCell ⟨sb, 2, none⟩ v').ownsRow bs 248 2 vO n xs := by
  have h2 : Srch ((W.alloc sl).drew) sb rb lb bs vS Q ls p rv vK l best := h.only (D := fun _ => False) (((Only.refl _ W).alloc sl).drewN 1) (fun e => e) (fun e => e) (fun e => e) (fun _ _ e => e) (fun _ _ e => e)
  have hrs := h.rs
  refine ⟨h2.setStack hg ho, ownsRow_of hO (fun k hk => ?_)⟩
  have hk2 := hO.lt k hk
  have hap : some k ≠ vK.ownBlock := fun e => rows_apart hO h.own (by decide) k hk e.symm
  rw [Below.heap_setCell _ _ _ _ (show k ≠ sb by omega), hg.block k (by show k < (W.alloc sl).heap.size; rw [World.size_alloc]; omega) hap]
  exact Below.heap_alloc _ _ _ hk2.2
theorem moved_of {w : World} {v v' : Value} (h : Moved w v v') : MovedB w v v' := by
  obtain ⟨G, h1, h2⟩ := h
  rcases h2 with h2 | h2
  · exact Or.inl (by rw [h1, h2])
  · exact Or.inr ⟨G, h1, h2⟩
set_option maxRecDepth 100000 in
set_option maxHeartbeats 8000000 in
theorem follow_any (sb rb lb bs : Nat) (vS : Value) (Q : List St) (t : List UInt8) (ls : List Int) (rv : List Nat) (vK : Value) (stk0 : List Nat) (best : Option Nat) (vO : Value) (O : List (Nat × Nat)) (q0 b p : Nat)
    (hwf : WfQ Q) (hq0 : q0 < Q.length) (hls : ls.length = t.length + 1) (hp : p ≤ t.length) (h6 : t.length ≤ 65535) (hb : b ≤ t.length) (hQ : Q.length ≤ 1000000) (w : World) (h : Srch w sb rb lb bs vS Q ls p rv vK stk0 best) (hO : w.ownsRow bs 248 2 vO O.length (thr O))
    (hcl : ∀ q q', rv[q]? = some (p + 1) → Step Q t q p q' p → rv[q']? = some (p + 1)) (hOl : O.length + unm rv (p + 1) ≤ Q.length) (hbw : bs ≤ w.heap.size) :
    Calls Tryz.prog 124 #[.pointer (some ⟨sb, 0, none⟩), vO, .agg #[.int .i64 q0, .int .i64 b], .int .i64 p] w (FollowPost w sb rb lb bs vS Q t ls rv vK best vO O q0 b p) := by
  obtain ⟨i3, hi3, hz30, hz31, hz32⟩ := info_parts info3
  obtain ⟨i2, hi2, hz20, hz21, hz22⟩ := info_parts info283
  obtain ⟨G, capS, rfl⟩ := h.pat.form (by omega)
  obtain ⟨poO, capO, rfl⟩ := ownsRow_slice hO
  have hrs := h.rs
  have hsl := heap_lt h.blk
  have hrl := heap_lt h.rch
  have hGs : G ≠ sb ∧ G ≠ rb ∧ G ≠ lb ∧ G < bs := h.ss G rfl
  have hlbl := heap_lt h.lns
  have hl6 : ls.length ≤ 65536 := by omega
  have HLs := hide hls
  have HP6 := hide hp
  have hp6 : p ≤ 65535 := by omega
  have hlp : p < ls.length := by omega
  have hb6 : b ≤ 65535 := by omega
  clear hls
  have hpI : (p : Int) + 1 ≤ 65536 := by omega
  have HWf := hide hwf
  have HCl := hide hcl
  have HS := hide h
  have HO := hide hO
  have hu := unm_le rv (p + 1)
  rw [h.len] at hu
  have hKlt : ∀ k, vK.ownBlock = some k → bs ≤ k ∧ k < w.heap.size := fun k hk => h.own.lt k hk
  have hOlt : ∀ k, (Value.slice poO O.length capO).ownBlock = some k → bs ≤ k ∧ k < w.heap.size := fun k hk => hO.lt k hk
  have HKlt := hide hKlt
  have HOlt := hide hOlt
  have c4 : w.cell? ⟨sb, 2, none⟩ = some vK := cell_of h.blk rfl
  have f4 := free_of h.blk 2
  have HBlk := hide h.blk
  clear hwf hcl hKlt hOlt
  have fin : ∀ (w1 : World) (gg cap2 : Nat) (bx sl : Obj), w1.ownsRow bs 3 1 (.slice (some ⟨gg, 0, none⟩) 1 cap2) 1 [.int .i64 q0] → (((w.alloc bx).alloc sl).drew).grownBy w1 vK.ownBlock → (vK.ownBlock = some gg ∨ gg = w.heap.size + 2) →
      FLoop (w.alloc bx) sb rb lb bs (.slice (some ⟨G, 0, none⟩) Q.length capS) Q t ls rv vK best (.slice poO O.length capO) O q0 b p (.slice poO O.length capO) (w1.setCell ⟨sb, 2, none⟩ (.slice (some ⟨gg, 0, none⟩) 1 cap2)) := by
    intro w1 gg cap2 bx sl hown1 hgrow hat
    have hS2 : Srch (((w.alloc bx).alloc sl).drew) sb rb lb bs (.slice (some ⟨G, 0, none⟩) Q.length capS) Q ls p rv vK stk0 best := HS.out.only (D := fun _ => False) ((((Only.refl _ w).alloc bx).alloc sl).drewN 1) (fun e => e) (fun e => e) (fun e => e) (fun _ _ e => e) (fun _ _ e => e)
    have hap : ∀ k, (Value.slice poO O.length capO).ownBlock = some k → some k ≠ vK.ownBlock := fun k hk e => rows_apart HO.out HS.out.own (by decide) k hk e.symm
    refine ⟨.slice (some ⟨gg, 0, none⟩) 1 cap2, [q0], rv, O, best, hS2.setStack hgrow hown1, ?_, FInv.begin HCl.out, fun x hx => by simp at hx; omega, hOl, by simp; omega, fun k x hx => Or.inr hx, ?_, ?_, MovedB.refl _ _⟩
    · refine ownsRow_of HO.out (fun k hk => ?_)
      have hk2 := HOlt.out k hk
      rw [Below.heap_setCell _ _ _ _ (show k ≠ sb by omega), hgrow.block k (by simp; omega) (hap k hk)]
      exact (Below.heap_alloc _ _ _ (by simp; omega)).trans (Below.heap_alloc _ _ _ hk2.2)
    · refine ((((Only.refl (fun k => k = sb ∨ (k = rb ∨ k = lb) ∨ some k = vK.ownBlock ∨ some k = (Value.slice poO O.length capO).ownBlock) (w.alloc bx)).alloc sl).drewN 1).grown hgrow (fun k hk _ => Or.inr (Or.inr (Or.inl hk.symm)))).setCell (p := ⟨sb, 2, none⟩) (fun _ => Or.inl rfl) _
    · rcases hat with e | e
      · exact Or.inl e.symm
      · exact Or.inr ⟨gg, rfl, by rw [World.size_alloc]; omega⟩
  have HFin := hide fin
  clear fin h hO
  have hQ1 : Q.length ≠ 0 := by omega
  go_enter Tryz.func124, Tryz.ntmps124
  go_upto_region 1 with fail
  go_cut [12] from 12 to 23 (fun _ wx => FLoop (w.alloc (.cells #[.int .i64 q0, .int .i64 b] 248)) sb rb lb bs (.slice (some ⟨G, 0, none⟩) Q.length capS) Q t ls rv vK best (.slice poO O.length capO) O q0 b p (.slice poO O.length capO) wx)
  case first =>
    rcases HS.out.own.2 with ⟨hv, hn⟩ | ⟨g, cap, cur, hv, hg1, hg2, hg3, hg4, hg5, hg6⟩
    · subst hv
      have HR : Hid (w.ownsRow bs 3 1 (.slice none 0 0) 0 []) := World.ownsRow_nil _ _ _ _
      have HN : Hid (some sb ≠ (.slice none 0 0 : Value).ownBlock) := fun e => by have := HKlt.out sb e.symm; omega
      go_region_law (refine step_append_lies _ (by rfl) _ _ _ (by rfl) bs 3 i3 _ 1 8 Tryz.underlying126 hi3 hz30 hz31 hz32 rfl (by omega) (.slice none 0 0) 0 [] (by rfl) (((HR.out.alloc _).alloc _).drew) ⟨w.heap.size + 1, 0, none⟩ 1 1 [.int .i64 q0] (by rfl) (by rfl) (World.news_of_block (cs := #[.int .i64 q0]) (t := 3) (fr := (0, 0)) (newb1 w _ _)) (fun u hu => by simp at hu; subst hu; rfl) (by omega) (by unfold maxLen; omega) (by omega) (by simp; omega) (w.heap.size + 2) (by simp) ?_; intro gg cap2 w1 hown1 hgrow hat hlt; have hb1 : w1.heap[sb]? = some (.cells #[.slice (some ⟨G, 0, none⟩) Q.length capS, .slice (some ⟨rb, 0, none⟩) Q.length Q.length, .slice none 0 0, .slice (some ⟨lb, 0, none⟩) ls.length ls.length] 176 (0, 0)) := (hgrow.block sb (by simp; omega) HN.out).trans ((Below.heap_alloc _ _ _ (by simp; omega)).trans ((Below.heap_alloc _ _ _ hsl).trans HBlk.out)); have ff := free_of hb1 2; have cc : w1.cell? ⟨sb, 2, none⟩ = some (.slice none 0 0) := cell_of hb1 rfl; clear hb1)
      all_goals
        have HF1 := hide (HFin.out w1 gg cap2 _ _ hown1 hgrow hat)
        clear hown1 hgrow hat
        go_wp2_with fail
        go_meet
        case rel => exact HF1.out
    · subst hv
      have HRo : Hid (w.ownsRow bs 3 1 (.slice (some ⟨g, 0, none⟩) 0 cap) 0 []) := row_short (m := 0) HS.out.own (Nat.zero_le _)
      clear hg1 hg2 hg3 hg4 hg5 hg6
      have HR : Hid (w.ownsRow bs 3 1 (.slice (some ⟨g, 0, none⟩) 0 cap) 0 []) := HRo.out
      have HN : Hid (some sb ≠ (.slice (some ⟨g, 0, none⟩) stk0.length cap : Value).ownBlock) := fun e => by have := HKlt.out sb e.symm; omega
      go_region_law (refine step_append_lies _ (by rfl) _ _ _ (by rfl) bs 3 i3 _ 1 8 Tryz.underlying126 hi3 hz30 hz31 hz32 rfl (by omega) (.slice (some ⟨g, 0, none⟩) 0 cap) 0 [] (by rfl) (((HR.out.alloc _).alloc _).drew) ⟨w.heap.size + 1, 0, none⟩ 1 1 [.int .i64 q0] (by rfl) (by rfl) (World.news_of_block (cs := #[.int .i64 q0]) (t := 3) (fr := (0, 0)) (newb1 w _ _)) (fun u hu => by simp at hu; subst hu; rfl) (by omega) (by unfold maxLen; omega) (by omega) (by simp; omega) (w.heap.size + 2) (by simp) ?_; intro gg cap2 w1 hown1 hgrow hat hlt; have hb1 : w1.heap[sb]? = some (.cells #[.slice (some ⟨G, 0, none⟩) Q.length capS, .slice (some ⟨rb, 0, none⟩) Q.length Q.length, .slice (some ⟨g, 0, none⟩) stk0.length cap, .slice (some ⟨lb, 0, none⟩) ls.length ls.length] 176 (0, 0)) := (hgrow.block sb (by simp; omega) HN.out).trans ((Below.heap_alloc _ _ _ (by simp; omega)).trans ((Below.heap_alloc _ _ _ hsl).trans HBlk.out)); have ff := free_of hb1 2; have cc : w1.cell? ⟨sb, 2, none⟩ = some (.slice (some ⟨g, 0, none⟩) stk0.length cap) := cell_of hb1 rfl; clear hb1)
      all_goals
        have HF1 := hide (HFin.out w1 gg cap2 _ _ hown1 hgrow hat)
        clear hown1 hgrow hat
        go_wp2_with fail
        go_meet
        case rel => exact HF1.out
  case rest =>
    have HC := hide hcut
    clear hcut HFin HBlk c4 f4
    go_wp2_with fail
    go_loopw [1] (fun s1 wr => FLoop (w.alloc (.cells #[.int .i64 q0, .int .i64 b] 248)) sb rb lb bs (.slice (some ⟨G, 0, none⟩) Q.length capS) Q t ls rv vK best (.slice poO O.length capO) O q0 b p s1 wr) (fun _ wr => 2 * unmN wr rb Q.length ((p : Int) + 1) + stkN wr sb)
    case atStart => exact HC.out
    case round =>
      clear HC
      obtain ⟨vK1, stk1, rv1, O1, best1, hS1, hO1, hF1, hst1, hol1, hm1, hrv1, ho1, hmk1, hmo1⟩ := hrel
      obtain ⟨poO1, capO1, e1⟩ := ownsRow_slice hO1
      subst e1
      have hbx0 : (w.alloc (.cells #[.int .i64 q0, .int .i64 b] 248)).heap[w.heap.size]? = some (.cells #[.int .i64 q0, .int .i64 b] 248 (0, 0)) := new0 w _
      have hbx : wr.heap[w.heap.size]? = some (.cells #[.int .i64 q0, .int .i64 b] 248 (0, 0)) := (ho1.block w.heap.size (by simp) (by
        rintro (e | e | e | e)
        · omega
        · omega
        · have := HKlt.out _ e.symm; omega
        · have := HOlt.out _ e.symm; omega)).trans hbx0
      have HS1 := hide hS1
      have HO1 := hide hO1
      have HF1 := hide hF1
      have HSt1 := hide hst1
      have HRv1 := hide hrv1
      have HOn1 := hide ho1
      have HMk1 := hide hmk1
      have HMo1 := hide hmo1
      have HBx := hide hbx
      have hwl := heap_lt hbx
      clear hO1 hF1 hst1 hrv1 ho1 hmk1 hmo1 hbx hbx0
      rcases List.eq_nil_or_concat stk1 with hnil | ⟨l, q, hlq⟩
      · subst hnil
        obtain ⟨poK, capK, e2⟩ := ownsRow_slice hS1.own
        subst e2
        have c4 : wr.cell? ⟨sb, 2, none⟩ = some (.slice poK 0 capK) := cell_of hS1.blk rfl
        clear hS1
        go_wp2
        go_ret
        exact FLoop.done HS1.out HO1.out HF1.out hol1 HRv1.out HOn1.out HMk1.out HMo1.out
      · rw [List.concat_eq_append] at hlq
        subst hlq
        have hll : (l ++ [q]).length = l.length + 1 := by simp
        obtain ⟨K, capK, e2⟩ := own_form hS1.own (by omega)
        rw [hll] at e2
        subst e2
        have hKb : bs ≤ K ∧ K < wr.heap.size := hS1.own.lt K rfl
        have hql : q < Q.length := HSt1.out q (by simp)
        have hqr : q < rv1.length := by rw [hS1.len]; exact hql
        obtain ⟨x, hx⟩ : ∃ x, rv1[q]? = some x := ⟨rv1[q], List.getElem?_eq_getElem hqr⟩
        obtain ⟨st, hq⟩ : ∃ st, Q[q]? = some st := ⟨Q[q], List.getElem?_eq_getElem hql⟩
        have c4 : wr.cell? ⟨sb, 2, none⟩ = some (.slice (some ⟨K, 0, none⟩) (l.length + 1) capK) := cell_of hS1.blk rfl
        have c3 : wr.cell? ⟨sb, 1, none⟩ = some (.slice (some ⟨rb, 0, none⟩) Q.length Q.length) := cell_of hS1.blk rfl
        have f4 := free_of hS1.blk 2
        have k0 : wr.cell? ⟨K, l.length, none⟩ = some (.int .i64 q) := hS1.scell (by simp)
        have r0 : wr.cell? ⟨rb, q, none⟩ = some (.int .i64 x) := hS1.rcell hx
        have n1 : sb ≠ rb := by omega
        have n2 : rb ≠ sb := by omega
        have n3 : K ≠ sb := by omega
        have n4 : K ≠ rb := by omega
        have hcap : (l.length : Int) ≤ (capK : Int) := by have := own_room hS1.own; omega
        have HS2 : Hid (Srch (wr.setCell ⟨sb, 2, none⟩ (.slice (some ⟨K, 0, none⟩) l.length capK)) sb rb lb bs (.slice (some ⟨G, 0, none⟩) Q.length capS) Q ls p rv1 (.slice (some ⟨K, 0, none⟩) l.length capK) l best1) := by
          have h0 := hS1.own
          rw [hll] at h0
          have h1 := row_short (m := l.length) h0 (by omega)
          rw [List.take_left] at h1
          exact hS1.setStack (grown_refl wr _) h1
        have hO2 : ∀ v, Hid ((wr.setCell ⟨sb, 2, none⟩ v).ownsRow bs 248 2 (.slice poO1 O1.length capO1) O1.length (thr O1)) := fun v => ownsRow_of HO1.out (fun k hk => by
          have := (HO1.out.lt k hk).1
          exact Below.heap_setCell _ _ _ _ (show k ≠ sb by omega))
        have HMk2 : Hid (MovedB (w.alloc (.cells #[.int .i64 q0, .int .i64 b] 248)) vK (.slice (some ⟨K, 0, none⟩) l.length capK)) := HMk1.out
        have hsq : ∀ y ∈ l, y < Q.length := fun y hy => HSt1.out y (by simp [hy])
        have HSq := hide hsq
        have hms := HS1.out.stkN
        have hmu := HS1.out.unmN (p + 1)
        have HMs := hide hms
        have HMu := hide hmu
        rw [hll] at hm1
        clear hsq hms hmu
        by_cases hxp : x = p + 1
        · subst hxp
          clear hS1
          have r0' : wr.cell? ⟨rb, q, none⟩ = some (.int .i64 ((p : Int) + 1)) := r0
          clear r0
          go_wp2
          have hm2 := HS2.out.stkN
          have hm3 := HS2.out.unmN (p + 1)
          go_roundw
          case rel => exact ⟨_, l, rv1, O1, best1, HS2.out, (hO2 _).out, HF1.out.skip hx, HSq.out, hol1, by omega, HRv1.out, HOn1.out.setCell (p := ⟨sb, 2, none⟩) (fun _ => Or.inl rfl) _, HMk2.out, HMo1.out⟩
          case measure =>
            have a1 := HMs.out
            have a2 := HMu.out
            rw [hll] at a1
            rw [hm2, a1, show ((p : Int) + 1) = ((p + 1 : Nat) : Int) from rfl, hm3, a2]
            omega
        · have hxi : ((x : Int) == (p : Int) + 1) = false := by rw [beq_eq_false_iff_ne]; omega
          obtain ⟨kd, S, nx, ot⟩ := st
          have hwfq := HWf.out _ (List.mem_of_getElem? hq)
          obtain ⟨ys, hys, hgc⟩ := hS1.pat.cells hq
          have fr := free_of hS1.rch q
          have c0 : wr.cell? ⟨sb, 0, none⟩ = some (.slice (some ⟨G, 0, none⟩) Q.length capS) := cell_of hS1.blk rfl
          have g0 : wr.cell? ⟨G, q * 7, none⟩ = some (.int .i64 kd) := hgc 0 _ rfl
          have n5 : G ≠ sb := by omega
          have n6 : G ≠ rb := hGs.2.1
          have hus := unm_set hx hxp
          have hkd : kd ≤ 4 := hwfq.1
          have hnx : nx < Q.length := hwfq.2.1
          have hot : ot < Q.length := hwfq.2.2
          have HS3 : Hid (Srch ((wr.setCell ⟨sb, 2, none⟩ (.slice (some ⟨K, 0, none⟩) l.length capK)).setCell ⟨rb, q, none⟩ (.int .i64 ((p : Int) + 1))) sb rb lb bs (.slice (some ⟨G, 0, none⟩) Q.length capS) Q ls p (rv1.set q (p + 1)) (.slice (some ⟨K, 0, none⟩) l.length capK) l best1) := HS2.out.reach q (p + 1)
          have HO3 : Hid (((wr.setCell ⟨sb, 2, none⟩ (.slice (some ⟨K, 0, none⟩) l.length capK)).setCell ⟨rb, q, none⟩ (.int .i64 ((p : Int) + 1))).ownsRow bs 248 2 (.slice poO1 O1.length capO1) O1.length (thr O1)) := ownsRow_of (hO2 _).out (fun k hk => by
            have := (HO1.out.lt k hk).1
            exact Below.heap_setCell _ _ _ _ (show k ≠ rb by omega))
          have HOn3 : Hid (Only (fun k => k = sb ∨ (k = rb ∨ k = lb) ∨ some k = vK.ownBlock ∨ some k = (Value.slice poO O.length capO).ownBlock) (w.alloc (.cells #[.int .i64 q0, .int .i64 b] 248)) ((wr.setCell ⟨sb, 2, none⟩ (.slice (some ⟨K, 0, none⟩) l.length capK)).setCell ⟨rb, q, none⟩ (.int .i64 ((p : Int) + 1)))) := (HOn1.out.setCell (p := ⟨sb, 2, none⟩) (fun _ => Or.inl rfl) _).setCell (p := ⟨rb, q, none⟩) (fun _ => Or.inr (Or.inl (Or.inl rfl))) _
          have HBx3 : Hid (((wr.setCell ⟨sb, 2, none⟩ (.slice (some ⟨K, 0, none⟩) l.length capK)).setCell ⟨rb, q, none⟩ (.int .i64 ((p : Int) + 1))).heap[w.heap.size]? = some (.cells #[.int .i64 q0, .int .i64 b] 248 (0, 0))) := (Below.heap_setCell _ _ _ _ (show w.heap.size ≠ rb by omega)).trans ((Below.heap_setCell _ _ _ _ (show w.heap.size ≠ sb by omega)).trans HBx.out)
          have HSz3 : Hid (((wr.setCell ⟨sb, 2, none⟩ (.slice (some ⟨K, 0, none⟩) l.length capK)).setCell ⟨rb, q, none⟩ (.int .i64 ((p : Int) + 1))).heap.size = wr.heap.size) := (size_setCell _ _ _).trans (size_setCell _ _ _)
          have HRv3 : Hid (∀ (k x : Nat), (rv1.set q (p + 1))[k]? = some x → x = p + 1 ∨ rv[k]? = some x) := fun k x hx2 => by
            by_cases e : k = q
            · subst e
              rw [List.getElem?_set_self hqr] at hx2
              cases hx2
              exact Or.inl rfl
            · rw [List.getElem?_set_ne (fun h => e h.symm)] at hx2
              exact HRv1.out k x hx2
          have HMeas : Hid (2 * unmN wr rb Q.length ((p : Int) + 1) + stkN wr sb = 2 * unm rv1 (p + 1) + (l.length + 1)) := by
            have a1 := HMs.out
            have a2 := HMu.out
            rw [hll] at a1
            show 2 * unmN wr rb Q.length ((p + 1 : Nat) : Int) + stkN wr sb = _
            rw [a1, a2]
          have HNm : Hid (¬ rv1[q]? = some (p + 1)) := fun e => by rw [hx] at e; cases e; exact hxp rfl
          have HSet : Hid (∀ y, (rv1.set q (p + 1))[y]? = some (p + 1) ↔ rv1[y]? = some (p + 1) ∨ y = q) := fun y => set_iff hqr y
          have HQ := hide hq
          clear hS1 hgc hys hwfq hx hq hqr hxp
          go_upto_region 10 with fail
          generalize ((wr.setCell ⟨sb, 2, none⟩ (.slice (some ⟨K, 0, none⟩) l.length capK)).setCell ⟨rb, q, none⟩ (.int .i64 ((p : Int) + 1))) = W3 at *
          obtain ⟨ys3, _, hg3⟩ := HS3.out.pat.cells HQ.out
          have g5 : W3.cell? ⟨G, q * 7 + 5, none⟩ = some (.int .i64 nx) := hg3 5 _ rfl
          have g6 : W3.cell? ⟨G, q * 7 + 6, none⟩ = some (.int .i64 ot) := hg3 6 _ rfl
          have d4 : W3.cell? ⟨sb, 2, none⟩ = some (.slice (some ⟨K, 0, none⟩) l.length capK) := cell_of HS3.out.blk rfl
          have d1 : W3.cell? ⟨sb, 3, none⟩ = some (.slice (some ⟨lb, 0, none⟩) ls.length ls.length) := cell_of HS3.out.blk rfl
          have m1 : W3.cell? ⟨lb, p, none⟩ = some (.int .i64 (lenV p best1)) := cell_of HS3.out.lns (by rw [List.getElem?_toArray]; exact zints_get _ _ _ (List.getElem?_set_self hlp))
          have m2 := free_of HS3.out.lns p
          have e4 := free_of HS3.out.blk 2
          have b1 : W3.cell? ⟨w.heap.size, 1, none⟩ = some (.int .i64 b) := cell_of HBx3.out rfl
          have hsl3 : sb < W3.heap.size := heap_lt HS3.out.blk
          have hwl3 : w.heap.size < W3.heap.size := heap_lt HBx3.out
          have hkl : l.length ≤ 2000001 := by omega
          have hol : O1.length ≤ 1000000 := by omega
          have HNK : Hid (some sb ≠ (Value.slice (some ⟨K, 0, none⟩) l.length capK).ownBlock) := fun e => (by injection e with e; have e2 : sb = K := e; omega)
          have hkk : kd = 0 ∨ kd = 1 ∨ kd = 2 ∨ kd = 3 ∨ kd = 4 := by omega
          clear c4 c3 f4 k0 r0 fr c0 g0 hg3 hxi hcap
          rcases hkk with rfl | rfl | rfl | rfl | rfl
          · go_wp2_with (at_builtin; refine wpList_append_sep _ rfl (.tmp 82) (.tmp 87) 245 rfl bs 248 i2 (.agg #[.int .i64 0, .int .i64 0]) 2 16 Tryz.underlying245 hi2 hz20 hz21 hz22 rfl (by decide) _ _ (thr O1) rfl (HO3.out.alloc _) ⟨W3.heap.size, 0, none⟩ 1 1 [.int .i64 q, .int .i64 b] rfl rfl (World.news_of_block (cs := #[.int .i64 q, .int .i64 b]) (t := 248) (fr := (0, 0)) (heap_alloc_new W3 _)) (fun u hu => by simp at hu; rcases hu with rfl | rfl <;> rfl) (by decide) (by unfold maxLen; omega) (by omega) (by simp; omega) ?_)
            intro v' w4 hown4 hgrow4 hmv4
            obtain ⟨po4, cap4, e4⟩ := ownsRow_slice hown4
            subst e4
            have HS4 := hide ((HS3.out.alloc _).grownO (HO3.out.alloc _) hgrow4)
            have HO4 : Hid (w4.ownsRow bs 248 2 (.slice po4 (O1.length + 1) cap4) (O1 ++ [(q, b)]).length (thr (O1 ++ [(q, b)]))) := by
              show w4.ownsRow _ _ _ _ _ _
              rw [thr_append, List.length_append]
              exact hown4
            have HOn4 := hide ((HOn3.out.alloc _).grown hgrow4 (fun k hk hl => Or.inr (Or.inr (Or.inr (HMo1.out.old hk hl)))))
            have HMo4 : Hid (MovedB (w.alloc (.cells #[.int .i64 q0, .int .i64 b] 248)) (.slice poO O.length capO) (.slice po4 (O1.length + 1) cap4)) := HMo1.out.trans (HOn3.out.alloc _).size (moved_of hmv4)
            clear hown4 hgrow4 hmv4
            go_wp2
            have hm2 := HS4.out.stkN
            have hm3 := HS4.out.unmN (p + 1)
            go_roundw
            case rel => exact ⟨_, l, rv1.set q (p + 1), O1 ++ [(q, b)], best1, HS4.out, HO4.out, by simpa using HF1.out.pop HNm.out HSet.out (ss := []) (fun r => by rw [step_of HQ.out]; simp) (Or.inl ⟨(takes_iff HQ.out).2 rfl, rfl⟩) (Or.inr ⟨fun h => (by have := (done_iff HQ.out).1 h; simp at this), rfl⟩), HSq.out, by simp; omega, by omega, HRv3.out, HOn4.out, HMk2.out, HMo4.out⟩
            case measure =>
              rw [HMeas.out, hm2, show ((p : Int) + 1) = ((p + 1 : Nat) : Int) from rfl, hm3]
              omega
          · by_cases hp0 : p = 0
            · have hp1 : ((p : Int) == 0) = true := by rw [beq_iff_eq]; omega
              have HP0 := hide hp0
              clear hp0
              go_upto_region 18 with fail
              go_region_law (refine step_append_lies _ (by rfl) _ _ _ (by rfl) bs 3 i3 _ 1 8 Tryz.underlying126 hi3 hz30 hz31 hz32 rfl (by omega) (.slice (some ⟨K, 0, none⟩) l.length capK) l.length (ints l) (by rfl) ((HS3.out.own.alloc _).drew) ⟨W3.heap.size, 0, none⟩ 1 1 [.int .i64 nx] (by rfl) (by rfl) (World.news_of_block (cs := #[.int .i64 nx]) (t := 3) (fr := (0, 0)) (heap_alloc_new W3 _)) (fun u hu => by simp at hu; subst hu; rfl) (by omega) (by unfold maxLen; omega) (by omega) (by simp; omega) (W3.heap.size + 1) (by simp) ?_; intro gg cap2 w4 hown4 hgrow4 hat4 hlt4; have hb4 : w4.heap[sb]? = some (.cells #[.slice (some ⟨G, 0, none⟩) Q.length capS, .slice (some ⟨rb, 0, none⟩) Q.length Q.length, .slice (some ⟨K, 0, none⟩) l.length capK, .slice (some ⟨lb, 0, none⟩) ls.length ls.length] 176 (0, 0)) := (hgrow4.block sb (by simp; omega) HNK.out).trans ((Below.heap_alloc _ _ _ hsl3).trans HS3.out.blk); have ff := free_of hb4 2; have cc : w4.cell? ⟨sb, 2, none⟩ = some (.slice (some ⟨K, 0, none⟩) l.length capK) := cell_of hb4 rfl; clear hb4)
              all_goals
                have HPs := hide (push_srch (ss := [nx]) HS3.out HO3.out hgrow4 (by rw [ints_append, List.length_append]; exact hown4))
                have HOn4 : Hid (Only (fun k => k = sb ∨ (k = rb ∨ k = lb) ∨ some k = vK.ownBlock ∨ some k = (Value.slice poO O.length capO).ownBlock) (w.alloc (.cells #[.int .i64 q0, .int .i64 b] 248)) (w4.setCell ⟨sb, 2, none⟩ (.slice (some ⟨gg, 0, none⟩) (l.length + 1) cap2))) := (((HOn3.out.alloc _).drewN 1).grown hgrow4 (fun k hk hl => Or.inr (Or.inr (Or.inl (HMk2.out.old hk hl))))).setCell (p := ⟨sb, 2, none⟩) (fun _ => Or.inl rfl) _
                have HMk4 : Hid (MovedB (w.alloc (.cells #[.int .i64 q0, .int .i64 b] 248)) vK (.slice (some ⟨gg, 0, none⟩) (l.length + 1) cap2)) := HMk2.out.trans HOn3.out.size (by
                  rcases hat4 with e | e
                  · exact Or.inl e.symm
                  · exact Or.inr ⟨gg, rfl, by omega⟩)
                clear hown4 hgrow4 hat4
                go_wp2
                have hm2 := HPs.out.1.stkN
                have hm3 := HPs.out.1.unmN (p + 1)
                go_roundw
                case rel => exact ⟨_, l ++ [nx], rv1.set q (p + 1), O1, best1, HPs.out.1, HPs.out.2, HF1.out.pop HNm.out HSet.out (fun r => by rw [step_of HQ.out]; simp [HP0.out]) (Or.inr ⟨fun h => (by have := (takes_iff HQ.out).1 h; simp at this), rfl⟩) (Or.inr ⟨fun h => (by have := (done_iff HQ.out).1 h; simp at this), rfl⟩), fun y hy => (by rcases List.mem_append.1 hy with h | h; exact HSq.out y h; simp at h; omega), by omega, by simp; omega, HRv3.out, HOn4.out, HMk4.out, HMo1.out⟩
                case measure =>
                  rw [HMeas.out, hm2, show ((p : Int) + 1) = ((p + 1 : Nat) : Int) from rfl, hm3]
                  simp; omega
            · have hp1 : ((p : Int) == 0) = false := by rw [beq_eq_false_iff_ne]; omega
              have HP0 := hide hp0
              clear hp0
              go_wp2
              have hm2 := HS3.out.stkN
              have hm3 := HS3.out.unmN (p + 1)
              go_roundw
              case rel => exact ⟨_, l, rv1.set q (p + 1), O1, best1, HS3.out, HO3.out, by simpa using HF1.out.pop HNm.out HSet.out (ss := []) (fun r => by rw [step_of HQ.out]; simp [HP0.out]) (Or.inr ⟨fun h => (by have := (takes_iff HQ.out).1 h; simp at this), rfl⟩) (Or.inr ⟨fun h => (by have := (done_iff HQ.out).1 h; simp at this), rfl⟩), HSq.out, by omega, by omega, HRv3.out, HOn3.out, HMk2.out, HMo1.out⟩
              case measure =>
                rw [HMeas.out, hm2, show ((p : Int) + 1) = ((p + 1 : Nat) : Int) from rfl, hm3]
                omega
          · by_cases hp0 : p = t.length
            · have hp1 : ((p : Int) == (ls.length : Int) - 1) = true := by have := HLs.out; rw [beq_iff_eq]; omega
              have HPt : Hid (p = t.length) := hp0
              clear hp0
              go_upto_region 21 with fail
              go_region_law (refine step_append_lies _ (by rfl) _ _ _ (by rfl) bs 3 i3 _ 1 8 Tryz.underlying126 hi3 hz30 hz31 hz32 rfl (by omega) (.slice (some ⟨K, 0, none⟩) l.length capK) l.length (ints l) (by rfl) ((HS3.out.own.alloc _).drew) ⟨W3.heap.size, 0, none⟩ 1 1 [.int .i64 nx] (by rfl) (by rfl) (World.news_of_block (cs := #[.int .i64 nx]) (t := 3) (fr := (0, 0)) (heap_alloc_new W3 _)) (fun u hu => by simp at hu; subst hu; rfl) (by omega) (by unfold maxLen; omega) (by omega) (by simp; omega) (W3.heap.size + 1) (by simp) ?_; intro gg cap2 w4 hown4 hgrow4 hat4 hlt4; have hb4 : w4.heap[sb]? = some (.cells #[.slice (some ⟨G, 0, none⟩) Q.length capS, .slice (some ⟨rb, 0, none⟩) Q.length Q.length, .slice (some ⟨K, 0, none⟩) l.length capK, .slice (some ⟨lb, 0, none⟩) ls.length ls.length] 176 (0, 0)) := (hgrow4.block sb (by simp; omega) HNK.out).trans ((Below.heap_alloc _ _ _ hsl3).trans HS3.out.blk); have ff := free_of hb4 2; have cc : w4.cell? ⟨sb, 2, none⟩ = some (.slice (some ⟨K, 0, none⟩) l.length capK) := cell_of hb4 rfl; clear hb4)
              all_goals
                have HPs := hide (push_srch (ss := [nx]) HS3.out HO3.out hgrow4 (by rw [ints_append, List.length_append]; exact hown4))
                have HOn4 : Hid (Only (fun k => k = sb ∨ (k = rb ∨ k = lb) ∨ some k = vK.ownBlock ∨ some k = (Value.slice poO O.length capO).ownBlock) (w.alloc (.cells #[.int .i64 q0, .int .i64 b] 248)) (w4.setCell ⟨sb, 2, none⟩ (.slice (some ⟨gg, 0, none⟩) (l.length + 1) cap2))) := (((HOn3.out.alloc _).drewN 1).grown hgrow4 (fun k hk hl => Or.inr (Or.inr (Or.inl (HMk2.out.old hk hl))))).setCell (p := ⟨sb, 2, none⟩) (fun _ => Or.inl rfl) _
                have HMk4 : Hid (MovedB (w.alloc (.cells #[.int .i64 q0, .int .i64 b] 248)) vK (.slice (some ⟨gg, 0, none⟩) (l.length + 1) cap2)) := HMk2.out.trans HOn3.out.size (by
                  rcases hat4 with e | e
                  · exact Or.inl e.symm
                  · exact Or.inr ⟨gg, rfl, by omega⟩)
                clear hown4 hgrow4 hat4
                go_wp2
                have hm2 := HPs.out.1.stkN
                have hm3 := HPs.out.1.unmN (p + 1)
                have HStp : Hid (∀ r, Step Q t q p r p ↔ r ∈ ([nx] : List Nat)) := (fun r => by
                  rw [step_of HQ.out]
                  have h := HPt.out
                  constructor
                  · rintro (h1 | h1 | h1)
                    · exact absurd h1.1 (by show ¬ (2 : Nat) = 1; omega)
                    · simp [h1.2.2]
                    · exact absurd h1.1 (by show ¬ (2 : Nat) = 3; omega)
                  · intro h1; simp at h1; exact Or.inr (Or.inl ⟨rfl, h, h1⟩))
                go_roundw
                case rel => exact ⟨_, l ++ [nx], rv1.set q (p + 1), O1, best1, HPs.out.1, HPs.out.2, HF1.out.pop HNm.out HSet.out HStp.out (Or.inr ⟨fun h => (by have := (takes_iff HQ.out).1 h; simp at this), rfl⟩) (Or.inr ⟨fun h => (by have := (done_iff HQ.out).1 h; simp at this), rfl⟩), fun y hy => (by rcases List.mem_append.1 hy with h | h; exact HSq.out y h; simp at h; omega), by omega, by simp; omega, HRv3.out, HOn4.out, HMk4.out, HMo1.out⟩
                case measure =>
                  rw [HMeas.out, hm2, show ((p : Int) + 1) = ((p + 1 : Nat) : Int) from rfl, hm3]
                  simp; omega
            · have hp1 : ((p : Int) == (ls.length : Int) - 1) = false := by have := HLs.out; rw [beq_eq_false_iff_ne]; omega
              have HPt : Hid (¬ p = t.length) := hp0
              clear hp0
              go_wp2
              have hm2 := HS3.out.stkN
              have hm3 := HS3.out.unmN (p + 1)
              have HStp : Hid (∀ r, Step Q t q p r p ↔ r ∈ ([] : List Nat)) := (fun r => by
                rw [step_of HQ.out]
                have h := HPt.out
                constructor
                · rintro (h1 | h1 | h1)
                  · exact absurd h1.1 (by show ¬ (2 : Nat) = 1; omega)
                  · exact absurd h1.2.1 h
                  · exact absurd h1.1 (by show ¬ (2 : Nat) = 3; omega)
                · intro h1; simp at h1)
              go_roundw
              case rel => exact ⟨_, l, rv1.set q (p + 1), O1, best1, HS3.out, HO3.out, by simpa using HF1.out.pop HNm.out HSet.out (ss := []) HStp.out (Or.inr ⟨fun h => (by have := (takes_iff HQ.out).1 h; simp at this), rfl⟩) (Or.inr ⟨fun h => (by have := (done_iff HQ.out).1 h; simp at this), rfl⟩), HSq.out, by omega, by omega, HRv3.out, HOn3.out, HMk2.out, HMo1.out⟩
              case measure =>
                rw [HMeas.out, hm2, show ((p : Int) + 1) = ((p + 1 : Nat) : Int) from rfl, hm3]
                omega
          · go_upto_region 15 with fail
            go_region_law (refine step_append_lies _ (by rfl) _ _ _ (by rfl) bs 3 i3 _ 1 8 Tryz.underlying126 hi3 hz30 hz31 hz32 rfl (by omega) (.slice (some ⟨K, 0, none⟩) l.length capK) l.length (ints l) (by rfl) ((HS3.out.own.alloc _).drew) ⟨W3.heap.size, 0, none⟩ 2 2 [.int .i64 ot, .int .i64 nx] (by rfl) (by rfl) (World.news_of_block (cs := #[.int .i64 ot, .int .i64 nx]) (t := 3) (fr := (0, 0)) (heap_alloc_new W3 _)) (fun u hu => by simp at hu; rcases hu with rfl | rfl <;> rfl) (by omega) (by unfold maxLen; omega) (by omega) (by simp; omega) (W3.heap.size + 1) (by simp) ?_; intro gg cap2 w4 hown4 hgrow4 hat4 hlt4; have hb4 : w4.heap[sb]? = some (.cells #[.slice (some ⟨G, 0, none⟩) Q.length capS, .slice (some ⟨rb, 0, none⟩) Q.length Q.length, .slice (some ⟨K, 0, none⟩) l.length capK, .slice (some ⟨lb, 0, none⟩) ls.length ls.length] 176 (0, 0)) := (hgrow4.block sb (by simp; omega) HNK.out).trans ((Below.heap_alloc _ _ _ hsl3).trans HS3.out.blk); have ff := free_of hb4 2; have cc : w4.cell? ⟨sb, 2, none⟩ = some (.slice (some ⟨K, 0, none⟩) l.length capK) := cell_of hb4 rfl; clear hb4)
            all_goals
              have HPs := hide (push_srch (ss := [ot, nx]) HS3.out HO3.out hgrow4 (by rw [ints_append, List.length_append]; exact hown4))
              have HOn4 : Hid (Only (fun k => k = sb ∨ (k = rb ∨ k = lb) ∨ some k = vK.ownBlock ∨ some k = (Value.slice poO O.length capO).ownBlock) (w.alloc (.cells #[.int .i64 q0, .int .i64 b] 248)) (w4.setCell ⟨sb, 2, none⟩ (.slice (some ⟨gg, 0, none⟩) (l.length + 2) cap2))) := (((HOn3.out.alloc _).drewN 1).grown hgrow4 (fun k hk hl => Or.inr (Or.inr (Or.inl (HMk2.out.old hk hl))))).setCell (p := ⟨sb, 2, none⟩) (fun _ => Or.inl rfl) _
              have HMk4 : Hid (MovedB (w.alloc (.cells #[.int .i64 q0, .int .i64 b] 248)) vK (.slice (some ⟨gg, 0, none⟩) (l.length + 2) cap2)) := HMk2.out.trans HOn3.out.size (by
                rcases hat4 with e | e
                · exact Or.inl e.symm
                · exact Or.inr ⟨gg, rfl, by omega⟩)
              clear hown4 hgrow4 hat4
              go_wp2
              have hm2 := HPs.out.1.stkN
              have hm3 := HPs.out.1.unmN (p + 1)
              go_roundw
              case rel => exact ⟨_, l ++ [ot, nx], rv1.set q (p + 1), O1, best1, HPs.out.1, HPs.out.2, HF1.out.pop HNm.out HSet.out (fun r => by rw [step_of HQ.out]; simp [or_comm]) (Or.inr ⟨fun h => (by have := (takes_iff HQ.out).1 h; simp at this), rfl⟩) (Or.inr ⟨fun h => (by have := (done_iff HQ.out).1 h; simp at this), rfl⟩), fun y hy => (by rcases List.mem_append.1 hy with h | h; exact HSq.out y h; simp at h; omega), by omega, by simp; omega, HRv3.out, HOn4.out, HMk4.out, HMo1.out⟩
              case measure =>
                rw [HMeas.out, hm2, show ((p : Int) + 1) = ((p + 1 : Nat) : Int) from rfl, hm3]
                simp; omega
          · have HS4 := hide (show Srch (W3.setCell ⟨lb, p, none⟩ (.int .i64 ((b : Int) - p))).drew sb rb lb bs (.slice (some ⟨G, 0, none⟩) Q.length capS) Q ls p (rv1.set q (p + 1)) (.slice (some ⟨K, 0, none⟩) l.length capK) l (some b) from (HS3.out.note b).only (D := fun _ => False) ((Only.refl _ _).drewN 1) (fun e => e) (fun e => e) (fun e => e) (fun _ _ e => e) (fun _ _ e => e))
            have HO4 : Hid ((W3.setCell ⟨lb, p, none⟩ (.int .i64 ((b : Int) - p))).drew.ownsRow bs 248 2 (.slice poO1 O1.length capO1) O1.length (thr O1)) := ownsRow_of HO3.out (fun k hk => by
              have := HO3.out.lt k hk
              exact Below.heap_setCell _ _ _ _ (show k ≠ lb by omega))
            have HOn4 := hide ((HOn3.out.setCell (p := ⟨lb, p, none⟩) (fun _ => Or.inr (Or.inl (Or.inr rfl))) (.int .i64 ((b : Int) - p))).drewN 1)
            go_upto_region 13 with fail
            go_region
            all_goals
              go_wp2
              have hm2 := HS4.out.stkN
              have hm3 := HS4.out.unmN (p + 1)
              go_roundw
              case rel => exact ⟨_, l, rv1.set q (p + 1), O1, _, HS4.out, HO4.out, by simpa using HF1.out.pop HNm.out HSet.out (ss := []) (fun r => by rw [step_of HQ.out]; simp) (Or.inr ⟨fun h => (by have := (takes_iff HQ.out).1 h; simp at this), rfl⟩) (Or.inl ⟨(done_iff HQ.out).2 rfl, rfl⟩), HSq.out, by omega, by omega, HRv3.out, HOn4.out, HMk2.out, HMo1.out⟩
              case measure =>
                rw [HMeas.out, hm2, show ((p : Int) + 1) = ((p + 1 : Nat) : Int) from rfl, hm3]
                omega
end Go.Proofs.YtdbdbaepmdmnfaaGreatDoor

namespace Go.Proofs.YtdbdbaepmdmnfaaGreatDoor
open Go.RowKit
/-- The first place of a row that is no less than 0; -1: there is none. -/
def firstAt : List Int → Nat → Int
  | [], _ => -1
  | z :: l, i => if 0 ≤ z then (i : Int) else firstAt l (i + 1)
theorem firstAt_skip (L : List Int) (i k : Nat) (hk : k ≤ L.length) (h : ∀ (j : Nat) (z : Int), j < k → L[j]? = some z → z < 0) : firstAt L i = firstAt (L.drop k) (i + k) := by
  induction L generalizing i k with
  | nil =>
    have h0 : k = 0 := by simpa using hk
    subst h0
    rfl
  | cons z l ih =>
    cases k with
    | zero => rfl
    | succ k =>
      have h0 : z < 0 := h 0 z (by omega) rfl
      have := ih (i + 1) k (by simpa using hk) (fun j y hj hy => h (j + 1) y (by omega) (by simpa using hy))
      simp only [firstAt, List.drop_succ_cons]
      rw [if_neg (by omega), this, Nat.add_right_comm, Nat.add_assoc]
theorem pred_any (z : Int) (w : World) : Calls Tryz.prog 70 #[.int .i64 z] w fun e w' => e = .returned (.bool (decide (0 ≤ z))) ∧ w' = w := by
  by_cases h : 0 ≤ z
  · go_enter Tryz.func70, Tryz.ntmps70
    go_wp2
    go_ret
    exact ⟨by simp [h], rfl⟩
  · go_enter Tryz.func70, Tryz.ntmps70
    go_wp2
    go_ret
    exact ⟨by simp [h], rfl⟩
set_option maxHeartbeats 2000000 in
theorem index_any (lb : Nat) (L : List Int) (hl : L.length ≤ 100000) (w : World) (hL : ∀ (j : Nat) (z : Int), L[j]? = some z → w.cell? ⟨lb, j, none⟩ = some (.int .i64 z)) :
    Calls Tryz.prog 69 #[.slice (some ⟨lb, 0, none⟩) L.length L.length, .func (.func 70) #[] #[]] w fun e w' => e = .returned (.int .i64 (firstAt L 0)) ∧ w' = w := by
  have HL := hide hL
  clear hL
  go_enter Tryz.func69, Tryz.ntmps69
  go_wp2_with fail
  go_loopg [8] L.length (fun g s8 wr => ∃ k : Nat, s8 = .int .i64 k ∧ k ≤ L.length ∧ g = L.length - k ∧ wr = w ∧ ∀ (j : Nat) (z : Int), j < k → L[j]? = some z → z < 0)
  case atStart => exact ⟨0, rfl, Nat.zero_le _, rfl, rfl, fun j z hj => absurd hj (Nat.not_lt_zero _)⟩
  case round =>
    obtain ⟨k, e8, hk, hg, hw, hneg⟩ := hrel
    subst e8
    subst hw
    have HN := hide hneg
    have Hg := hide hg
    clear hneg hg
    by_cases hke : k = L.length
    · have HF : Hid (firstAt L 0 = -1) := by
        show firstAt L 0 = -1
        rw [firstAt_skip L 0 k hk HN.out, hke, List.drop_length]; rfl
      subst hke
      go_wp2
      go_ret
      exact ⟨by rw [HF.out]; rfl, rfl⟩
    · obtain ⟨z, hz⟩ : ∃ z, L[k]? = some z := ⟨L[k], List.getElem?_eq_getElem (by omega)⟩
      have c := HL.out k z hz
      have HZ := hide hz
      have hlt : (k : Int) < (L.length : Int) := by omega
      clear hz
      by_cases h0 : 0 ≤ z
      · have HF : Hid (firstAt L 0 = (k : Int)) := by
          show firstAt L 0 = (k : Int)
          obtain ⟨hkl, e⟩ := List.getElem?_eq_some_iff.1 HZ.out
          rw [firstAt_skip L 0 k hk HN.out, List.drop_eq_getElem_cons hkl, e, firstAt, if_pos h0, Nat.zero_add]
        have hp := pred_any z wr
        rw [decide_eq_true h0] at hp
        go_wp2_with (go_at_call 70; refine hp.mono ?_; rintro e w' ⟨rfl, rfl⟩)
        go_ret
        exact ⟨by rw [HF.out]; rfl, rfl⟩
      · have hp := pred_any z wr
        rw [decide_eq_false h0] at hp
        go_wp2_with (go_at_call 70; refine hp.mono ?_; rintro e w' ⟨rfl, rfl⟩)
        go_roundg (L.length - (k + 1))
        case measure => have := Hg.out; omega
        case rel => exact ⟨k + 1, by go_num, by omega, rfl, rfl, fun j y hj hy => (by
          by_cases e : j = k
          · subst e; rw [HZ.out] at hy; cases hy; omega
          · exact HN.out j y (by omega) hy)⟩
end Go.Proofs.YtdbdbaepmdmnfaaGreatDoor
namespace Go.Proofs.YtdbdbaepmdmnfaaGreatDoor
open Go.RowKit
def bBeg (best : Option (Nat × Nat)) : Int := match best with | none => -1 | some x => x.1
def bLen (best : Option (Nat × Nat)) : Int := match best with | none => 0 | some x => x.2
theorem firstAt_spec (L : List Int) (i : Nat) : (firstAt L i = -1 ∧ ∀ (j : Nat) (z : Int), L[j]? = some z → z < 0) ∨ ∃ (k : Nat) (z : Int), firstAt L i = ((i + k : Nat) : Int) ∧ L[k]? = some z ∧ 0 ≤ z ∧ ∀ (j : Nat) (y : Int), j < k → L[j]? = some y → y < 0 := by
  induction L generalizing i with
  | nil => exact Or.inl ⟨rfl, fun j z h => by simp at h⟩
  | cons z l ih =>
    by_cases h0 : 0 ≤ z
    · refine Or.inr ⟨0, z, ?_, rfl, h0, fun j y hj => absurd hj (Nat.not_lt_zero _)⟩
      rw [firstAt, if_pos h0, Nat.add_zero]
    · rw [firstAt, if_neg h0]
      rcases ih (i + 1) with ⟨h1, h2⟩ | ⟨k, y, h1, h2, h3, h4⟩
      · refine Or.inl ⟨h1, fun j y hj => ?_⟩
        cases j with
        | zero => simp at hj; omega
        | succ j => exact h2 j y (by simpa using hj)
      · refine Or.inr ⟨k + 1, y, by rw [h1]; congr 1; omega, by simpa using h2, h3, fun j x hj hx => ?_⟩
        cases j with
        | zero => simp at hx; omega
        | succ j => exact h4 j x (by omega) (by simpa using hx)
theorem Steps.back {Q t n q i q' i'} (h : Steps Q t n q i q' i') (hi : i' ≤ t.length) : i ≤ t.length := by
  induction n generalizing q i with
  | zero => obtain ⟨_, rfl⟩ := h; exact hi
  | succ n ih =>
    obtain ⟨r, j, s1, h1⟩ := h
    have hj := ih h1
    obtain ⟨s, _, h2 | h2 | h2 | h2⟩ := s1
    · obtain ⟨_, c, hc, _, _, rfl⟩ := h2
      have := (List.getElem?_eq_some_iff.1 hc).1; omega
    · omega
    · omega
    · omega
theorem Acc.back {Q t q i e} (h : Acc Q t q i e) (hi : e ≤ t.length) : i ≤ t.length := by obtain ⟨n, d, h, _⟩ := h; exact h.back hi
theorem lenV_neg {Q t last k b} (h : LenAt Q t last k b) (hn : lenV k b < 0) : b = none := by
  cases b with
  | none => rfl
  | some B =>
    have h1 := (h.1 B rfl).1
    have h2 : (B : Int) - k < 0 := hn
    omega
/-- What the lengths of all places say of the first match. -/
theorem find_fact {Q : List St} {t : List UInt8} {last : Nat} {L : List Int} {R : Pat} (h : AllLen Q t last L) (hR : ∀ t i e, Acc Q t last e i ↔ R t i e) :
    (firstAt L 0 = -1 ∧ Finds R t 0 0 none) ∨ ∃ (k l : Nat), firstAt L 0 = (k : Int) ∧ L[k]? = some (l : Int) ∧ Finds R t 0 0 (some (k, l)) := by
  obtain ⟨hl, hall⟩ := h
  have hno : ∀ b, b ≤ t.length → (∀ z, L[b]? = some z → z < 0) → ∀ e, ¬ R t b e := by
    intro b hb hneg e hr
    have ha := (hR t b e).2 hr
    obtain ⟨c, h3, h4⟩ := hall b hb
    have hc := lenV_neg h3 (hneg _ h4)
    obtain ⟨B, h5, _⟩ := h3.2 e (ha.back hb) ha
    rw [hc] at h5; cases h5
  rcases firstAt_spec L 0 with ⟨h1, h2⟩ | ⟨k, z, h1, h2, h3, h4⟩
  · exact Or.inl ⟨h1, ⟨fun B l hB => (by cases hB), fun b e _ hb _ hr => absurd hr (hno b hb (fun z hz => h2 b z hz) e)⟩⟩
  · have hk : k ≤ t.length := by have := (List.getElem?_eq_some_iff.1 h2).1; omega
    obtain ⟨c, h5, h6⟩ := hall k hk
    rw [h2] at h6
    have hz : z = lenV k c := Option.some.inj h6
    cases c with
    | none => rw [hz] at h3; exact absurd h3 (by show ¬ (0 : Int) ≤ -1; omega)
    | some B =>
      obtain ⟨b1, b2, b3⟩ := h5.1 B rfl
      have hz2 : z = ((B - k : Nat) : Int) := by rw [hz]; show (B : Int) - k = _; omega
      refine Or.inr ⟨k, B - k, by rw [h1, Nat.zero_add], by rw [h2, hz2], ⟨fun B' l hB => ?_, fun b e _ hb _ hr => ?_⟩⟩
      · cases hB
        refine ⟨Nat.zero_le _, by omega, Nat.zero_le _, ?_⟩
        rw [show k + (B - k) = B by omega]
        exact (hR t k B).1 b3
      · refine ⟨k, B - k, rfl, ?_⟩
        by_cases hbk : b < k
        · exact absurd hr (hno b hb (fun z hz => h4 b z hbk hz) e)
        · by_cases e2 : b = k
          · subst e2
            have ha := (hR t b e).2 hr
            obtain ⟨B', h7, h8⟩ := h5.2 e (ha.back hb) ha
            cases h7
            exact Or.inr ⟨rfl, by omega⟩
          · exact Or.inl (by omega)
end Go.Proofs.YtdbdbaepmdmnfaaGreatDoor

