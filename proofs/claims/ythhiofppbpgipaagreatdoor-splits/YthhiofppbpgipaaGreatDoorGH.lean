import Derived.Test.YthhiofppbpgipaaGreatDoorMPat
import Derived.Test.YthhiofppbpgipaaGreatDoorGC
import Derived.Deep.RegionLaw
import Derived.Deep.AppendLies
namespace Go.Proofs.YthhiofppbpgipaaGreatDoor
open Go.RowKit
def ints (l : List Nat) : List Value := l.map (fun n : Nat => Value.int .i64 (n : Int))
def zints (l : List Int) : List Value := l.map (fun z : Int => Value.int .i64 z)
def thr (l : List (Nat × Nat)) : List Value := l.flatMap (fun x => [Value.int .i64 x.1, Value.int .i64 x.2])
/-- A place's length, of the last end of a match that begins there. -/
def lenV (p : Nat) (best : Option Nat) : Int := match best with | none => -1 | some B => (B : Int) - p
/-- A search lies in block sb; rv: what each state was reached at last; stk: its stack; the lengths are ls, but at place p that of best. -/
structure Srch (w : World) (sb rb lb bs : Nat) (vS : Value) (Q : List St) (ls : List Int) (p : Nat) (rv : List Nat) (vK : Value) (stk : List Nat) (best : Option Nat) : Prop where
  blk : w.heap[sb]? = some (.cells #[vS, .slice (some ⟨rb, 0, none⟩) Q.length Q.length, vK, .slice (some ⟨lb, 0, none⟩) ls.length ls.length] 237 (0, 0))
  rch : w.heap[rb]? = some (.cells (ints rv).toArray 3 (0, 0))
  lns : w.heap[lb]? = some (.cells (zints (ls.set p (lenV p best))).toArray 3 (0, 0))
  len : rv.length = Q.length
  pat : PatAt w vS Q
  own : w.ownsRow bs 3 1 vK stk.length (ints stk)
  rs : rb ≠ sb ∧ lb ≠ sb ∧ lb ≠ rb ∧ sb < bs ∧ rb < bs ∧ lb < bs
  ss : ∀ k, vS.ownBlock = some k → k ≠ sb ∧ k ≠ rb ∧ k ≠ lb ∧ k < bs
theorem Srch.only {w w' sb rb lb bs vS Q ls p rv vK stk best D} (h : Srch w sb rb lb bs vS Q ls p rv vK stk best) (ho : Only D w w') (h1 : ¬ D sb) (h2 : ¬ D rb) (h2' : ¬ D lb) (h3 : ∀ k, vS.ownBlock = some k → ¬ D k) (h4 : ∀ k, vK.ownBlock = some k → ¬ D k) : Srch w' sb rb lb bs vS Q ls p rv vK stk best := by
  obtain ⟨xs, hp1, hp2⟩ := h.pat
  exact ⟨(ho.block sb (heap_lt h.blk) h1).trans h.blk, (ho.block rb (heap_lt h.rch) h2).trans h.rch, (ho.block lb (heap_lt h.lns) h2').trans h.lns, h.len, ⟨xs, ownsRow_of hp1 (fun k hk => ho.block k (hp1.lt k hk).2 (h3 k hk)), hp2⟩, ownsRow_of h.own (fun k hk => ho.block k (h.own.lt k hk).2 (h4 k hk)), h.rs, h.ss⟩
theorem zints_set (l : List Int) (k : Nat) (x : Int) : zints (l.set k x) = (zints l).set k (.int .i64 x) := by simp [zints, List.map_set]
theorem zints_get (l : List Int) (k : Nat) (x : Int) (h : l[k]? = some x) : (zints l)[k]? = some (.int .i64 x) := by simp [zints, h]
theorem zints_len (l : List Int) : (zints l).length = l.length := by simp [zints]
/-- The place's length is noted. -/
theorem Srch.note {w sb rb lb bs vS Q ls p rv vK stk best} (h : Srch w sb rb lb bs vS Q ls p rv vK stk best) (b : Nat) : Srch (w.setCell ⟨lb, p, none⟩ (.int .i64 ((b : Int) - p))) sb rb lb bs vS Q ls p rv vK stk (some b) := by
  obtain ⟨xs, hp1, hp2⟩ := h.pat
  have hrs := h.rs
  refine ⟨(Below.heap_setCell _ _ _ _ (show sb ≠ lb by omega)).trans h.blk, (Below.heap_setCell _ _ _ _ (show rb ≠ lb by omega)).trans h.rch, ?_, h.len, ⟨xs, ownsRow_of hp1 (fun k hk => ?_), hp2⟩, ownsRow_of h.own (fun k hk => ?_), h.rs, h.ss⟩
  · have := heap_setCell_same (o := p) h.lns (.int .i64 ((b : Int) - p))
    rw [this]
    congr 2
    apply Array.ext'
    rw [Array.toList_setIfInBounds, ← zints_set, List.set_set]
    rfl
  · exact Below.heap_setCell _ _ _ _ (h.ss k hk).2.2.1
  · have := (h.own.lt k hk).1
    exact Below.heap_setCell _ _ _ _ (show k ≠ lb by omega)
/-- The search turns to another place. -/
theorem Srch.turn {w sb rb lb bs vS Q ls p rv vK stk best} (h : Srch w sb rb lb bs vS Q ls p rv vK stk best) (p' : Nat) (hp : (ls.set p (lenV p best))[p']? = some (-1)) : Srch w sb rb lb bs vS Q (ls.set p (lenV p best)) p' rv vK stk none := by
  refine ⟨?_, h.rch, ?_, h.len, h.pat, h.own, h.rs, h.ss⟩
  · rw [List.length_set]; exact h.blk
  · have hs : (ls.set p (lenV p best)).set p' (lenV p' none) = ls.set p (lenV p best) := by
      apply List.ext_getElem?
      intro k
      by_cases e : k = p'
      · subst e
        rw [List.getElem?_set_self (List.getElem?_eq_some_iff.1 hp).1, hp]; rfl
      · rw [List.getElem?_set_ne (fun h => e h.symm)]
    rw [hs]; exact h.lns
end Go.Proofs.YthhiofppbpgipaaGreatDoor

namespace Go.Proofs.YthhiofppbpgipaaGreatDoor
open Go.RowKit
theorem ints_len (l : List Nat) : (ints l).length = l.length := by simp [ints]
theorem ints_get (l : List Nat) (k x : Nat) (h : l[k]? = some x) : (ints l)[k]? = some (.int .i64 x) := by simp [ints, h]
theorem ints_append (l m : List Nat) : ints (l ++ m) = ints l ++ ints m := by simp [ints]
theorem ints_set (l : List Nat) (k x : Nat) : ints (l.set k x) = (ints l).set k (.int .i64 x) := by simp [ints, List.map_set]
theorem thr_append (l : List (Nat × Nat)) (q b : Nat) : thr (l ++ [(q, b)]) = thr l ++ [.int .i64 q, .int .i64 b] := by simp [thr]
/-- How many states were not reached at the place. -/
def unm (rv : List Nat) (x : Nat) : Nat := rv.countP (fun y => y != x)
theorem unm_le (rv : List Nat) (x : Nat) : unm rv x ≤ rv.length := List.countP_le_length
theorem unm_set {rv : List Nat} {q x y : Nat} (h : rv[q]? = some y) (hy : y ≠ x) : unm (rv.set q x) x + 1 = unm rv x := by
  unfold unm
  induction rv generalizing q with
  | nil => simp at h
  | cons a l ih =>
    cases q with
    | zero =>
      simp at h
      subst h
      simp [hy]
    | succ q =>
      simp at h
      have := ih h
      simp only [List.set_cons_succ, List.countP_cons]
      omega
/-- Where a row may lie behind a call: where it lay, or in a block that was not there. -/
def MovedB (w : World) (v v' : Value) : Prop := v'.ownBlock = v.ownBlock ∨ ∃ G, v'.ownBlock = some G ∧ w.heap.size ≤ G
theorem MovedB.refl (w : World) (v : Value) : MovedB w v v := Or.inl rfl
theorem MovedB.trans {w w1 : World} {u v x : Value} (h : MovedB w u v) (hs : w.heap.size ≤ w1.heap.size) (k : MovedB w1 v x) : MovedB w u x := by
  rcases k with k | ⟨G, k, k2⟩
  · rw [MovedB, k]; exact h
  · exact Or.inr ⟨G, k, Nat.le_trans hs k2⟩
theorem MovedB.old {w : World} {v v' : Value} (h : MovedB w v v') {k : Nat} (hk : v'.ownBlock = some k) (hl : k < w.heap.size) : some k = v.ownBlock := by
  rcases h with h | ⟨G, h, h2⟩
  · rw [← h, hk]
  · rw [h] at hk; cases hk; omega
theorem rows_apart {w : World} {B B' : Nat} {e e' : TypeId} {z z' : Nat} {v v' : Value} {n n' : Nat} {xs xs' : List Value} (h : w.ownsRow B e z v n xs) (h' : w.ownsRow B' e' z' v' n' xs') (hne : e ≠ e') : ∀ k, v.ownBlock = some k → v'.ownBlock ≠ some k := by
  intro k hk hk'
  rcases h.2 with ⟨rfl, _⟩ | ⟨g, cap, cur, rfl, _, h3, _⟩
  · cases hk
  · cases hk
    rcases h'.2 with ⟨rfl, _⟩ | ⟨g', cap', cur', rfl, _, h3', _⟩
    · cases hk'
    · cases hk'
      rw [h3] at h3'
      injection h3' with h4
      injection h4 with _ h5 _
      exact hne h5
theorem row_short {w : World} {B : Nat} {e : TypeId} {po : Option Addr} {n m cap : Nat} {l : List Nat} (h : w.ownsRow B e 1 (.slice po n cap) n (ints l)) (hm : m ≤ n) : w.ownsRow B e 1 (.slice po m cap) m (ints (l.take m)) := by
  have hl := h.1
  rw [ints_len] at hl
  refine ⟨by rw [ints_len, List.length_take]; omega, ?_⟩
  rcases h.2 with ⟨e1, e2⟩ | ⟨g, cap', cur, hv, h3, h4, h5, h6, h7, h8⟩
  · cases e1
    exact Or.inl ⟨by rw [show m = 0 by omega], by omega⟩
  · cases hv
    refine Or.inr ⟨g, cap, cur, rfl, h3, h4, by omega, h6, h7, ?_⟩
    have : (ints (l.take m)) = (ints l).take m := by simp [ints, List.map_take]
    rw [this, ← h8, List.take_take]
    congr 1
    omega
theorem Srch.alloc {w sb rb lb bs vS Q ls p rv vK stk best} (h : Srch w sb rb lb bs vS Q ls p rv vK stk best) (o : Obj) : Srch (w.alloc o) sb rb lb bs vS Q ls p rv vK stk best := h.only (D := fun _ => False) ((Only.refl _ w).alloc o) (fun e => e) (fun e => e) (fun e => e) (fun _ _ e => e) (fun _ _ e => e)
/-- The stack is turned. -/
theorem Srch.setStack {w w1 sb rb lb bs vS Q ls p rv vK stk best v' stk'} (h : Srch w sb rb lb bs vS Q ls p rv vK stk best) (hg : w.grownBy w1 vK.ownBlock) (ho : w1.ownsRow bs 3 1 v' stk'.length (ints stk')) : Srch (w1.setCell ⟨sb, 2, none⟩ v') sb rb lb bs vS Q ls p rv v' stk' best := by
  obtain ⟨xs, hp1, hp2⟩ := h.pat
  have hrs := h.rs
  have hK : ∀ k, k < bs → some k ≠ vK.ownBlock := fun k hk e => by have := (h.own.lt k e.symm).1; omega
  have hb : ∀ k, k < bs → k < w.heap.size → w1.heap[k]? = w.heap[k]? := fun k hk hl => hg.block k hl (hK k hk)
  have hb1 := (hb sb (by omega) (heap_lt h.blk)).trans h.blk
  refine ⟨heap_setCell_same hb1 v', ?_, ?_, h.len, ⟨xs, ownsRow_of hp1 (fun k hk => ?_), hp2⟩, ownsRow_of ho (fun k hk => ?_), h.rs, h.ss⟩
  · exact (Below.heap_setCell _ _ _ _ (show rb ≠ sb by omega)).trans ((hb rb (by omega) (heap_lt h.rch)).trans h.rch)
  · exact (Below.heap_setCell _ _ _ _ (show lb ≠ sb by omega)).trans ((hb lb (by omega) (heap_lt h.lns)).trans h.lns)
  · have := h.ss k hk
    exact (Below.heap_setCell _ _ _ _ (show k ≠ sb by omega)).trans (hb k (by omega) (hp1.lt k hk).2)
  · have := (ho.lt k hk).1
    exact Below.heap_setCell _ _ _ _ (show k ≠ sb by omega)
theorem grown_refl (w : World) (r : Option Nat) : w.grownBy w r := ⟨rfl, rfl, rfl, Nat.le_refl _, fun _ _ _ => rfl⟩
/-- A state is reached. -/
theorem Srch.reach {w sb rb lb bs vS Q ls p rv vK stk best} (h : Srch w sb rb lb bs vS Q ls p rv vK stk best) (q x : Nat) : Srch (w.setCell ⟨rb, q, none⟩ (.int .i64 x)) sb rb lb bs vS Q ls p (rv.set q x) vK stk best := by
  obtain ⟨xs, hp1, hp2⟩ := h.pat
  have hrs := h.rs
  refine ⟨(Below.heap_setCell _ _ _ _ (show sb ≠ rb by omega)).trans h.blk, ?_, (Below.heap_setCell _ _ _ _ (show lb ≠ rb by omega)).trans h.lns, by rw [List.length_set]; exact h.len, ⟨xs, ownsRow_of hp1 (fun k hk => ?_), hp2⟩, ownsRow_of h.own (fun k hk => ?_), h.rs, h.ss⟩
  · have := heap_setCell_same (o := q) h.rch (.int .i64 x)
    rw [this, ints_set]
    simp
  · exact Below.heap_setCell _ _ _ _ (h.ss k hk).2.1
  · have := (h.own.lt k hk).1
    exact Below.heap_setCell _ _ _ _ (show k ≠ rb by omega)
theorem Srch.rcell {w sb rb lb bs vS Q ls p rv vK stk best} {q x : Nat} (h : Srch w sb rb lb bs vS Q ls p rv vK stk best) (hq : rv[q]? = some x) : w.cell? ⟨rb, q, none⟩ = some (.int .i64 x) := cell_of h.rch (by rw [List.getElem?_toArray]; exact ints_get _ _ _ hq)
theorem Srch.scell {w sb rb lb bs vS Q ls p rv K n cap stk best} {k x : Nat} (h : Srch w sb rb lb bs vS Q ls p rv (.slice (some ⟨K, 0, none⟩) n cap) stk best) (hk : stk[k]? = some x) : w.cell? ⟨K, k, none⟩ = some (.int .i64 x) := by
  have := h.own.cells (g := K) rfl k _ (ints_get _ _ _ hk)
  unfold Addr.add at this
  split at this
  · rename_i h0; rw [h0]; exact this
  · simpa using this
theorem PatAt.cells {w G n cap Q k q} (h : PatAt w (.slice (some ⟨G, 0, none⟩) n cap) Q) (hk : Q[k]? = some q) : ∃ ys, SetIs ys q.set ∧ ∀ j u, (stCs q ys)[j]? = some u → w.cell? ⟨G, k * 7 + j, none⟩ = some u := by
  obtain ⟨xs, h2, h3⟩ := h
  obtain ⟨ys, h4, h5⟩ := h3 k q hk
  refine ⟨ys, h4, fun j u hj => ?_⟩
  rcases h2.2 with ⟨e, _⟩ | ⟨g, cap', cur, hv, _, h7, _, _, _, h8⟩
  · cases e
  · cases hv
    have h9 := h5 j u hj
    rw [← h8, List.getElem?_take] at h9
    split at h9
    · refine cell_of h7 ?_
      rw [← Array.getElem?_toList]; exact h9
    · cases h9
theorem PatAt.form {w v Q} (h : PatAt w v Q) (hQ : Q.length ≠ 0) : ∃ G cap, v = .slice (some ⟨G, 0, none⟩) Q.length cap := by
  obtain ⟨xs, h2, _⟩ := h
  rcases h2.2 with ⟨_, h0⟩ | ⟨g, cap, cur, hv, _⟩
  · exact absurd h0 hQ
  · exact ⟨g, cap, hv⟩
theorem own_form {w : World} {B : Nat} {e : TypeId} {z : Nat} {v : Value} {n : Nat} {xs : List Value} (h : w.ownsRow B e z v n xs) (hn : n ≠ 0) : ∃ G cap, v = .slice (some ⟨G, 0, none⟩) n cap := by
  rcases h.2 with ⟨_, h0⟩ | ⟨g, cap, cur, hv, _⟩
  · exact absurd h0 hn
  · exact ⟨g, cap, hv⟩
end Go.Proofs.YthhiofppbpgipaaGreatDoor

namespace Go.Proofs.YthhiofppbpgipaaGreatDoor
open Go.RowKit
theorem info3 : (Tryz.prog.info? 3).map (fun i => (i.zero, i.size, i.bytes)) = some (some (.int .i64 0), 1, 8) := by kernel_rfl
theorem info283 : (Tryz.prog.info? 327).map (fun i => (i.zero, i.size, i.bytes)) = some (some (.agg #[.int .i64 0, .int .i64 0]), 2, 16) := by kernel_rfl
def stkN (w : World) (sb : Nat) : Nat := match w.cell? ⟨sb, 2, none⟩ with | some (.slice _ n _) => n | _ => 0
def unmN (w : World) (rb n : Nat) (x : Int) : Nat := (List.range n).countP (fun k => match w.cell? ⟨rb, k, none⟩ with | some v => intOf v != x | none => false)
theorem Srch.stkN {w sb rb lb bs vS Q ls p rv vK stk best} (h : Srch w sb rb lb bs vS Q ls p rv vK stk best) : stkN w sb = stk.length := by
  obtain ⟨po, cap, rfl⟩ := ownsRow_slice h.own
  have : w.cell? ⟨sb, 2, none⟩ = some (.slice po stk.length cap) := cell_of h.blk rfl
  unfold YthhiofppbpgipaaGreatDoor.stkN
  rw [this]
theorem Srch.unmN {w sb rb lb bs vS Q ls p rv vK stk best} (h : Srch w sb rb lb bs vS Q ls p rv vK stk best) (x : Nat) : unmN w rb Q.length ((x : Int)) = unm rv x := by
  have hr : rv = (List.range rv.length).map (fun k => rv.getD k 0) := by
    apply List.ext_getElem
    · simp
    · intro i h1 h2
      simp [h1]
  unfold YthhiofppbpgipaaGreatDoor.unmN unm
  conv => rhs; rw [hr]
  rw [List.countP_map, h.len]
  apply List.countP_congr
  intro k hk
  have hk' : k < rv.length := by rw [h.len]; exact List.mem_range.1 hk
  have hq : rv[k]? = some rv[k] := List.getElem?_eq_getElem hk'
  rw [h.rcell hq]
  have e : rv.getD k 0 = rv[k] := by simp [hk']
  simp only [Function.comp, e, intOf]
  constructor
  · intro h1
    simp only [bne_iff_ne, ne_eq] at h1 ⊢
    omega
  · intro h1
    simp only [bne_iff_ne, ne_eq] at h1 ⊢
    omega
/-- While follow goes round. -/
def FLoop (W0 : World) (sb rb lb bs : Nat) (vS : Value) (Q : List St) (t : List UInt8) (ls : List Int) (rv : List Nat) (vK : Value) (best : Option Nat) (vO : Value) (O : List (Nat × Nat)) (q0 b p : Nat) (s1 : Value) (wr : World) : Prop :=
  ∃ (vK1 : Value) (stk1 rv1 : List Nat) (O1 : List (Nat × Nat)) (best1 : Option Nat), Srch wr sb rb lb bs vS Q ls p rv1 vK1 stk1 best1 ∧ wr.ownsRow bs 327 2 s1 O1.length (thr O1) ∧
    FInv Q t p b q0 (fun q => rv[q]? = some (p + 1)) O best stk1 (fun q => rv1[q]? = some (p + 1)) O1 best1 ∧ (∀ x ∈ stk1, x < Q.length) ∧ O1.length + unm rv1 (p + 1) ≤ Q.length ∧ 2 * unm rv1 (p + 1) + stk1.length ≤ 2 * Q.length + 1 ∧
    (∀ (k x : Nat), rv1[k]? = some x → x = p + 1 ∨ rv[k]? = some x) ∧ Only (fun k => k = sb ∨ (k = rb ∨ k = lb) ∨ some k = vK.ownBlock ∨ some k = vO.ownBlock) W0 wr ∧ MovedB W0 vK vK1 ∧ MovedB W0 vO s1
def FollowPost (w : World) (sb rb lb bs : Nat) (vS : Value) (Q : List St) (t : List UInt8) (ls : List Int) (rv : List Nat) (vK : Value) (best : Option Nat) (vO : Value) (O : List (Nat × Nat)) (q0 b p : Nat) (e : Ending) (w' : World) : Prop :=
  ∃ (vO' : Value) (vK1 : Value) (rv1 : List Nat) (O1 : List (Nat × Nat)) (best1 : Option Nat), e = .returned vO' ∧ Srch w' sb rb lb bs vS Q ls p rv1 vK1 [] best1 ∧ w'.ownsRow bs 327 2 vO' O1.length (thr O1) ∧
    FInv Q t p b q0 (fun q => rv[q]? = some (p + 1)) O best [] (fun q => rv1[q]? = some (p + 1)) O1 best1 ∧ O1.length + unm rv1 (p + 1) ≤ Q.length ∧
    (∀ (k x : Nat), rv1[k]? = some x → x = p + 1 ∨ rv[k]? = some x) ∧ Only (fun k => k = sb ∨ (k = rb ∨ k = lb) ∨ some k = vK.ownBlock ∨ some k = vO.ownBlock) w w' ∧ MovedB w vK vK1 ∧ MovedB w vO vO'
theorem Only.fromAlloc {D : Nat → Prop} {w w' : World} {o : Obj} (h : Only D (w.alloc o) w') : Only D w w' := ((Only.refl D w).alloc o).trans h (fun _ _ e => e)
theorem MovedB.fromAlloc {w : World} {o : Obj} {v v' : Value} (h : MovedB (w.alloc o) v v') : MovedB w v v' := by
  rcases h with h | ⟨G, h, h2⟩
  · exact Or.inl h
  · exact Or.inr ⟨G, h, by rw [World.size_alloc] at h2; omega⟩
theorem FLoop.done {w sb rb lb bs vS Q t ls rv vK best vO O q0 b p s1 wr o vK1 rv1 O1 best1} (h1 : Srch wr sb rb lb bs vS Q ls p rv1 vK1 [] best1) (h2 : wr.ownsRow bs 327 2 s1 O1.length (thr O1))
    (h3 : FInv Q t p b q0 (fun q => rv[q]? = some (p + 1)) O best [] (fun q => rv1[q]? = some (p + 1)) O1 best1) (h4 : O1.length + unm rv1 (p + 1) ≤ Q.length) (h5 : ∀ (k x : Nat), rv1[k]? = some x → x = p + 1 ∨ rv[k]? = some x)
    (h6 : Only (fun k => k = sb ∨ (k = rb ∨ k = lb) ∨ some k = vK.ownBlock ∨ some k = vO.ownBlock) (w.alloc o) wr) (h7 : MovedB (w.alloc o) vK vK1) (h8 : MovedB (w.alloc o) vO s1) : FollowPost w sb rb lb bs vS Q t ls rv vK best vO O q0 b p (.returned s1) wr :=
  ⟨s1, vK1, rv1, O1, best1, rfl, h1, h2, h3, h4, h5, h6.fromAlloc, h7.fromAlloc, h8.fromAlloc⟩
/-- What a state's kind says of the ways on from it. -/
theorem step_of {Q : List St} {t : List UInt8} {q p r : Nat} {st : St} (hq : Q[q]? = some st) : Step Q t q p r p ↔ (st.kind = 1 ∧ p = 0 ∧ r = st.next) ∨ (st.kind = 2 ∧ p = t.length ∧ r = st.next) ∨ (st.kind = 3 ∧ (r = st.next ∨ r = st.other)) := by
  constructor
  · rintro ⟨s, h, h1 | h1 | h1 | h1⟩
    · obtain ⟨_, c, _, _, _, h2⟩ := h1; omega
    · rw [hq] at h; cases h; exact Or.inl ⟨h1.1, h1.2.1, h1.2.2.1⟩
    · rw [hq] at h; cases h; exact Or.inr (Or.inl ⟨h1.1, h1.2.1, h1.2.2.1⟩)
    · rw [hq] at h; cases h; exact Or.inr (Or.inr ⟨h1.1, h1.2.1⟩)
  · rintro (h | h | h)
    · exact ⟨st, hq, Or.inr (Or.inl ⟨h.1, h.2.1, h.2.2, rfl⟩)⟩
    · exact ⟨st, hq, Or.inr (Or.inr (Or.inl ⟨h.1, h.2.1, h.2.2, rfl⟩))⟩
    · exact ⟨st, hq, Or.inr (Or.inr (Or.inr ⟨h.1, h.2, rfl⟩))⟩
theorem takes_iff {Q : List St} {q : Nat} {st : St} (hq : Q[q]? = some st) : Takes Q q ↔ st.kind = 0 := ⟨fun ⟨s, h, hk⟩ => by rw [hq] at h; cases h; exact hk, fun h => ⟨st, hq, h⟩⟩
theorem done_iff {Q : List St} {q : Nat} {st : St} (hq : Q[q]? = some st) : Done Q q ↔ st.kind = 4 := ⟨fun ⟨s, h, hk⟩ => by rw [hq] at h; cases h; exact hk, fun h => ⟨st, hq, h⟩⟩
theorem set_iff {rv : List Nat} {q y : Nat} (h : q < rv.length) (x : Nat) : (rv.set q y)[x]? = some y ↔ rv[x]? = some y ∨ x = q := by
  by_cases e : x = q
  · subst e; simp [List.getElem?_set_self h]
  · rw [List.getElem?_set_ne (fun h => e h.symm)]; simp [e]
end Go.Proofs.YthhiofppbpgipaaGreatDoor

