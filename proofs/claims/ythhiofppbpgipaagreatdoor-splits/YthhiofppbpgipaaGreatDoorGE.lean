import Derived.Test.YthhiofppbpgipaaGreatDoorMClass
import Derived.Laws.AppendOwn
namespace Go.Proofs.YthhiofppbpgipaaGreatDoor
open Go.RowKit
def CellsAt (w : World) (g o : Nat) (cs : List Value) : Prop := ∀ j v, cs[j]? = some v → w.cell? ⟨g, o + j, none⟩ = some v
/-- A node's six cells. -/
def nodeCs (kind : Int) (xs : Nat → Nat) (po : Option Addr) (n cap : Nat) : List Value := [.int .i64 kind, .int .u64 (xs 0), .int .u64 (xs 1), .int .u64 (xs 2), .int .u64 (xs 3), .slice po n cap]
/-- What a node means whose parts mean Rs. -/
def NodeIs (kind : Int) (xs : Nat → Nat) (Rs : List Pat) (R : Pat) : Prop :=
  (kind = 0 ∧ ∃ S, SetIs xs S ∧ R = byteR S) ∨ (kind = 1 ∧ R = beginR) ∨ (kind = 2 ∧ R = endR) ∨ (kind = 3 ∧ R = rowR Rs) ∨ (kind = 4 ∧ Rs ≠ [] ∧ R = altR Rs) ∨
  (kind = 5 ∧ ∃ A, Rs = [A] ∧ R = starR A) ∨ (kind = 6 ∧ ∃ A, Rs = [A] ∧ R = plusR A) ∨ (kind = 7 ∧ ∃ A, Rs = [A] ∧ R = optR A)
/-- How many states a node makes besides its parts' own. -/
def costOf (kind : Int) (n : Nat) : Nat := if kind = 3 then 0 else if kind = 4 then n - 1 else 1
/-- These six cells are a node that means R; the parts lie in blocks of F; d levels at most, N states at most. -/
def Den : Nat → Nat → World → (Nat → Prop) → List Value → Pat → Prop
  | 0, _, _, _, _, _ => False
  | d + 1, N, w, F, cs, R => ∃ (kind : Int) (xs : Nat → Nat) (po : Option Addr) (n cap : Nat) (Rs : List Pat) (Ns : List Nat), cs = nodeCs kind xs po n cap ∧ NodeIs kind xs Rs R ∧ Rs.length = n ∧ (n ≤ maxLen ∧ n ≤ cap) ∧ Ns.length = n ∧ costOf kind n + Ns.sum ≤ N ∧
      (n = 0 ∨ ∃ g, po = some ⟨g, 0, none⟩ ∧ F g ∧ g < w.heap.size ∧ ∀ i A M, Rs[i]? = some A → Ns[i]? = some M → ∃ cs', CellsAt w g (i * 6) cs' ∧ Den d M w F cs' A)
theorem CellsAt.of {w w' : World} {g o : Nat} {cs : List Value} (h : CellsAt w g o cs) (hb : w'.heap[g]? = w.heap[g]?) : CellsAt w' g o cs := fun j v hv => by
  rw [World.cell?_of_block (w := w) (a := ⟨g, o + j, none⟩) hb]; exact h j v hv
theorem Den.frame {d N : Nat} {w w' : World} {F : Nat → Prop} {cs : List Value} {R : Pat} (h : Den d N w F cs R) (hs : w.heap.size ≤ w'.heap.size) (hf : ∀ g, F g → g < w.heap.size → w'.heap[g]? = w.heap[g]?) : Den d N w' F cs R := by
  induction d generalizing N cs R with
  | zero => exact h
  | succ d ih =>
    obtain ⟨kind, xs, po, n, cap, Rs, Ns, h1, h2, h3, h4, ha, hb, h5⟩ := h
    refine ⟨kind, xs, po, n, cap, Rs, Ns, h1, h2, h3, h4, ha, hb, ?_⟩
    rcases h5 with h5 | ⟨g, h6, h7, h8, h9⟩
    · exact Or.inl h5
    · refine Or.inr ⟨g, h6, h7, Nat.lt_of_lt_of_le h8 hs, fun i A M hA hM => ?_⟩
      obtain ⟨cs', h10, h11⟩ := h9 i A M hA hM
      exact ⟨cs', h10.of (hf g h7 h8), ih h11⟩
theorem Den.mono {d N : Nat} {w : World} {F G : Nat → Prop} {cs : List Value} {R : Pat} (h : Den d N w F cs R) (hf : ∀ g, g < w.heap.size → F g → G g) : Den d N w G cs R := by
  induction d generalizing N cs R with
  | zero => exact h
  | succ d ih =>
    obtain ⟨kind, xs, po, n, cap, Rs, Ns, h1, h2, h3, h4, ha, hb, h5⟩ := h
    refine ⟨kind, xs, po, n, cap, Rs, Ns, h1, h2, h3, h4, ha, hb, ?_⟩
    rcases h5 with h5 | ⟨g, h6, h7, h8, h9⟩
    · exact Or.inl h5
    · refine Or.inr ⟨g, h6, hf g h8 h7, h8, fun i A M hA hM => ?_⟩
      obtain ⟨cs', h10, h11⟩ := h9 i A M hA hM
      exact ⟨cs', h10, ih h11⟩
theorem Den.up {d e N : Nat} {w : World} {F : Nat → Prop} {cs : List Value} {R : Pat} (h : Den d N w F cs R) (hd : d ≤ e) : Den e N w F cs R := by
  induction d generalizing e N cs R with
  | zero => exact h.elim
  | succ d ih =>
    obtain ⟨e, rfl⟩ : ∃ e', e = e' + 1 := ⟨e - 1, by omega⟩
    obtain ⟨kind, xs, po, n, cap, Rs, Ns, h1, h2, h3, h4, ha, hb, h5⟩ := h
    refine ⟨kind, xs, po, n, cap, Rs, Ns, h1, h2, h3, h4, ha, hb, ?_⟩
    rcases h5 with h5 | ⟨g, h6, h7, h8, h9⟩
    · exact Or.inl h5
    · refine Or.inr ⟨g, h6, h7, h8, fun i A M hA hM => ?_⟩
      obtain ⟨cs', h10, h11⟩ := h9 i A M hA hM
      exact ⟨cs', h10, ih h11 (by omega)⟩
theorem Den.more {d N M : Nat} {w : World} {F : Nat → Prop} {cs : List Value} {R : Pat} (h : Den d N w F cs R) (hd : N ≤ M) : Den d M w F cs R := by
  cases d with
  | zero => exact h.elim
  | succ d =>
    obtain ⟨kind, xs, po, n, cap, Rs, Ns, h1, h2, h3, h4, ha, hb, h5⟩ := h
    exact ⟨kind, xs, po, n, cap, Rs, Ns, h1, h2, h3, h4, ha, Nat.le_trans hb hd, h5⟩
theorem Den.only {d N : Nat} {w w' : World} {F D : Nat → Prop} {cs : List Value} {R : Pat} (h : Den d N w F cs R) (ho : Only D w w') (hd : ∀ g, F g → ¬ D g) : Den d N w' F cs R :=
  h.frame ho.size (fun g hg hl => ho.block g hl (hd g hg))
/-- A node of one byte. -/
theorem den_byte {w F xs S cap po} (h : SetIs xs S) : Den 1 1 w F (nodeCs 0 xs po 0 cap) (byteR S) := ⟨0, xs, po, 0, cap, [], [], rfl, Or.inl ⟨rfl, S, h, rfl⟩, rfl, ⟨Nat.zero_le _, Nat.zero_le _⟩, rfl, by decide, Or.inl rfl⟩
theorem den_begin {w F xs cap po} : Den 1 1 w F (nodeCs 1 xs po 0 cap) beginR := ⟨1, xs, po, 0, cap, [], [], rfl, Or.inr (Or.inl ⟨rfl, rfl⟩), rfl, ⟨Nat.zero_le _, Nat.zero_le _⟩, rfl, by decide, Or.inl rfl⟩
theorem den_end {w F xs cap po} : Den 1 1 w F (nodeCs 2 xs po 0 cap) endR := ⟨2, xs, po, 0, cap, [], [], rfl, Or.inr (Or.inr (Or.inl ⟨rfl, rfl⟩)), rfl, ⟨Nat.zero_le _, Nat.zero_le _⟩, rfl, by decide, Or.inl rfl⟩
theorem den_empty {w F xs cap po} : Den 1 0 w F (nodeCs 3 xs po 0 cap) emptyR := ⟨3, xs, po, 0, cap, [], [], rfl, Or.inr (Or.inr (Or.inr (Or.inl ⟨rfl, rfl⟩))), rfl, ⟨Nat.zero_le _, Nat.zero_le _⟩, rfl, by decide, Or.inl rfl⟩
end Go.Proofs.YthhiofppbpgipaaGreatDoor

namespace Go.Proofs.YthhiofppbpgipaaGreatDoor
open Go.RowKit
def nodeAg (kind : Int) (xs : Nat → Nat) (po : Option Addr) (n cap : Nat) : Array Value := #[.int .i64 kind, .int .u64 (xs 0), .int .u64 (xs 1), .int .u64 (xs 2), .int .u64 (xs 3), .slice po n cap]
/-- What a reader of a part answers. -/
def NodePost (b : Nat) (s : ByteArray) (i : Nat) (w : World) (res : Option (Pat × Nat)) (e : Ending) (w' : World) : Prop :=
  Only (fun k => k = b) w w' ∧ ∃ (kind : Int) (xs : Nat → Nat) (po : Option Addr) (n cap : Nat), e = .returned (.tuple #[.agg (nodeAg kind xs po n cap), .bool res.isSome]) ∧
    ∀ R j, res = some (R, j) → RdB w' b s j ∧ ∃ d, Den d (j - i) w' (fun g => w.heap.size ≤ g) (nodeCs kind xs po n cap) R
def ChoiceOK (f : Nat) : Prop := ∀ (b : Nat) (s : ByteArray) (i : Nat) (w : World), RdB w b s i → i ≤ s.size → s.size ≤ maxLen → s.size ≤ 65536 → s.size - i < f → Calls Tryz.prog 104 #[.pointer (some ⟨b, 0, none⟩)] w (NodePost b s i w (choiceP s.data.toList f i))
end Go.Proofs.YthhiofppbpgipaaGreatDoor

namespace Go.Proofs.YthhiofppbpgipaaGreatDoor
open Go.RowKit
/-- Where the row lies behind an append: where it lay, or in a new block. -/
def Moved (w : World) (v v' : Value) : Prop := ∃ G, v'.ownBlock = some G ∧ (v.ownBlock = some G ∨ w.heap.size ≤ G)
theorem wpList_append_sep {P : Program} (w : World) {ops : Array Oper} {rest : List Oper} {o : Oper} {a : Act} {Q : Exit → Act → World → Prop} (hgd : o.guard = none) (s x : Operand) (t : TypeId)
    (ho : o.op = .call { callee := .builtin .append, args := #[s, x], argTypes := #[t, t] })
    (base : Nat) (e : TypeId) (i : TypeInfo) (z : Value) (size bytes : Nat) (ht : P.underlying t = some (.slice e)) (hi : P.info? e = some i) (hz : i.zero = some z)
    (hsize : i.size = size) (hby : i.bytes = bytes) (hzs : z.cells.size = size) (hsz : 0 < size)
    (v : Value) (n : Nat) (xs : List Value) (hs : a.eval s = v) (hown : w.ownsRow base e size v n xs)
    (ad : Addr) (m c : Nat) (news : List Value) (hx : a.eval x = .slice (some ad) m c) (hl : news.length = m * size) (hnews : ∀ j u, news[j]? = some u → w.cell? (ad.add j) = some u) (h1 : ∀ u ∈ news, u.oneCell' = true)
    (h0 : 0 < m) (h63 : n + m ≤ maxLen) (hbytes : (n + m) * bytes ≤ 140737488355328) (hbase : base ≤ w.heap.size)
    (h : ∀ v' w', w'.ownsRow base e size v' (n + m) (xs ++ news) → w.grownBy w' v.ownBlock → Moved w v v' → wpList P ops Q rest (a.put o.dst v') w') : wpList P ops Q (o :: rest) a w := by
  refine wpList_plain hgd fun K hK => ?_
  obtain ⟨v', w', hr, h2, h3, h4⟩ := run_append_own (P := P) w base t o.type e i z size bytes ht hi hz hsize hby hzs hsz v n xs hown ad m c news hl hnews h1 h63 hbytes hbase
  have hmv : Moved w v v' := by
    have hsmall : n + m ≤ 9223372036854775807 := by simp only [maxLen] at h63; omega
    rcases hown.2 with ⟨rfl, rfl⟩ | ⟨g, cap, cur, rfl, hbg, hg, hnc, hcm, hcs, htake⟩
    · subst hsize; subst hby
      rw [run_append_nil (P := P) w t o.type e i z ht hi hz ad m c news hl hnews h0 (by omega) (by rw [Nat.zero_add] at hbytes; omega)] at hr
      injection hr with hv _
      subst hv
      exact ⟨w.heap.size, rfl, Or.inr (Nat.le_refl _)⟩
    · subst hsize; subst hby
      by_cases hroom : n + m ≤ cap
      · have hfit : n * i.size + news.length ≤ cur.size := by rw [hl, hcs, ← Nat.add_mul]; exact Nat.mul_le_mul_right _ hroom
        rw [run_append_room (P := P) w t o.type e i ht hi g n cap cur hg ad m c news hl hnews h1 hroom hfit] at hr
        injection hr with hv _
        subst hv
        exact ⟨g, rfl, Or.inl rfl⟩
      · rcases h2.2 with ⟨_, hn0⟩ | ⟨g', cap', cur', hv', hbg', hg', hnc', hcm', hcs', htake'⟩
        · omega
        · have hr' := run_append_grow (P := P) w t o.type e i z ht hi hz ⟨g, 0, none⟩ n cap xs hown.1 (hown.cells (g := g) rfl) ad m c news hl hnews (by omega) (by omega) (growslice_fits (by omega) hbytes)
          rw [hr'] at hr
          injection hr with hv _
          subst hv
          exact ⟨w.heap.size, rfl, Or.inr (Nat.le_refl _)⟩
  unfold Oper.wp execOp
  simp only [ho, resolve, invoke, builtin, Sem.run_bind, Sem.run_pure, Result.andThen_ok, List.map_toArray, List.map_cons, List.map_nil, hs, hx, hr]
  exact hK _ _ (h v' w' h2 h3 hmv)
theorem ownsRow_of {w w' : World} {base : Nat} {e : TypeId} {size : Nat} {v : Value} {n : Nat} {xs : List Value} (h : w.ownsRow base e size v n xs) (hb : ∀ k, v.ownBlock = some k → w'.heap[k]? = w.heap[k]?) : w'.ownsRow base e size v n xs := by
  refine ⟨h.1, ?_⟩
  rcases h.2 with h2 | ⟨g, cap, cur, hv, h3, h4, h5⟩
  · exact Or.inl h2
  · subst hv
    exact Or.inr ⟨g, cap, cur, rfl, h3, (hb g rfl).trans h4, h5⟩
theorem ownsRow_slice {w : World} {base : Nat} {e : TypeId} {size : Nat} {v : Value} {n : Nat} {xs : List Value} (h : w.ownsRow base e size v n xs) : ∃ po cap, v = .slice po n cap := by
  rcases h.2 with ⟨h2, h3⟩ | ⟨g, cap, cur, hv, _⟩
  · subst h3; exact ⟨none, 0, h2⟩
  · exact ⟨_, _, hv⟩
/-- A row of nodes that means acc, its parts in blocks from base on, N states at most. -/
def PartsOf (d N : Nat) (xs : List Value) (w : World) (base : Nat) (v : Value) (acc : List Pat) : Prop :=
  w.ownsRow base 139 6 v acc.length xs ∧ ∃ Ns : List Nat, Ns.length = acc.length ∧ Ns.sum ≤ N ∧ ∀ k A M, acc[k]? = some A → Ns[k]? = some M → ∃ cs, (∀ j u, cs[j]? = some u → xs[k * 6 + j]? = some u) ∧ Den d M w (fun g => base ≤ g ∧ some g ≠ v.ownBlock) cs A
theorem PartsOf.nil (w : World) (base : Nat) (N : Nat) : PartsOf 0 N [] w base (.slice none 0 0) [] := ⟨World.ownsRow_nil _ _ _ _, [], rfl, Nat.zero_le _, fun k A M h => by simp at h⟩
theorem PartsOf.only {d N xs w w' base v acc D} (h : PartsOf d N xs w base v acc) (ho : Only D w w') (hD : ∀ k, base ≤ k → k < w.heap.size → ¬ D k) : PartsOf d N xs w' base v acc := by
  obtain ⟨h1, Ns, h2, h3, h4⟩ := h
  refine ⟨ownsRow_of h1 (fun k hk => ?_), Ns, h2, h3, fun k A M hA hM => ?_⟩
  · have := h1.lt k hk
    exact ho.block k this.2 (hD k this.1 this.2)
  · obtain ⟨cs, h1, h2⟩ := h4 k A M hA hM
    exact ⟨cs, h1, h2.frame ho.size (fun g hg hl => ho.block g hl (hD g hg.1 hl))⟩
theorem PartsOf.more {d N N' xs w base v acc} (h : PartsOf d N xs w base v acc) (hN : N ≤ N') : PartsOf d N' xs w base v acc := by
  obtain ⟨h1, Ns, h2, h3, h4⟩ := h
  exact ⟨h1, Ns, h2, Nat.le_trans h3 hN, h4⟩
theorem PartsOf.push {d N xs w w' base v v' acc B cs R d' N'} (h : PartsOf d N xs w base v acc) (hB : ∀ k, v.ownBlock = some k → k < B) (hbB : base ≤ B) (hd : Den d' N' w (fun g => B ≤ g) cs R)
    (ho : w'.ownsRow base 139 6 v' (acc.length + 1) (xs ++ cs)) (hg : w.grownBy w' v.ownBlock) (hm : Moved w v v') : PartsOf (max d d') (N + N') (xs ++ cs) w' base v' (acc ++ [R]) := by
  obtain ⟨hh1, Ns, hh2, hh3, hh4⟩ := h
  have hl : xs.length = acc.length * 6 := hh1.1
  have key : ∀ e M ys A, Den e M w (fun g => base ≤ g ∧ some g ≠ v.ownBlock) ys A → Den e M w' (fun g => base ≤ g ∧ some g ≠ v'.ownBlock) ys A := by
    intro e M ys A hA
    obtain ⟨G, hG, hG2⟩ := hm
    have h1 : Den e M w (fun g => (base ≤ g ∧ some g ≠ v'.ownBlock) ∧ some g ≠ v.ownBlock) ys A := hA.mono (fun g hl hg => ⟨⟨hg.1, fun e => by
      rw [hG] at e
      cases e
      rcases hG2 with h | h
      · exact hg.2 h.symm
      · omega⟩, hg.2⟩)
    exact (h1.frame (w' := w') hg.size (fun g hg1 hl => hg.block g hl hg1.2)).mono (fun g _ hg => hg.1)
  refine ⟨by simpa using ho, Ns ++ [N'], by simp [hh2], by simp; omega, fun k A M hA hM => ?_⟩
  by_cases hk : k < acc.length
  · rw [List.getElem?_append_left hk] at hA
    rw [List.getElem?_append_left (by omega)] at hM
    obtain ⟨ys, h1, h2⟩ := hh4 k A M hA hM
    refine ⟨ys, fun j u hj => ?_, (key _ _ _ _ h2).up (Nat.le_max_left _ _)⟩
    have h3 := h1 j u hj
    rw [List.getElem?_append_left (List.getElem?_eq_some_iff.1 h3).1]
    exact h3
  · rw [List.getElem?_append_right (by omega)] at hA
    rw [List.getElem?_append_right (by omega)] at hM
    have hk' : k = acc.length := by
      have := (List.getElem?_eq_some_iff.1 hA).1
      simp at this; omega
    subst hk'
    rw [hh2] at hM
    simp at hA hM
    subst hA
    subst hM
    refine ⟨cs, fun j u hj => ?_, (key _ _ _ _ (hd.mono (fun g _ hg => ⟨Nat.le_trans hbB hg, fun e => ?_⟩))).up (Nat.le_max_right _ _)⟩
    · rw [List.getElem?_append_right (by omega), hl, Nat.add_sub_cancel_left]; exact hj
    · have := hB g e.symm; omega
theorem PartsOf.den {d N M xs w base v acc} (h : PartsOf d N xs w base v acc) (kind : Int) (ys : Nat → Nat) (po : Option Addr) (cap : Nat) (hv : v = .slice po acc.length cap) {R : Pat} (hn : NodeIs kind ys acc R) (hl : acc.length ≤ maxLen) (hc : costOf kind acc.length + N ≤ M) :
    Den (d + 1) M w (fun g => base ≤ g) (nodeCs kind ys po acc.length cap) R := by
  obtain ⟨hh1, Ns, hh2, hh3, hh4⟩ := h
  have hcap : acc.length ≤ cap := by
    rcases hh1.2 with ⟨_, h2⟩ | ⟨g, cap', cur, hv', h3, h4, h5, h6, h7, h8⟩
    · omega
    · rw [hv] at hv'
      injection hv' with e1 e2 e3
      omega
  refine ⟨kind, ys, po, acc.length, cap, acc, Ns, rfl, hn, rfl, ⟨hl, hcap⟩, hh2, by omega, ?_⟩
  rcases hh1.2 with ⟨_, h2⟩ | ⟨g, cap', cur, hv', h3, h4, h5, h6, h7, h8⟩
  · exact Or.inl h2
  · rw [hv] at hv'
    injection hv' with e1 e2 e3
    subst e1
    refine Or.inr ⟨g, rfl, h3, heap_lt h4, fun i A K hA hK => ?_⟩
    obtain ⟨cs, h9, h10⟩ := hh4 i A K hA hK
    refine ⟨cs, fun j u hj => ?_, h10.mono (fun g _ hg => hg.1)⟩
    have h11 := h9 j u hj
    rw [← h8, List.getElem?_take] at h11
    split at h11
    · refine cell_of h4 ?_
      rw [← Array.getElem?_toList]; exact h11
    · cases h11
theorem PartsOf.size {d N xs w base v acc} (h : PartsOf d N xs w base v acc) : acc.length ≤ maxLen := by
  rcases h.1.2 with ⟨_, h2⟩ | ⟨g, cap', cur, hv', h3, h4, h5, h6, h7, h8⟩
  · rw [h2]; exact Nat.zero_le _
  · omega
end Go.Proofs.YthhiofppbpgipaaGreatDoor

