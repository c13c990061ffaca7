import Derived.Test.YthhiofppbpgipaaGreatDoorMTree
import Derived.Deep.RegionLaw
import Derived.Deep.AppendLies
namespace Go.Proofs.YthhiofppbpgipaaGreatDoor
open Go.RowKit
/-- A state's seven cells. -/
def stCs (q : St) (ys : Nat → Nat) : List Value := [.int .i64 q.kind, .int .u64 (ys 0), .int .u64 (ys 1), .int .u64 (ys 2), .int .u64 (ys 3), .int .i64 q.next, .int .i64 q.other]
def StCells (Q : List St) (xs : List Value) : Prop := ∀ k q, Q[k]? = some q → ∃ ys, SetIs ys q.set ∧ ∀ j u, (stCs q ys)[j]? = some u → xs[k * 7 + j]? = some u
/-- A pattern lies in block pb: its row of states is v, and they are Q. -/
def Mach (w : World) (pb : Nat) (v : Value) (fst : Int) (Q : List St) : Prop :=
  w.heap[pb]? = some (.cells #[v, .int .i64 fst] 59 (0, 0)) ∧ ∃ xs, w.ownsRow 0 146 7 v Q.length xs ∧ StCells Q xs
/-- What building may turn: the pattern's block and its row of states. -/
def Grew (w w' : World) (pb : Nat) (v v' : Value) : Prop :=
  Only (fun k => k = pb ∨ some k = v.ownBlock) w w' ∧ (v'.ownBlock = v.ownBlock ∨ ∃ G, v'.ownBlock = some G ∧ w.heap.size ≤ G)
theorem Grew.refl (w : World) (pb : Nat) (v : Value) : Grew w w pb v v := ⟨Only.refl _ _, Or.inl rfl⟩
theorem Grew.trans {a b c : World} {pb : Nat} {u v x : Value} (h : Grew a b pb u v) (k : Grew b c pb v x) : Grew a c pb u x := by
  refine ⟨h.1.trans k.1 (fun i hi hk => ?_), ?_⟩
  · rcases hk with hk | hk
    · exact Or.inl hk
    · rcases h.2 with h2 | ⟨G, h2, h3⟩
      · rw [h2] at hk; exact Or.inr hk
      · rw [h2] at hk; cases hk; omega
  · rcases k.2 with k2 | ⟨G, k2, k3⟩
    · rw [k2]; exact h.2
    · exact Or.inr ⟨G, k2, Nat.le_trans h.1.size k3⟩
theorem Grew.before {a b c : World} {pb : Nat} {u v : Value} {D : Nat → Prop} (h : Only D a b) (hD : ∀ k, k < a.heap.size → ¬ D k) (k : Grew b c pb u v) : Grew a c pb u v := by
  refine ⟨⟨k.1.os.trans h.os, k.1.tape.trans h.tape, k.1.output.trans h.output, Nat.le_trans h.size k.1.size, fun i hi hd => (k.1.block i (Nat.lt_of_lt_of_le hi h.size) hd).trans (h.block i hi (hD i hi))⟩, ?_⟩
  rcases k.2 with k2 | ⟨G, k2, k3⟩
  · exact Or.inl k2
  · exact Or.inr ⟨G, k2, Nat.le_trans h.size k3⟩
theorem Mach.own_ne {w pb v fst Q} (h : Mach w pb v fst Q) : v.ownBlock ≠ some pb := by
  obtain ⟨h1, xs, h2, _⟩ := h
  intro e
  rcases h2.2 with ⟨rfl, _⟩ | ⟨g, cap, cur, rfl, _, h3, _⟩
  · cases e
  · cases e
    rw [h3] at h1
    cases h1
theorem Mach.own_lt {w pb v fst Q} (h : Mach w pb v fst Q) : ∀ k, v.ownBlock = some k → k < w.heap.size := by
  obtain ⟨h1, xs, h2, _⟩ := h
  exact fun k hk => (h2.lt k hk).2
theorem Mach.of {w w' pb v fst Q} (h : Mach w pb v fst Q) (h1 : w'.heap[pb]? = w.heap[pb]?) (h2 : ∀ k, v.ownBlock = some k → w'.heap[k]? = w.heap[k]?) : Mach w' pb v fst Q := by
  obtain ⟨h3, xs, h4, h5⟩ := h
  exact ⟨h1.trans h3, xs, ownsRow_of h4 h2, h5⟩
theorem Mach.only {w w' pb v fst Q D} (h : Mach w pb v fst Q) (ho : Only D w w') (hD : ∀ k, k < w.heap.size → ¬ D k) : Mach w' pb v fst Q :=
  h.of (ho.block pb (heap_lt h.1) (hD _ (heap_lt h.1))) (fun k hk => ho.block k (h.own_lt k hk) (hD _ (h.own_lt k hk)))
theorem Mach.slice {w pb v fst Q} (h : Mach w pb v fst Q) : ∃ po cap, v = .slice po Q.length cap := by
  obtain ⟨h1, xs, h2, _⟩ := h
  exact ownsRow_slice h2
theorem StCells.push {Q xs q ys} (h : StCells Q xs) (hl : xs.length = Q.length * 7) (hs : SetIs ys q.set) : StCells (Q ++ [q]) (xs ++ stCs q ys) := by
  intro k r hk
  by_cases hlt : k < Q.length
  · rw [List.getElem?_append_left hlt] at hk
    obtain ⟨zs, h1, h2⟩ := h k r hk
    refine ⟨zs, h1, fun j u hj => ?_⟩
    have h3 := h2 j u hj
    rw [List.getElem?_append_left (List.getElem?_eq_some_iff.1 h3).1]
    exact h3
  · rw [List.getElem?_append_right (by omega)] at hk
    have hk' : k = Q.length := by
      have := (List.getElem?_eq_some_iff.1 hk).1
      simp at this; omega
    subst hk'
    simp at hk
    subst hk
    refine ⟨ys, hs, fun j u hj => ?_⟩
    rw [List.getElem?_append_right (by omega), hl, Nat.add_sub_cancel_left]; exact hj
theorem stCs_ok (q : St) (ys : Nat → Nat) : ∀ u ∈ stCs q ys, u.oneCell' = true := by
  intro u hu
  unfold stCs at hu
  simp at hu
  rcases hu with rfl | rfl | rfl | rfl | rfl | rfl | rfl <;> rfl
theorem info140 : (Tryz.prog.info? 146).map (fun i => (i.zero, i.size, i.bytes)) = some (some (.agg #[.int .i64 0, .int .u64 0, .int .u64 0, .int .u64 0, .int .u64 0, .int .i64 0, .int .i64 0]), 7, 56) := by kernel_rfl
def AddPost (pb : Nat) (v : Value) (fst : Int) (Q : List St) (q : St) (w : World) (e : Ending) (w' : World) : Prop :=
  e = .returned (.int .i64 Q.length) ∧ ∃ v', Mach w' pb v' fst (Q ++ [q]) ∧ Grew w w' pb v v'
set_option maxRecDepth 100000 in
set_option maxHeartbeats 4000000 in
theorem padd_any (pb : Nat) (v : Value) (fst : Int) (Q : List St) (q : St) (ys : Nat → Nat) (hs : SetIs ys q.set) (hQ : Q.length ≤ 1000000) (w : World) (h : Mach w pb v fst Q) :
    Calls Tryz.prog 49 #[.pointer (some ⟨pb, 0, none⟩), .agg #[.int .i64 q.kind, .int .u64 (ys 0), .int .u64 (ys 1), .int .u64 (ys 2), .int .u64 (ys 3), .int .i64 q.next, .int .i64 q.other]] w (AddPost pb v fst Q q w) := by
  obtain ⟨i0, hi0, hz0, hz1, hz2⟩ := info_parts info140
  obtain ⟨po, cap, rfl⟩ := h.slice
  have hne := h.own_ne
  have holt := h.own_lt
  obtain ⟨hpb, xs, hown, hst⟩ := h
  have hpl := heap_lt hpb
  have c0 : w.cell? ⟨pb, 0, none⟩ = some (.slice po Q.length cap) := cell_of hpb rfl
  have f0 := free_of hpb 0
  have HP := hide hpb
  have HO := hide hown
  have HS := hide hst
  have HN := hide hne
  have HL := hide holt
  have HY := hide hs
  clear hpb hown hst hne holt hs
  go_enter Tryz.func49, Tryz.ntmps49
  go_wp2_with fail
  have hn1 : some pb ≠ (Value.slice po Q.length cap).ownBlock := fun e => HN.out e.symm
  have hn2 : some w.heap.size ≠ (Value.slice po Q.length cap).ownBlock := fun e => by have := HL.out _ e.symm; omega
  go_region_law (refine step_append_lies _ (by rfl) _ _ _ (by rfl) 0 146 i0 _ 7 56 Tryz.underlying57 hi0 hz0 hz1 hz2 rfl (by omega) (.slice po Q.length cap) Q.length xs (by rfl) (((HO.out.alloc _).alloc _).drew) ⟨w.heap.size + 1, 0, none⟩ 1 1 (stCs q ys) (by rfl) (by rfl) (World.news_of_block (cs := (stCs q ys).toArray) (t := 146) (fr := (0, 0)) (newb1 w _ _)) (stCs_ok q ys) (by omega) (by unfold maxLen; omega) (by omega) (Nat.zero_le _) (w.heap.size + 2) (by simp) ?_; intro gg cap2 w1 hown1 hgrow hat hlt; have hb1 : w1.heap[pb]? = some (.cells #[.slice po Q.length cap, .int .i64 fst] 59 (0, 0)) := (hgrow.block pb (by simp; omega) hn1).trans ((Below.heap_alloc _ _ _ (by simp; omega)).trans ((Below.heap_alloc _ _ _ hpl).trans HP.out)); have ff := free_of hb1 0; have cc : w1.cell? ⟨pb, 0, none⟩ = some (.slice po Q.length cap) := cell_of hb1 rfl; have HB1 := hide hb1;clear hb1)
  all_goals
    have hgp : gg ≠ pb := by
      rintro rfl
      rcases hat with e | e
      · exact HN.out e
      · omega
    have HA := hide hat
    have HG := hide hgrow
    have HO1 := hide hown1
    clear hat hgrow hown1
    go_wp2
    go_ret
    refine ⟨rfl, .slice (some ⟨gg, 0, none⟩) (Q.length + 1) cap2, ⟨heap_setCell_same HB1.out _, xs ++ stCs q ys, ?_, HS.out.push HO.out.1 HY.out⟩, ?_, ?_⟩
    · rw [show (Q ++ [q]).length = Q.length + 1 by simp]
      exact ownsRow_of HO1.out (fun k hk => by cases hk; exact Below.heap_setCell _ _ _ _ hgp)
    · exact (((((Only.refl (fun k => k = pb ∨ some k = (Value.slice po Q.length cap).ownBlock) w).alloc _).alloc _).drewN 1).grown HG.out (fun k hk _ => Or.inr hk.symm)).setCell (p := ⟨pb, 0, none⟩) (fun _ => Or.inl rfl) _
    · rcases HA.out with e | e
      · exact Or.inl e.symm
      · exact Or.inr ⟨gg, rfl, by omega⟩
end Go.Proofs.YthhiofppbpgipaaGreatDoor
