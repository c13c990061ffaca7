import Derived.Test.YtdbdbaepmdmnfaaGreatDoorQ06
import Derived.Deep.RegionWith
import Derived.Deep.RegionLaw
import Derived.Deep.AppendLies
import Derived.Deep.LoopGhost
namespace Go.Proofs.YtdbdbaepmdmnfaaGreatDoor
open Go.RowKit
theorem RdAt.drew {w b o s i} (h : RdAt w b o s i) : RdAt w.drew b o s i := h
/-- What is answered for a whole pattern. -/
def TreePost (s : ByteArray) (w : World) (e : Ending) (w' : World) : Prop :=
  Only (fun _ => False) w w' ∧ ∃ (kind : Int) (xs : Nat → Nat) (po : Option Addr) (n cap : Nat), e = .returned (.tuple #[.agg (nodeAg kind xs po n cap), .bool (wholeP s.data.toList).isSome]) ∧
    ∀ R, wholeP s.data.toList = some R → ∃ d, Den d s.size w' (fun g => w.heap.size ≤ g) (nodeCs kind xs po n cap) R
set_option maxHeartbeats 4000000 in
theorem readTree_any (s : ByteArray) (h6 : s.size ≤ 65536) (w : World) : Calls Tryz.prog 55 #[.string s] w (TreePost s w) := by
  have hs : s.size ≤ maxLen := by unfold maxLen; omega
  have hlen : s.data.toList.length = s.size := len_eq s
  by_cases h0 : s.size = 0
  · obtain rfl : s = ⟨#[]⟩ := by
      cases s with
      | mk a => have : a = #[] := Array.eq_empty_of_size_eq_zero h0
                rw [this]
    have hz := new0 w (.cells (nodeAg 0 (fun _ => 0) none 0 0) 118)
    go_enter Tryz.func55, Tryz.ntmps55
    go_wp2
    refine bodyPost_ret (v := .tuple #[.agg (nodeAg 3 (fun _ => 0) none 0 0), .bool true]) (by simp [results, Tryz.results55, go_sem, nodeAg]) rfl ⟨(Only.refl _ w).alloc _, 3, fun _ => 0, none, 0, 0, ?_, ?_⟩
    · rfl
    · intro R h
      have : R = emptyR := by
        have h1 : wholeP (⟨#[]⟩ : ByteArray).data.toList = some emptyR := rfl
        rw [h1] at h
        cases h; rfl
      subst this
      exact ⟨1, den_empty.more (Nat.zero_le _)⟩
  · have hne : s.toList.isEmpty = false := by
      rw [ByteArray.toList_eq]
      cases hl : s.data.toList with
      | nil => rw [hl] at hlen; simp at hlen; omega
      | cons a t => rfl
    have hn : ∀ o, w.heap.size < w.heap.size → (fun _ => False) (Addr.block ⟨w.heap.size, o, none⟩) := fun _ h => absurd h (Nat.lt_irrefl _)
    have hw : wholeP s.data.toList = (match choiceP s.data.toList (s.size + 1) 0 with | none => none | some (R, j) => if j = s.size then some R else none) := by
      unfold wholeP
      rw [if_neg (by omega), hlen]
      cases choiceP s.data.toList (s.size + 1) 0 with
      | none => rfl
      | some p => rfl
    have HW := hide hw
    have HR0 : ∀ o1, Hid (RdB ((w.alloc o1).alloc (.cells #[.string s, .int .i64 0] 170)) (w.heap.size + 1) s 0) := fun o1 => by
      show RdB _ _ _ _
      exact newb1 w _ _
    clear hw
    go_enter Tryz.func55, Tryz.ntmps55
    go_wp2_with fail
    refine (choice_all (s.size + 1) _ s 0 _ (HR0 _).out (Nat.zero_le _) hs h6 (by omega)).mono ?_
    rintro e w1 ⟨ho1, kind, xs, po, n, cap, rfl, hden⟩
    have hq : w1.heap[w.heap.size]? = some (.cells (nodeAg 0 (fun _ => 0) none 0 0) 118 (0, 0)) := (ho1.block w.heap.size (by simp; omega) (by omega)).trans ((Below.heap_alloc _ _ _ (by simp)).trans (new0 w _))
    have HO1 : Hid (Only (fun _ => False) w w1) := (((Only.refl (fun _ => False) w).alloc _).alloc _).trans ho1 (fun k hk e => by omega)
    have HD := hide hden
    have hsq1 := heap_lt hq
    have hsz1 : w.heap.size + 2 ≤ w1.heap.size := by have := ho1.size; simpa using this
    clear ho1 hden HR0
    have z0 : w1.cell? ⟨w.heap.size, 0, none⟩ = some (.int .i64 0) := cell_of hq rfl
    have z1 : w1.cell? ⟨w.heap.size, 1, none⟩ = some (.int .u64 0) := cell_of hq rfl
    have z2 : w1.cell? ⟨w.heap.size, 2, none⟩ = some (.int .u64 0) := cell_of hq rfl
    have z3 : w1.cell? ⟨w.heap.size, 3, none⟩ = some (.int .u64 0) := cell_of hq rfl
    have z4 : w1.cell? ⟨w.heap.size, 4, none⟩ = some (.int .u64 0) := cell_of hq rfl
    have z5 : w1.cell? ⟨w.heap.size, 5, none⟩ = some (.slice none 0 0) := cell_of hq rfl
    have y0 := free_of hq 0
    have y1 := free_of hq 1
    have y2 := free_of hq 2
    have y3 := free_of hq 3
    have y4 := free_of hq 4
    have y5 := free_of hq 5
    clear hq
    unfold nodeAg
    cases hc : choiceP s.data.toList (s.size + 1) 0 with
    | none =>
      have HU : Hid (wholeP s.data.toList = none) := by
        show wholeP _ = _
        rw [HW.out, hc]
      clear hc HW HD
      simp only [Option.isSome_none]
      go_wp2
      go_region
      go_wp2
      refine bodyPost_ret (v := .tuple #[.agg (nodeAg kind xs po n cap), .bool false]) (by simp [results, Tryz.results55, go_sem, nodeAg, z0, z1, z2, z3, z4, z5, hsq1]) rfl ⟨(Only.alloc ((((((HO1.out.setCell (p := ⟨w.heap.size, 0, none⟩) (hn 0) _).setCell (p := ⟨w.heap.size, 1, none⟩) (hn 1) _).setCell (p := ⟨w.heap.size, 2, none⟩) (hn 2) _).setCell (p := ⟨w.heap.size, 3, none⟩) (hn 3) _).setCell (p := ⟨w.heap.size, 4, none⟩) (hn 4) _).setCell (p := ⟨w.heap.size, 5, none⟩) (hn 5) _) _).drewN 1, kind, xs, po, n, cap, ?_, ?_⟩
      · rw [HU.out]; rfl
      · intro R h
        rw [HU.out] at h
        cases h
    | some p =>
      obtain ⟨R1, j1⟩ := p
      have hpg := choice_prog _ _ _ _ _ hc
      rw [hlen] at hpg
      obtain ⟨hr1, d1, hd1⟩ := HD.out R1 j1 hc
      have HR1 := hide hr1
      have HD1 : Hid (Den d1 s.size w1 (fun g => w.heap.size < g) (nodeCs kind xs po n cap) R1) := (hd1.more (show j1 - 0 ≤ s.size by omega)).mono (fun g _ hg => by simp at hg; omega)
      simp only [Option.isSome_some]
      by_cases hj : j1 = s.size
      · have HU : Hid (wholeP s.data.toList = some R1) := by
          show wholeP _ = _
          rw [HW.out, hc]
          simp only
          rw [if_pos hj]
        clear hc HW HD hr1 hd1
        go_wp2
        go_region_with (go_at_call 84; refine (ended_yes _ 0 s j1 hj _ (HR1.out.alloc' _).at.drew).mono ?_; rintro e w' ⟨rfl, n3, rfl⟩)
        all_goals
          go_wp2
          refine bodyPost_ret (v := .tuple #[.agg (nodeAg kind xs po n cap), .bool true]) (by simp [results, Tryz.results55, go_sem, nodeAg, z0, z1, z2, z3, z4, z5, hsq1]) rfl ⟨((((((((HO1.out.alloc _).drewN _).setCell (p := ⟨w.heap.size, 0, none⟩) (hn 0) _).setCell (p := ⟨w.heap.size, 1, none⟩) (hn 1) _).setCell (p := ⟨w.heap.size, 2, none⟩) (hn 2) _).setCell (p := ⟨w.heap.size, 3, none⟩) (hn 3) _).setCell (p := ⟨w.heap.size, 4, none⟩) (hn 4) _).setCell (p := ⟨w.heap.size, 5, none⟩) (hn 5) _), kind, xs, po, n, cap, ?_, ?_⟩
          · rw [HU.out]; rfl
          · intro R h
            rw [HU.out] at h
            cases h
            refine ⟨d1, Den.mono (Den.frame HD1.out (by simp [World.setCell]) ?_) (fun g _ hg => Nat.le_of_lt hg)⟩
            intro g hg hl
            rw [Below.heap_setCell _ _ _ _ (show g ≠ w.heap.size by omega), Below.heap_setCell _ _ _ _ (show g ≠ w.heap.size by omega), Below.heap_setCell _ _ _ _ (show g ≠ w.heap.size by omega), Below.heap_setCell _ _ _ _ (show g ≠ w.heap.size by omega), Below.heap_setCell _ _ _ _ (show g ≠ w.heap.size by omega), Below.heap_setCell _ _ _ _ (show g ≠ w.heap.size by omega), drewN_heap]
            exact Below.heap_alloc _ _ _ hl
      · have HU : Hid (wholeP s.data.toList = none) := by
          show wholeP _ = _
          rw [HW.out, hc]
          simp only
          rw [if_neg hj]
        have hj2 : j1 < s.size := by omega
        clear hc HW HD hr1 hd1
        go_wp2
        go_region_with (go_at_call 84; refine (ended_no _ 0 s j1 hj2 _ (HR1.out.alloc' _).at.drew).mono ?_; rintro e w' ⟨rfl, n3, rfl⟩)
        all_goals
          go_wp2
          refine bodyPost_ret (v := .tuple #[.agg (nodeAg kind xs po n cap), .bool false]) (by simp [results, Tryz.results55, go_sem, nodeAg, z0, z1, z2, z3, z4, z5, hsq1]) rfl ⟨((((((((HO1.out.alloc _).drewN _).setCell (p := ⟨w.heap.size, 0, none⟩) (hn 0) _).setCell (p := ⟨w.heap.size, 1, none⟩) (hn 1) _).setCell (p := ⟨w.heap.size, 2, none⟩) (hn 2) _).setCell (p := ⟨w.heap.size, 3, none⟩) (hn 3) _).setCell (p := ⟨w.heap.size, 4, none⟩) (hn 4) _).setCell (p := ⟨w.heap.size, 5, none⟩) (hn 5) _), kind, xs, po, n, cap, ?_, ?_⟩
          · rw [HU.out]; rfl
          · intro R h
            rw [HU.out] at h
            cases h
end Go.Proofs.YtdbdbaepmdmnfaaGreatDoor
namespace Go.Proofs.YtdbdbaepmdmnfaaGreatDoor
open Go.RowKit
/-- A state's seven cells. -/
def stCs (q : St) (ys : Nat → Nat) : List Value := [.int .i64 q.kind, .int .u64 (ys 0), .int .u64 (ys 1), .int .u64 (ys 2), .int .u64 (ys 3), .int .i64 q.next, .int .i64 q.other]
def StCells (Q : List St) (xs : List Value) : Prop := ∀ k q, Q[k]? = some q → ∃ ys, SetIs ys q.set ∧ ∀ j u, (stCs q ys)[j]? = some u → xs[k * 7 + j]? = some u
/-- A pattern lies in block pb: its row of states is v, and they are Q. -/
def Mach (w : World) (pb : Nat) (v : Value) (fst : Int) (Q : List St) : Prop :=
  w.heap[pb]? = some (.cells #[v, .int .i64 fst] 68 (0, 0)) ∧ ∃ xs, w.ownsRow 0 125 7 v Q.length xs ∧ StCells Q xs
/-- What building may turn: the pattern's block and its row of states. -/
def Grew (w w' : World) (pb : Nat) (v v' : Value) : Prop :=
  Only (fun k => k = pb ∨ some k = v.ownBlock) w w' ∧ (v'.ownBlock = v.ownBlock ∨ ∃ G, v'.ownBlock = some G ∧ w.heap.size ≤ G)
theorem Grew.refl (w : World) (pb : Nat) (v : Value) : Grew w w pb v v := ⟨Only.refl _ _, Or.inl rfl⟩
theorem Grew.trans {a b c : World} {pb : Nat} {u v x : Value} (h : Grew a b pb u v) (k : Grew b c pb v x) : Grew a c pb u x := by
  refine ⟨h.1.trans k.1 (fun i hi hk => ?_), ?_⟩
  · rcases hk with hk | hk
    · exact Or.inl hk
    · rcases h.2 with h2 | ⟨G, h2, h3⟩
      · rw [h2] at hk; exact Or.inr hk
      · rw [h2] at hk; cases hk; omega
  · rcases k.2 with k2 | ⟨G, k2, k3⟩
    · rw [k2]; exact h.2
    · exact Or.inr ⟨G, k2, Nat.le_trans h.1.size k3⟩
theorem Grew.before {a b c : World} {pb : Nat} {u v : Value} {D : Nat → Prop} (h : Only D a b) (hD : ∀ k, k < a.heap.size → ¬ D k) (k : Grew b c pb u v) : Grew a c pb u v := by
  refine ⟨⟨k.1.os.trans h.os, k.1.tape.trans h.tape, k.1.output.trans h.output, Nat.le_trans h.size k.1.size, fun i hi hd => (k.1.block i (Nat.lt_of_lt_of_le hi h.size) hd).trans (h.block i hi (hD i hi))⟩, ?_⟩
  rcases k.2 with k2 | ⟨G, k2, k3⟩
  · exact Or.inl k2
  · exact Or.inr ⟨G, k2, Nat.le_trans h.size k3⟩
theorem Mach.own_ne {w pb v fst Q} (h : Mach w pb v fst Q) : v.ownBlock ≠ some pb := by
  obtain ⟨h1, xs, h2, _⟩ := h
  intro e
  rcases h2.2 with ⟨rfl, _⟩ | ⟨g, cap, cur, rfl, _, h3, _⟩
  · cases e
  · cases e
    rw [h3] at h1
    cases h1
theorem Mach.own_lt {w pb v fst Q} (h : Mach w pb v fst Q) : ∀ k, v.ownBlock = some k → k < w.heap.size := by
  obtain ⟨h1, xs, h2, _⟩ := h
  exact fun k hk => (h2.lt k hk).2
theorem Mach.of {w w' pb v fst Q} (h : Mach w pb v fst Q) (h1 : w'.heap[pb]? = w.heap[pb]?) (h2 : ∀ k, v.ownBlock = some k → w'.heap[k]? = w.heap[k]?) : Mach w' pb v fst Q := by
  obtain ⟨h3, xs, h4, h5⟩ := h
  exact ⟨h1.trans h3, xs, ownsRow_of h4 h2, h5⟩
theorem Mach.only {w w' pb v fst Q D} (h : Mach w pb v fst Q) (ho : Only D w w') (hD : ∀ k, k < w.heap.size → ¬ D k) : Mach w' pb v fst Q :=
  h.of (ho.block pb (heap_lt h.1) (hD _ (heap_lt h.1))) (fun k hk => ho.block k (h.own_lt k hk) (hD _ (h.own_lt k hk)))
theorem Mach.slice {w pb v fst Q} (h : Mach w pb v fst Q) : ∃ po cap, v = .slice po Q.length cap := by
  obtain ⟨h1, xs, h2, _⟩ := h
  exact ownsRow_slice h2
theorem StCells.push {Q xs q ys} (h : StCells Q xs) (hl : xs.length = Q.length * 7) (hs : SetIs ys q.set) : StCells (Q ++ [q]) (xs ++ stCs q ys) := by
  intro k r hk
  by_cases hlt : k < Q.length
  · rw [List.getElem?_append_left hlt] at hk
    obtain ⟨zs, h1, h2⟩ := h k r hk
    refine ⟨zs, h1, fun j u hj => ?_⟩
    have h3 := h2 j u hj
    rw [List.getElem?_append_left (List.getElem?_eq_some_iff.1 h3).1]
    exact h3
  · rw [List.getElem?_append_right (by omega)] at hk
    have hk' : k = Q.length := by
      have := (List.getElem?_eq_some_iff.1 hk).1
      simp at this; omega
    subst hk'
    simp at hk
    subst hk
    refine ⟨ys, hs, fun j u hj => ?_⟩
    rw [List.getElem?_append_right (by omega), hl, Nat.add_sub_cancel_left]; exact hj
theorem stCs_ok (q : St) (ys : Nat → Nat) : ∀ u ∈ stCs q ys, u.oneCell' = true := by
  intro u hu
  unfold stCs at hu
  simp at hu
  rcases hu with rfl | rfl | rfl | rfl | rfl | rfl | rfl <;> rfl
theorem info140 : (Tryz.prog.info? 125).map (fun i => (i.zero, i.size, i.bytes)) = some (some (.agg #[.int .i64 0, .int .u64 0, .int .u64 0, .int .u64 0, .int .u64 0, .int .i64 0, .int .i64 0]), 7, 56) := by kernel_rfl
def AddPost (pb : Nat) (v : Value) (fst : Int) (Q : List St) (q : St) (w : World) (e : Ending) (w' : World) : Prop :=
  e = .returned (.int .i64 Q.length) ∧ ∃ v', Mach w' pb v' fst (Q ++ [q]) ∧ Grew w w' pb v v'
set_option maxRecDepth 100000 in
set_option maxHeartbeats 4000000 in
theorem padd_any (pb : Nat) (v : Value) (fst : Int) (Q : List St) (q : St) (ys : Nat → Nat) (hs : SetIs ys q.set) (hQ : Q.length ≤ 1000000) (w : World) (h : Mach w pb v fst Q) :
    Calls Tryz.prog 57 #[.pointer (some ⟨pb, 0, none⟩), .agg #[.int .i64 q.kind, .int .u64 (ys 0), .int .u64 (ys 1), .int .u64 (ys 2), .int .u64 (ys 3), .int .i64 q.next, .int .i64 q.other]] w (AddPost pb v fst Q q w) := by
  obtain ⟨i0, hi0, hz0, hz1, hz2⟩ := info_parts info140
  obtain ⟨po, cap, rfl⟩ := h.slice
  have hne := h.own_ne
  have holt := h.own_lt
  obtain ⟨hpb, xs, hown, hst⟩ := h
  have hpl := heap_lt hpb
  have c0 : w.cell? ⟨pb, 0, none⟩ = some (.slice po Q.length cap) := cell_of hpb rfl
  have f0 := free_of hpb 0
  have HP := hide hpb
  have HO := hide hown
  have HS := hide hst
  have HN := hide hne
  have HL := hide holt
  have HY := hide hs
  clear hpb hown hst hne holt hs
  go_enter Tryz.func57, Tryz.ntmps57
  go_wp2_with fail
  have hn1 : some pb ≠ (Value.slice po Q.length cap).ownBlock := fun e => HN.out e.symm
  have hn2 : some w.heap.size ≠ (Value.slice po Q.length cap).ownBlock := fun e => by have := HL.out _ e.symm; omega
  go_region_law (refine step_append_lies _ (by rfl) _ _ _ (by rfl) 0 125 i0 _ 7 56 Tryz.underlying66 hi0 hz0 hz1 hz2 rfl (by omega) (.slice po Q.length cap) Q.length xs (by rfl) (((HO.out.alloc _).alloc _).drew) ⟨w.heap.size + 1, 0, none⟩ 1 1 (stCs q ys) (by rfl) (by rfl) (World.news_of_block (cs := (stCs q ys).toArray) (t := 125) (fr := (0, 0)) (newb1 w _ _)) (stCs_ok q ys) (by omega) (by unfold maxLen; omega) (by omega) (Nat.zero_le _) (w.heap.size + 2) (by simp) ?_; intro gg cap2 w1 hown1 hgrow hat hlt; have hb1 : w1.heap[pb]? = some (.cells #[.slice po Q.length cap, .int .i64 fst] 68 (0, 0)) := (hgrow.block pb (by simp; omega) hn1).trans ((Below.heap_alloc _ _ _ (by simp; omega)).trans ((Below.heap_alloc _ _ _ hpl).trans HP.out)); have ff := free_of hb1 0; have cc : w1.cell? ⟨pb, 0, none⟩ = some (.slice po Q.length cap) := cell_of hb1 rfl; have HB1 := hide hb1;clear hb1)
  all_goals
    have hgp : gg ≠ pb := by
      rintro rfl
      rcases hat with e | e
      · exact HN.out e
      · omega
    have HA := hide hat
    have HG := hide hgrow
    have HO1 := hide hown1
    clear hat hgrow hown1
    go_wp2
    go_ret
    refine ⟨rfl, .slice (some ⟨gg, 0, none⟩) (Q.length + 1) cap2, ⟨heap_setCell_same HB1.out _, xs ++ stCs q ys, ?_, HS.out.push HO.out.1 HY.out⟩, ?_, ?_⟩
    · rw [show (Q ++ [q]).length = Q.length + 1 by simp]
      exact ownsRow_of HO1.out (fun k hk => by cases hk; exact Below.heap_setCell _ _ _ _ hgp)
    · exact (((((Only.refl (fun k => k = pb ∨ some k = (Value.slice po Q.length cap).ownBlock) w).alloc _).alloc _).drewN 1).grown HG.out (fun k hk _ => Or.inr hk.symm)).setCell (p := ⟨pb, 0, none⟩) (fun _ => Or.inl rfl) _
    · rcases HA.out with e | e
      · exact Or.inl e.symm
      · exact Or.inr ⟨gg, rfl, by omega⟩
end Go.Proofs.YtdbdbaepmdmnfaaGreatDoor
namespace Go.Proofs.YtdbdbaepmdmnfaaGreatDoor
open Go.RowKit
theorem Mach.alloc {w pb v fst Q} (h : Mach w pb v fst Q) (o : Obj) : Mach (w.alloc o) pb v fst Q := h.only (D := fun _ => False) ((Only.refl _ w).alloc o) (fun _ _ e => e)
theorem Grew.alloc {w w' pb v v'} {o : Obj} (h : Grew (w.alloc o) w' pb v v') : Grew w w' pb v v' := Grew.before (D := fun _ => False) ((Only.refl _ w).alloc o) (fun _ _ e => e) h
/-- No block of F is the pattern's or its row's. -/
def Away (F : Nat → Prop) (w : World) (pb : Nat) (v : Value) : Prop := ∀ g, F g → g < w.heap.size → g ≠ pb ∧ some g ≠ v.ownBlock
theorem Away.alloc {F w pb v Q fst} (h : Away F w pb v) (hm : Mach w pb v fst Q) (o : Obj) : Away F (w.alloc o) pb v := fun g hg hl => by
  by_cases hs : g < w.heap.size
  · exact h g hg hs
  · refine ⟨fun e => ?_, fun e => ?_⟩
    · have := heap_lt hm.1; omega
    · have := hm.own_lt g e.symm; omega
theorem Grew.away {F w w' pb v v'} (hg : Grew w w' pb v v') (hF : Away F w pb v) : Away (fun g => F g ∧ g < w.heap.size) w' pb v' := fun g hg1 hl => by
  refine ⟨(hF g hg1.1 hg1.2).1, fun e => ?_⟩
  rcases hg.2 with h | ⟨G, h, h2⟩
  · rw [h] at e; exact (hF g hg1.1 hg1.2).2 e
  · rw [h] at e; cases e; omega
theorem Grew.keep {F w w' pb v v'} (hg : Grew w w' pb v v') (hF : Away F w pb v) : ∀ g, F g → g < w.heap.size → w'.heap[g]? = w.heap[g]? := fun g h1 h2 => hg.1.block g h2 (by
  rintro (e | e)
  · exact (hF g h1 h2).1 e
  · exact (hF g h1 h2).2 e)
theorem Den.grew {d N w w' F cs R pb v v'} (h : Den d N w F cs R) (hg : Grew w w' pb v v') (hF : Away F w pb v) : Den d N w' (fun g => F g ∧ g < w.heap.size) cs R :=
  (h.mono (G := fun g => F g ∧ g < w.heap.size) (fun _ hl hg => ⟨hg, hl⟩)).frame hg.1.size (fun g h1 _ => hg.keep hF g h1.1 h1.2)
theorem Den.form {d N w F cs R} (h : Den d N w F cs R) : ∃ (kind : Int) (xs : Nat → Nat) (po : Option Addr) (n cap : Nat), cs = nodeCs kind xs po n cap := by
  cases d with
  | zero => exact h.elim
  | succ d =>
    obtain ⟨kind, xs, po, n, cap, Rs, Ns, h1, _⟩ := h
    exact ⟨kind, xs, po, n, cap, h1⟩
/-- The parts of a node. -/
def DenParts (d : Nat) (w : World) (F : Nat → Prop) (po : Option Addr) (Rs : List Pat) (Ns : List Nat) : Prop :=
  Rs.length = 0 ∨ ∃ g, po = some ⟨g, 0, none⟩ ∧ F g ∧ g < w.heap.size ∧ ∀ i A M, Rs[i]? = some A → Ns[i]? = some M → ∃ cs', CellsAt w g (i * 6) cs' ∧ Den d M w F cs' A
theorem DenParts.grew {d w w' F po Rs Ns pb v v'} (h : DenParts d w F po Rs Ns) (hg : Grew w w' pb v v') (hF : Away F w pb v) : DenParts d w' (fun g => F g ∧ g < w.heap.size) po Rs Ns := by
  rcases h with h | ⟨g, h6, h7, h8, h9⟩
  · exact Or.inl h
  · refine Or.inr ⟨g, h6, ⟨h7, h8⟩, Nat.lt_of_lt_of_le h8 hg.1.size, fun i A M hA hM => ?_⟩
    obtain ⟨cs', h10, h11⟩ := h9 i A M hA hM
    exact ⟨cs', h10.of (hg.keep hF g h7 h8), h11.grew hg hF⟩
theorem DenParts.alloc {d w F po Rs Ns} (h : DenParts d w F po Rs Ns) (o : Obj) : DenParts d (w.alloc o) F po Rs Ns := by
  rcases h with h | ⟨g, h6, h7, h8, h9⟩
  · exact Or.inl h
  · refine Or.inr ⟨g, h6, h7, by simp; omega, fun i A M hA hM => ?_⟩
    obtain ⟨cs', h10, h11⟩ := h9 i A M hA hM
    exact ⟨cs', h10.of (Below.heap_alloc _ _ _ h8), h11.frame (by simp) (fun g _ hl => Below.heap_alloc _ _ _ hl)⟩
/-- One part's cells. -/
theorem DenParts.at {d w F po Rs Ns i A M} (h : DenParts d w F po Rs Ns) (hA : Rs[i]? = some A) (hM : Ns[i]? = some M) : ∃ g, po = some ⟨g, 0, none⟩ ∧ F g ∧ g < w.heap.size ∧ ∃ (kind : Int) (xs : Nat → Nat) (qo : Option Addr) (n cap : Nat), CellsAt w g (i * 6) (nodeCs kind xs qo n cap) ∧ Den d M w F (nodeCs kind xs qo n cap) A := by
  rcases h with h | ⟨g, h6, h7, h8, h9⟩
  · have := (List.getElem?_eq_some_iff.1 hA).1; omega
  · obtain ⟨cs', h10, h11⟩ := h9 i A M hA hM
    obtain ⟨kind, xs, qo, n, cap, rfl⟩ := h11.form
    exact ⟨g, h6, h7, h8, kind, xs, qo, n, cap, h10, h11⟩
def StOK (m : Nat) (q : St) : Prop := q.kind ≤ 3 ∧ q.next < m ∧ q.other < m
theorem StOK.up {m m' q} (h : StOK m q) (hm : m ≤ m') : StOK m' q := ⟨h.1, Nat.lt_of_lt_of_le h.2.1 hm, Nat.lt_of_lt_of_le h.2.2 hm⟩
/-- The states Q', laid from number n on, are a machine from b to next. -/
def BuiltIn (n : Nat) (Q' : List St) (b next : Nat) (R : Pat) : Prop := ∀ Qx : List St, (∀ k q, Q'[k]? = some q → Qx[n + k]? = some q) → ∀ t, Built Qx t b next (R t)
def BuildPost (pb : Nat) (v : Value) (fst : Int) (Q : List St) (next N : Nat) (R : Pat) (w : World) (e : Ending) (w' : World) : Prop :=
  ∃ (v' : Value) (Q' : List St) (b : Nat), e = .returned (.int .i64 b) ∧ Mach w' pb v' fst (Q ++ Q') ∧ Grew w w' pb v v' ∧ Q'.length ≤ N ∧ b < Q.length + Q'.length ∧ (∀ q ∈ Q', StOK (Q.length + Q'.length) q) ∧ BuiltIn Q.length Q' b next R
def BuildOK (d : Nat) : Prop := ∀ (N : Nat) (kind : Int) (xs : Nat → Nat) (po : Option Addr) (n cap : Nat) (R : Pat) (w : World) (pb : Nat) (v : Value) (fst : Int) (Q : List St) (F : Nat → Prop) (next : Nat),
  Mach w pb v fst Q → Den d N w F (nodeCs kind xs po n cap) R → Away F w pb v → Q.length + N ≤ 1000000 → next < Q.length →
  Calls Tryz.prog 56 #[.pointer (some ⟨pb, 0, none⟩), .agg (nodeAg kind xs po n cap), .int .i64 next] w (BuildPost pb v fst Q next N R w)
theorem AddPost.build {pb v fst Q q w e w' next N R} (h : AddPost pb v fst Q q w e w') (hN : 1 ≤ N) (hq : StOK (Q.length + 1) q) (hb : ∀ Qx : List St, Qx[Q.length]? = some q → ∀ t, Built Qx t Q.length next (R t)) : BuildPost pb v fst Q next N R w e w' := by
  obtain ⟨rfl, v', h1, h2⟩ := h
  refine ⟨v', [q], Q.length, rfl, h1, h2, hN, by simp, fun x hx => by simp at hx; subst hx; exact hq, fun Qx hx t => hb Qx ?_ t⟩
  exact hx 0 q rfl
theorem BuildPost.alloc {pb v fst Q next N R w o e w'} (h : BuildPost pb v fst Q next N R (w.alloc o) e w') : BuildPost pb v fst Q next N R w e w' := by
  obtain ⟨v', Q', b, h1, h2, h3, h4⟩ := h
  exact ⟨v', Q', b, h1, h2, h3.alloc, h4⟩
theorem sum_take {l : List Nat} {k M : Nat} (h : l[k]? = some M) : (l.take (k + 1)).sum = (l.take k).sum + M := by
  rw [List.take_add_one, h]
  simp
theorem sum_take_le (l : List Nat) (k : Nat) : (l.take k).sum ≤ l.sum := by
  have := List.take_append_drop k l
  have h2 : (l.take k ++ l.drop k).sum = l.sum := by rw [this]
  rw [List.sum_append] at h2
  omega
end Go.Proofs.YtdbdbaepmdmnfaaGreatDoor
namespace Go.Proofs.YtdbdbaepmdmnfaaGreatDoor
open Go.RowKit
theorem take_snoc {l : List Pat} {k : Nat} {A : Pat} (h : l[k]? = some A) : l.take (k + 1) = l.take k ++ [A] := by
  rw [List.take_add_one, h]; rfl
theorem BuiltIn.row {n : Nat} {Q1 Q2 : List St} {b c next : Nat} {A R : Pat} (h1 : BuiltIn n Q1 c next R) (h2 : BuiltIn (n + Q1.length) Q2 b c A) : BuiltIn n (Q1 ++ Q2) b next (compR R A) := by
  intro Qx hx t
  refine Built.comp (h2 Qx (fun k q hk => ?_) t) (h1 Qx (fun k q hk => ?_) t)
  · have := hx (Q1.length + k) q (by rw [List.getElem?_append_right (by omega), Nat.add_sub_cancel_left]; exact hk)
    rwa [← Nat.add_assoc] at this
  · exact hx k q (by rw [List.getElem?_append_left (List.getElem?_eq_some_iff.1 hk).1]; exact hk)
theorem cellsNode {w g o kind xs qo n cap} (h : CellsAt w g o (nodeCs kind xs qo n cap)) : w.cell? ⟨g, o, none⟩ = some (.int .i64 kind) ∧ w.cell? ⟨g, o + 1, none⟩ = some (.int .u64 (xs 0)) ∧ w.cell? ⟨g, o + 2, none⟩ = some (.int .u64 (xs 1)) ∧ w.cell? ⟨g, o + 3, none⟩ = some (.int .u64 (xs 2)) ∧ w.cell? ⟨g, o + 4, none⟩ = some (.int .u64 (xs 3)) ∧ w.cell? ⟨g, o + 5, none⟩ = some (.slice qo n cap) :=
  ⟨h 0 _ rfl, h 1 _ rfl, h 2 _ rfl, h 3 _ rfl, h 4 _ rfl, h 5 _ rfl⟩
set_option maxHeartbeats 4000000 in
theorem buildRow_any (d : Nat) (hd : BuildOK d) (N : Nat) (Rs : List Pat) (Ns : List Nat) (hNs : Ns.length = Rs.length) (hsum : Ns.sum ≤ N) (po : Option Addr) (cap : Nat) (w : World) (pb : Nat) (v : Value) (fst : Int) (Q : List St) (F : Nat → Prop) (next : Nat)
    (hm : Mach w pb v fst Q) (hp : DenParts d w F po Rs Ns) (haw : Away F w pb v) (hQ : Q.length + N ≤ 1000000) (hx : next < Q.length) (hl : Rs.length ≤ maxLen) :
    Calls Tryz.prog 85 #[.pointer (some ⟨pb, 0, none⟩), .slice po Rs.length cap, .int .i64 next] w (BuildPost pb v fst Q next N (rowR Rs) w) := by
  have hl' : Rs.length ≤ 9223372036854775807 := hl
  have HD := hide hd
  have HM := hide hm
  have HP := hide hp
  have HA := hide haw
  clear hd hm hp haw
  go_enter Tryz.func85, Tryz.ntmps85
  go_wp2_with fail
  go_loopg [2, 11] Rs.length (fun g s2 s11 wr => ∃ (k c : Nat) (v1 : Value) (Q1 : List St), k ≤ Rs.length ∧ g = Rs.length - k ∧ s11 = .int .i64 (k : Int) ∧ s2 = .int .i64 c ∧ Mach wr pb v1 fst (Q ++ Q1) ∧ Grew w wr pb v v1 ∧ Q1.length ≤ (Ns.take k).sum ∧ c < Q.length + Q1.length ∧ (∀ q ∈ Q1, StOK (Q.length + Q1.length) q) ∧ BuiltIn Q.length Q1 c next (rowR (Rs.take k)))
  case atStart => exact ⟨0, next, v, [], Nat.zero_le _, rfl, rfl, rfl, by simpa using HM.out, Grew.refl _ _ _, Nat.zero_le _, by simpa using hx, fun q h => by simp at h, fun Qx _ t => built_nil _ _ _⟩
  case round =>
    obtain ⟨k, c, v1, Q1, hk, hg, rfl, rfl, hm1, hg1, hq1, hc, hok, hbt⟩ := hrel
    have HM1 := hide hm1
    have HG1 := hide hg1
    have HOK := hide hok
    have HBt := hide hbt
    have Hg := hide hg
    clear hm1 hg1 hok hbt hg
    by_cases h0 : k = Rs.length
    · subst h0
      go_wp2
      go_ret
      have hs2 := sum_take_le Ns Rs.length
      exact ⟨v1, Q1, c, rfl, HM1.out, HG1.out, by omega, hc, HOK.out, by have := HBt.out; rwa [List.take_length] at this⟩
    · obtain ⟨A, hA⟩ : ∃ A, Rs[k]? = some A := ⟨Rs[k], List.getElem?_eq_getElem (by omega)⟩
      obtain ⟨M, hM⟩ : ∃ M, Ns[k]? = some M := ⟨Ns[k]'(by omega), List.getElem?_eq_getElem (by omega)⟩
      obtain ⟨g, rfl, hFg, hgl, kind, xs, qo, n, cp, hcs, hden⟩ := (HP.out.grew HG1.out HA.out).at hA hM
      obtain ⟨c0, c1, c2, c3, c4, c5⟩ := cellsNode hcs
      have hs1 := sum_take hM
      have hs2 := sum_take_le Ns (k + 1)
      have hkl : (k : Int) < (Rs.length : Int) := by omega
      have HDn : ∀ o, Hid (Den d M (wr.alloc o) (fun g => F g ∧ g < w.heap.size) (nodeCs kind xs qo n cp) A) := fun o => hden.frame (by simp) (fun g _ hl => Below.heap_alloc _ _ _ hl)
      have HAw : ∀ o, Hid (Away (fun g => F g ∧ g < w.heap.size) (wr.alloc o) pb v1) := fun o => (HG1.out.away HA.out).alloc HM1.out o
      have HA1 := hide hA
      clear hcs hden hA hM
      go_wp2_with fail
      refine (HD.out M kind xs qo n cp A _ pb v1 fst (Q ++ Q1) _ c (HM1.out.alloc _) (HDn _).out (HAw _).out (by simp; omega) (by simp; omega)).mono ?_
      rintro e w2 ⟨v2, Q2, b, rfl, hm2, hg2, hq2, hb2, hok2, hbt2⟩
      rw [List.append_assoc] at hm2
      rw [List.length_append] at hb2 hok2 hbt2
      have HR : Hid (BuiltIn Q.length (Q1 ++ Q2) b next (rowR (Rs.take (k + 1)))) := by
        show BuiltIn _ _ _ _ _
        rw [take_snoc HA1.out, rowR_append]
        exact HBt.out.row hbt2
      have HM2 := hide hm2
      have HG2 := hide (HG1.out.trans hg2.alloc)
      have HOK2 : Hid (∀ q ∈ Q1 ++ Q2, StOK (Q.length + (Q1 ++ Q2).length) q) := by
        intro q hq
        rw [List.length_append, ← Nat.add_assoc]
        rcases List.mem_append.1 hq with h | h
        · exact (HOK.out q h).up (by omega)
        · exact hok2 q h
      clear hm2 hg2 hok2 hbt2
      go_wp2
      go_roundg (Rs.length - (k + 1))
      case measure => have := Hg.out; omega
      case rel => exact ⟨k + 1, b, v2, Q1 ++ Q2, by omega, rfl, by go_num, rfl, HM2.out, HG2.out, by rw [List.length_append]; omega, by rw [List.length_append]; omega, HOK2.out, HR.out⟩
end Go.Proofs.YtdbdbaepmdmnfaaGreatDoor
namespace Go.Proofs.YtdbdbaepmdmnfaaGreatDoor
open Go.RowKit
theorem BuiltIn.one {n : Nat} {Q2 : List St} {b next : Nat} {A : Pat} (h : BuiltIn n Q2 b next A) : BuiltIn n Q2 b next (altR [A]) := fun Qx hx t => (h Qx hx t).congr (fun i j => ⟨fun h => Or.inl h, fun h => by rcases h with h | h; exact h; exact h.elim⟩)
/-- A fork behind what was built: this part, or one of those ahead of it. -/
theorem BuiltIn.fork {n : Nat} {Q1 Q2 : List St} {a b next : Nat} {A R : Pat} {S : UInt8 → Bool} (h1 : BuiltIn n Q1 b next R) (h2 : BuiltIn (n + Q1.length) Q2 a next A) : BuiltIn n (Q1 ++ Q2 ++ [⟨3, S, a, b⟩]) (n + Q1.length + Q2.length) next (orR R A) := by
  intro Qx hx t
  have hf : Qx[n + Q1.length + Q2.length]? = some ⟨3, S, a, b⟩ := by
    have := hx (Q1.length + Q2.length) ⟨3, S, a, b⟩ (by rw [List.getElem?_append_right (by simp)]; simp)
    rwa [← Nat.add_assoc] at this
  refine (built_or (R1 := A) (R2 := R) hf (h2 Qx (fun k q hk => ?_) t) (h1 Qx (fun k q hk => ?_) t)).congr (fun i j => or_comm)
  · have hk' := (List.getElem?_eq_some_iff.1 hk).1
    have := hx (Q1.length + k) q (by rw [List.append_assoc, List.getElem?_append_right (by omega), Nat.add_sub_cancel_left, List.getElem?_append_left hk']; exact hk)
    rwa [← Nat.add_assoc] at this
  · exact hx k q (by rw [List.append_assoc, List.getElem?_append_left (List.getElem?_eq_some_iff.1 hk).1]; exact hk)
set_option maxHeartbeats 4000000 in
theorem buildChoice_any (d : Nat) (hd : BuildOK d) (N : Nat) (Rs : List Pat) (Ns : List Nat) (hNs : Ns.length = Rs.length) (hsum : Rs.length - 1 + Ns.sum ≤ N) (hne : Rs.length ≠ 0) (po : Option Addr) (cap : Nat) (w : World) (pb : Nat) (v : Value) (fst : Int) (Q : List St) (F : Nat → Prop) (next : Nat)
    (hm : Mach w pb v fst Q) (hp : DenParts d w F po Rs Ns) (haw : Away F w pb v) (hQ : Q.length + N ≤ 1000000) (hx : next < Q.length) (hl : Rs.length ≤ maxLen) (hcap : Rs.length ≤ cap) :
    Calls Tryz.prog 86 #[.pointer (some ⟨pb, 0, none⟩), .slice po Rs.length cap, .int .i64 next] w (BuildPost pb v fst Q next N (altR Rs) w) := by
  have hl' : Rs.length ≤ 9223372036854775807 := hl
  obtain ⟨m, hm0⟩ : ∃ m, Rs.length = m + 1 := ⟨Rs.length - 1, by omega⟩
  obtain ⟨A, hA⟩ : ∃ A, Rs[0]? = some A := ⟨Rs[0], List.getElem?_eq_getElem (by omega)⟩
  obtain ⟨M, hM⟩ : ∃ M, Ns[0]? = some M := ⟨Ns[0]'(by omega), List.getElem?_eq_getElem (by omega)⟩
  obtain ⟨g, rfl, hFg, hgl, kind, xs, qo, n, cp, hcs, hden⟩ := hp.at hA hM
  obtain ⟨c0, c1, c2, c3, c4, c5⟩ := cellsNode hcs
  rw [Nat.zero_mul] at c0 c1 c2 c3 c4 c5
  simp only [Nat.zero_add] at c1 c2 c3 c4 c5
  have hs1 := sum_take hM
  rw [List.take_zero] at hs1
  have hs0 : ([] : List Nat).sum = 0 := rfl
  have hs2 := sum_take_le Ns 1
  have hs1' : (Ns.take 1).sum = M := by rw [← Nat.zero_add 1, hs1, hs0, Nat.zero_add]
  have HL := hide hm0
  have HD := hide hd
  have HM := hide hm
  have HP := hide hp
  have HA := hide haw
  have HDn := hide hden
  have HA1 := hide hA
  have hmm : (0 : Int) < (Rs.length : Int) := by omega
  have hmi : (1 : Int) ≤ (Rs.length : Int) := by omega
  clear hd hm hp haw hcs hden hA hM hs1
  go_enter Tryz.func86, Tryz.ntmps86
  go_wp2_with fail
  refine (HD.out M kind xs qo n cp A w pb v fst Q _ next HM.out HDn.out HA.out (by omega) hx).mono ?_
  rintro e w2 ⟨v2, Q2, b, rfl, hm2, hg2, hq2, hb2, hok2, hbt2⟩
  have HR : Hid (BuiltIn Q.length Q2 b next (altR (Rs.take 1))) := by
    show BuiltIn _ _ _ _ _
    rw [take_snoc (k := 0) HA1.out, List.take_zero, List.nil_append]
    exact hbt2.one
  have HM2 := hide hm2
  have HG2 := hide hg2
  have HOK2 := hide hok2
  clear hm2 hg2 hok2 hbt2 c0 c1 c2 c3 c4 c5
  go_wp2_with fail
  all_goals
    go_loopg [7, 19] m (fun gg s7 s19 wr => ∃ (k c : Nat) (v1 : Value) (Q1 : List St), k ≤ m ∧ gg = m - k ∧ s19 = .int .i64 (k : Int) ∧ s7 = .int .i64 c ∧ Mach wr pb v1 fst (Q ++ Q1) ∧ Grew w wr pb v v1 ∧ Q1.length ≤ k + (Ns.take (k + 1)).sum ∧ c < Q.length + Q1.length ∧ (∀ q ∈ Q1, StOK (Q.length + Q1.length) q) ∧ BuiltIn Q.length Q1 c next (altR (Rs.take (k + 1))))
    case atStart => exact ⟨0, b, v2, Q2, Nat.zero_le _, rfl, rfl, rfl, HM2.out, HG2.out, by show Q2.length ≤ 0 + (Ns.take 1).sum; omega, hb2, HOK2.out, HR.out⟩
    case round =>
      clear HM2 HG2 HOK2 HR HDn
      obtain ⟨k, c, v1, Q1, hk, hg, rfl, rfl, hm1, hg1, hq1, hc, hok, hbt⟩ := hrel
      have HM1 := hide hm1
      have HG1 := hide hg1
      have HOK := hide hok
      have HBt := hide hbt
      have Hg := hide hg
      clear hm1 hg1 hok hbt hg
      by_cases h0 : k = m
      · have hs6 := sum_take_le Ns (k + 1)
        subst h0
        have hcond : ¬ ((k : Int) < (k : Int)) := by omega
        go_wp2
        go_ret
        exact ⟨v1, Q1, c, rfl, HM1.out, HG1.out, by omega, hc, HOK.out, by have := HBt.out; rwa [← HL.out, List.take_length] at this⟩
      · try (exfalso; omega)
        all_goals
          obtain ⟨A2, hA2⟩ : ∃ A, Rs[k + 1]? = some A := ⟨Rs[k + 1], List.getElem?_eq_getElem (by omega)⟩
          obtain ⟨M2, hM2⟩ : ∃ M, Ns[k + 1]? = some M := ⟨Ns[k + 1]'(by omega), List.getElem?_eq_getElem (by omega)⟩
          obtain ⟨g2, hge, hFg2, hgl2, kind2, xs2, qo2, n2, cp2, hcs2, hden2⟩ := (HP.out.grew HG1.out HA.out).at hA2 hM2
          cases hge
          obtain ⟨c0, c1, c2, c3, c4, c5⟩ := cellsNode hcs2
          rw [show (k + 1) * 6 = 6 + k * 6 by omega] at c0 c1 c2 c3 c4 c5
          have hs4 := sum_take hM2
          have hs5 := sum_take_le Ns (k + 1 + 1)
          have HDn : ∀ o, Hid (Den d M2 (wr.alloc o) (fun g => F g ∧ g < w.heap.size) (nodeCs kind2 xs2 qo2 n2 cp2) A2) := fun o => hden2.frame (by simp) (fun g _ hl => Below.heap_alloc _ _ _ hl)
          have HAw : ∀ o, Hid (Away (fun g => F g ∧ g < w.heap.size) (wr.alloc o) pb v1) := fun o => (HG1.out.away HA.out).alloc HM1.out o
          have HA3 := hide hA2
          clear hcs2 hden2 hA2 hM2
          have hkk : (k : Int) < (m : Int) := by omega
          go_wp2_with fail
          refine (HD.out M2 kind2 xs2 qo2 n2 cp2 A2 _ pb v1 fst (Q ++ Q1) _ next (HM1.out.alloc _) (HDn _).out (HAw _).out (by simp; omega) (by simp; omega)).mono ?_
          rintro e w3 ⟨v3, Q3, a, rfl, hm3, hg3, hq3, ha3, hok3, hbt3⟩
          rw [List.append_assoc] at hm3
          rw [List.length_append] at ha3 hok3 hbt3
          have HM3 := hide hm3
          have HG3 := hide (HG1.out.trans hg3.alloc)
          have HOK3 := hide hok3
          have HBt3 := hide hbt3
          clear hm3 hg3 hok3 hbt3
          go_wp2_with fail
          refine (padd_any pb v3 fst (Q ++ (Q1 ++ Q3)) ⟨3, fun _ => false, a, c⟩ (fun _ => 0) SetIs.none (by simp; omega) w3 HM3.out).mono ?_
          rintro e w4 ⟨rfl, v4, hm4, hg4⟩
          rw [List.append_assoc] at hm4
          have HM4 := hide hm4
          have HG4 := hide (HG3.out.trans hg4)
          have HOK4 : Hid (∀ q ∈ Q1 ++ Q3 ++ [⟨3, fun _ => false, a, c⟩], StOK (Q.length + (Q1 ++ Q3 ++ [(⟨3, fun _ => false, a, c⟩ : St)]).length) q) := by
            intro q hq
            simp only [List.length_append, List.length_singleton]
            rcases List.mem_append.1 hq with h | h
            · rcases List.mem_append.1 h with h | h
              · exact (HOK.out q h).up (by omega)
              · exact (HOK3.out q h).up (by omega)
            · simp at h; subst h
              exact ⟨Nat.le_refl 3, by show a < _; omega, by show c < _; omega⟩
          have HR4 : Hid (BuiltIn Q.length (Q1 ++ Q3 ++ [⟨3, fun _ => false, a, c⟩]) (Q.length + Q1.length + Q3.length) next (altR (Rs.take (k + 1 + 1)))) := by
            show BuiltIn _ _ _ _ _
            rw [take_snoc HA3.out, altR_append]
            exact HBt.out.fork HBt3.out
          clear hm4 hg4
          go_wp2
          go_roundg (m - (k + 1))
          case measure => have := Hg.out; omega
          case rel => exact ⟨k + 1, Q.length + Q1.length + Q3.length, v4, Q1 ++ Q3 ++ [⟨3, fun _ => false, a, c⟩], by omega, rfl, by go_num, by simp; omega, HM4.out, HG4.out, by simp only [List.length_append, List.length_singleton]; omega, by simp only [List.length_append, List.length_singleton]; omega, HOK4.out, HR4.out⟩
end Go.Proofs.YtdbdbaepmdmnfaaGreatDoor
namespace Go.Proofs.YtdbdbaepmdmnfaaGreatDoor
open Go.RowKit
theorem Mach.form {w pb v fst Q} (h : Mach w pb v fst Q) (hQ : Q.length ≠ 0) : ∃ G cap, v = .slice (some ⟨G, 0, none⟩) Q.length cap := by
  obtain ⟨h1, xs, h2, _⟩ := h
  rcases h2.2 with ⟨_, h0⟩ | ⟨g, cap, cur, hv, _⟩
  · exact absurd h0 hQ
  · exact ⟨g, cap, hv⟩
theorem Mach.cells {w pb G n cap fst Q k q} (h : Mach w pb (.slice (some ⟨G, 0, none⟩) n cap) fst Q) (hk : Q[k]? = some q) : ∃ ys, SetIs ys q.set ∧ ∀ j u, (stCs q ys)[j]? = some u → w.cell? ⟨G, k * 7 + j, none⟩ = some u := by
  obtain ⟨h1, xs, h2, h3⟩ := h
  obtain ⟨ys, h4, h5⟩ := h3 k q hk
  refine ⟨ys, h4, fun j u hj => ?_⟩
  rcases h2.2 with ⟨e, _⟩ | ⟨g, cap', cur, hv, _, h7, _, _, _, h8⟩
  · cases e
  · cases hv
    have h9 := h5 j u hj
    rw [← h8, List.getElem?_take] at h9
    split at h9
    · refine cell_of h7 ?_
      rw [← Array.getElem?_toList]; exact h9
    · cases h9
theorem Mach.free {w pb G n cap fst Q} (h : Mach w pb (.slice (some ⟨G, 0, none⟩) n cap) fst Q) (o : Nat) : w.frozen? ⟨G, o, none⟩ = false := by
  obtain ⟨h1, xs, h2, h3⟩ := h
  rcases h2.2 with ⟨e, _⟩ | ⟨g, cap', cur, hv, _, h7, _⟩
  · cases e
  · cases hv
    exact free_of h7 o
theorem Mach.setNext {w pb G n cap fst Q k q} (h : Mach w pb (.slice (some ⟨G, 0, none⟩) n cap) fst Q) (hk : Q[k]? = some q) (b : Nat) : Mach (w.setCell ⟨G, k * 7 + 5, none⟩ (.int .i64 b)) pb (.slice (some ⟨G, 0, none⟩) n cap) fst (Q.set k ⟨q.kind, q.set, b, q.other⟩) := by
  have hne := h.own_ne
  obtain ⟨h1, xs, h2, h3⟩ := h
  have hkl := (List.getElem?_eq_some_iff.1 hk).1
  have hx := h2.1
  refine ⟨(Below.heap_setCell _ _ _ _ (fun e => hne (by rw [e]; rfl))).trans h1, xs.set (k * 7 + 5) (.int .i64 b), ?_, fun k' r hr => ?_⟩
  · rw [List.length_set]
    refine ⟨by rw [List.length_set]; exact hx, ?_⟩
    rcases h2.2 with ⟨e, _⟩ | ⟨g, cap', cur, hv, h6, h7, h8, h9, h10, h11⟩
    · cases e
    · cases hv
      refine Or.inr ⟨G, cap, cur.setIfInBounds (k * 7 + 5) (.int .i64 b), rfl, h6, heap_setCell_same h7 _, h8, h9, by simpa using h10, ?_⟩
      rw [Array.toList_setIfInBounds, List.take_set, h11]
  · by_cases e : k' = k
    · subst e
      rw [List.getElem?_set_self hkl] at hr
      cases hr
      obtain ⟨ys, h4, h5⟩ := h3 k' q hk
      refine ⟨ys, h4, fun j u hj => ?_⟩
      by_cases hj5 : j = 5
      · subst hj5
        rw [List.getElem?_set_self (by omega)]
        exact hj
      · rw [List.getElem?_set_ne (by omega)]
        refine h5 j u ?_
        match j, hj with
        | 0, hj => exact hj
        | 1, hj => exact hj
        | 2, hj => exact hj
        | 3, hj => exact hj
        | 4, hj => exact hj
        | 5, _ => exact absurd rfl hj5
        | 6, hj => exact hj
        | (j + 7), hj => simp [stCs] at hj
    · rw [List.getElem?_set_ne (fun h => e h.symm)] at hr
      obtain ⟨ys, h4, h5⟩ := h3 k' r hr
      refine ⟨ys, h4, fun j u hj => ?_⟩
      have hj7 : j < 7 := by
        have := (List.getElem?_eq_some_iff.1 hj).1
        simpa [stCs] using this
      rw [List.getElem?_set_ne (by omega)]
      exact h5 j u hj
theorem BuiltIn.loop {n : Nat} {Q2 : List St} {b next : Nat} {A : Pat} {S : UInt8 → Bool} (h : BuiltIn (n + 1) Q2 b n A) : BuiltIn n (⟨3, S, b, next⟩ :: Q2) n next (starR A) ∧ BuiltIn n (⟨3, S, b, next⟩ :: Q2) b next (plusR A) := by
  have key : ∀ Qx : List St, (∀ k q, (⟨3, S, b, next⟩ :: Q2 : List St)[k]? = some q → Qx[n + k]? = some q) → ∀ t, Qx[n]? = some ⟨3, S, b, next⟩ ∧ Built Qx t b n (A t) := fun Qx hx t =>
    ⟨hx 0 _ rfl, h Qx (fun k q hk => by rw [Nat.add_right_comm]; exact hx (k + 1) q hk) t⟩
  exact ⟨fun Qx hx t => built_loop (key Qx hx t).1 (key Qx hx t).2, fun Qx hx t => built_plus (key Qx hx t).1 (key Qx hx t).2⟩
end Go.Proofs.YtdbdbaepmdmnfaaGreatDoor
