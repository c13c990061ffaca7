import Derived.Test.YtdbdbaepmdmnfaaGreatDoorZ10
import Derived.Deep.RegionWith
namespace Go.Proofs.YtdbdbaepmdmnfaaGreatDoor
open Go.RowKit
theorem RdAt.drew {w b o s i} (h : RdAt w b o s i) : RdAt w.drew b o s i := h
/-- What is answered for a whole pattern. -/
def TreePost (s : ByteArray) (w : World) (e : Ending) (w' : World) : Prop :=
  Only (fun _ => False) w w' ∧ ∃ (kind : Int) (xs : Nat → Nat) (po : Option Addr) (n cap : Nat), e = .returned (.tuple #[.agg (nodeAg kind xs po n cap), .bool (wholeP s.data.toList).isSome]) ∧
    ∀ R, wholeP s.data.toList = some R → ∃ d, Den d s.size w' (fun g => w.heap.size ≤ g) (nodeCs kind xs po n cap) R
set_option maxHeartbeats 4000000 in
theorem readTree_any (s : ByteArray) (h6 : s.size ≤ 65536) (w : World) : Calls Tryz.prog 55 #[.string s] w (TreePost s w) := by
  have hs : s.size ≤ maxLen := by unfold maxLen; omega
  have hlen : s.data.toList.length = s.size := len_eq s
  by_cases h0 : s.size = 0
  · obtain rfl : s = ⟨#[]⟩ := by
      cases s with
      | mk a => have : a = #[] := Array.eq_empty_of_size_eq_zero h0
                rw [this]
    have hz := new0 w (.cells (nodeAg 0 (fun _ => 0) none 0 0) 118)
    go_enter Tryz.func55, Tryz.ntmps55
    go_wp2
    refine bodyPost_ret (v := .tuple #[.agg (nodeAg 3 (fun _ => 0) none 0 0), .bool true]) (by simp [results, Tryz.results55, go_sem, nodeAg]) rfl ⟨(Only.refl _ w).alloc _, 3, fun _ => 0, none, 0, 0, ?_, ?_⟩
    · rfl
    · intro R h
      have : R = emptyR := by
        have h1 : wholeP (⟨#[]⟩ : ByteArray).data.toList = some emptyR := rfl
        rw [h1] at h
        cases h; rfl
      subst this
      exact ⟨1, den_empty.more (Nat.zero_le _)⟩
  · have hne : s.toList.isEmpty = false := by
      rw [ByteArray.toList_eq]
      cases hl : s.data.toList with
      | nil => rw [hl] at hlen; simp at hlen; omega
      | cons a t => rfl
    have hn : ∀ o, w.heap.size < w.heap.size → (fun _ => False) (Addr.block ⟨w.heap.size, o, none⟩) := fun _ h => absurd h (Nat.lt_irrefl _)
    have hw : wholeP s.data.toList = (match choiceP s.data.toList (s.size + 1) 0 with | none => none | some (R, j) => if j = s.size then some R else none) := by
      unfold wholeP
      rw [if_neg (by omega), hlen]
      cases choiceP s.data.toList (s.size + 1) 0 with
      | none => rfl
      | some p => rfl
    have HW := hide hw
    have HR0 : ∀ o1, Hid (RdB ((w.alloc o1).alloc (.cells #[.string s, .int .i64 0] 170)) (w.heap.size + 1) s 0) := fun o1 => by
      show RdB _ _ _ _
      exact newb1 w _ _
    clear hw
    go_enter Tryz.func55, Tryz.ntmps55
    go_wp2_with fail
    refine (choice_all (s.size + 1) _ s 0 _ (HR0 _).out (Nat.zero_le _) hs h6 (by omega)).mono ?_
    rintro e w1 ⟨ho1, kind, xs, po, n, cap, rfl, hden⟩
    have hq : w1.heap[w.heap.size]? = some (.cells (nodeAg 0 (fun _ => 0) none 0 0) 118 (0, 0)) := (ho1.block w.heap.size (by simp; omega) (by omega)).trans ((Below.heap_alloc _ _ _ (by simp)).trans (new0 w _))
    have HO1 : Hid (Only (fun _ => False) w w1) := (((Only.refl (fun _ => False) w).alloc _).alloc _).trans ho1 (fun k hk e => by omega)
    have HD := hide hden
    have hsq1 := heap_lt hq
    have hsz1 : w.heap.size + 2 ≤ w1.heap.size := by have := ho1.size; simpa using this
    clear ho1 hden HR0
    have z0 : w1.cell? ⟨w.heap.size, 0, none⟩ = some (.int .i64 0) := cell_of hq rfl
    have z1 : w1.cell? ⟨w.heap.size, 1, none⟩ = some (.int .u64 0) := cell_of hq rfl
    have z2 : w1.cell? ⟨w.heap.size, 2, none⟩ = some (.int .u64 0) := cell_of hq rfl
    have z3 : w1.cell? ⟨w.heap.size, 3, none⟩ = some (.int .u64 0) := cell_of hq rfl
    have z4 : w1.cell? ⟨w.heap.size, 4, none⟩ = some (.int .u64 0) := cell_of hq rfl
    have z5 : w1.cell? ⟨w.heap.size, 5, none⟩ = some (.slice none 0 0) := cell_of hq rfl
    have y0 := free_of hq 0
    have y1 := free_of hq 1
    have y2 := free_of hq 2
    have y3 := free_of hq 3
    have y4 := free_of hq 4
    have y5 := free_of hq 5
    clear hq
    unfold nodeAg
    cases hc : choiceP s.data.toList (s.size + 1) 0 with
    | none =>
      have HU : Hid (wholeP s.data.toList = none) := by
        show wholeP _ = _
        rw [HW.out, hc]
      clear hc HW HD
      simp only [Option.isSome_none]
      go_wp2
      go_region
      go_wp2
      refine bodyPost_ret (v := .tuple #[.agg (nodeAg kind xs po n cap), .bool false]) (by simp [results, Tryz.results55, go_sem, nodeAg, z0, z1, z2, z3, z4, z5, hsq1]) rfl ⟨(Only.alloc ((((((HO1.out.setCell (p := ⟨w.heap.size, 0, none⟩) (hn 0) _).setCell (p := ⟨w.heap.size, 1, none⟩) (hn 1) _).setCell (p := ⟨w.heap.size, 2, none⟩) (hn 2) _).setCell (p := ⟨w.heap.size, 3, none⟩) (hn 3) _).setCell (p := ⟨w.heap.size, 4, none⟩) (hn 4) _).setCell (p := ⟨w.heap.size, 5, none⟩) (hn 5) _) _).drewN 1, kind, xs, po, n, cap, ?_, ?_⟩
      · rw [HU.out]; rfl
      · intro R h
        rw [HU.out] at h
        cases h
    | some p =>
      obtain ⟨R1, j1⟩ := p
      have hpg := choice_prog _ _ _ _ _ hc
      rw [hlen] at hpg
      obtain ⟨hr1, d1, hd1⟩ := HD.out R1 j1 hc
      have HR1 := hide hr1
      have HD1 : Hid (Den d1 s.size w1 (fun g => w.heap.size < g) (nodeCs kind xs po n cap) R1) := (hd1.more (show j1 - 0 ≤ s.size by omega)).mono (fun g _ hg => by simp at hg; omega)
      simp only [Option.isSome_some]
      by_cases hj : j1 = s.size
      · have HU : Hid (wholeP s.data.toList = some R1) := by
          show wholeP _ = _
          rw [HW.out, hc]
          simp only
          rw [if_pos hj]
        clear hc HW HD hr1 hd1
        go_wp2
        go_region_with (go_at_call 84; refine (ended_yes _ 0 s j1 hj _ (HR1.out.alloc' _).at.drew).mono ?_; rintro e w' ⟨rfl, n3, rfl⟩)
        all_goals
          go_wp2
          refine bodyPost_ret (v := .tuple #[.agg (nodeAg kind xs po n cap), .bool true]) (by simp [results, Tryz.results55, go_sem, nodeAg, z0, z1, z2, z3, z4, z5, hsq1]) rfl ⟨((((((((HO1.out.alloc _).drewN _).setCell (p := ⟨w.heap.size, 0, none⟩) (hn 0) _).setCell (p := ⟨w.heap.size, 1, none⟩) (hn 1) _).setCell (p := ⟨w.heap.size, 2, none⟩) (hn 2) _).setCell (p := ⟨w.heap.size, 3, none⟩) (hn 3) _).setCell (p := ⟨w.heap.size, 4, none⟩) (hn 4) _).setCell (p := ⟨w.heap.size, 5, none⟩) (hn 5) _), kind, xs, po, n, cap, ?_, ?_⟩
          · rw [HU.out]; rfl
          · intro R h
            rw [HU.out] at h
            cases h
            refine ⟨d1, Den.mono (Den.frame HD1.out (by simp [World.setCell]) ?_) (fun g _ hg => Nat.le_of_lt hg)⟩
            intro g hg hl
            rw [Below.heap_setCell _ _ _ _ (show g ≠ w.heap.size by omega), Below.heap_setCell _ _ _ _ (show g ≠ w.heap.size by omega), Below.heap_setCell _ _ _ _ (show g ≠ w.heap.size by omega), Below.heap_setCell _ _ _ _ (show g ≠ w.heap.size by omega), Below.heap_setCell _ _ _ _ (show g ≠ w.heap.size by omega), Below.heap_setCell _ _ _ _ (show g ≠ w.heap.size by omega), drewN_heap]
            exact Below.heap_alloc _ _ _ hl
      · have HU : Hid (wholeP s.data.toList = none) := by
          show wholeP _ = _
          rw [HW.out, hc]
          simp only
          rw [if_neg hj]
        have hj2 : j1 < s.size := by omega
        clear hc HW HD hr1 hd1
        go_wp2
        go_region_with (go_at_call 84; refine (ended_no _ 0 s j1 hj2 _ (HR1.out.alloc' _).at.drew).mono ?_; rintro e w' ⟨rfl, n3, rfl⟩)
        all_goals
          go_wp2
          refine bodyPost_ret (v := .tuple #[.agg (nodeAg kind xs po n cap), .bool false]) (by simp [results, Tryz.results55, go_sem, nodeAg, z0, z1, z2, z3, z4, z5, hsq1]) rfl ⟨((((((((HO1.out.alloc _).drewN _).setCell (p := ⟨w.heap.size, 0, none⟩) (hn 0) _).setCell (p := ⟨w.heap.size, 1, none⟩) (hn 1) _).setCell (p := ⟨w.heap.size, 2, none⟩) (hn 2) _).setCell (p := ⟨w.heap.size, 3, none⟩) (hn 3) _).setCell (p := ⟨w.heap.size, 4, none⟩) (hn 4) _).setCell (p := ⟨w.heap.size, 5, none⟩) (hn 5) _), kind, xs, po, n, cap, ?_, ?_⟩
          · rw [HU.out]; rfl
          · intro R h
            rw [HU.out] at h
            cases h
end Go.Proofs.YtdbdbaepmdmnfaaGreatDoor

