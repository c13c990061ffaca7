import Derived.Test.YtdbdbaepmdmnfaaGreatDoorQ04
namespace Go.Proofs.YtdbdbaepmdmnfaaGreatDoor
open Go.RowKit
set_option maxHeartbeats 4000000 in
theorem unit_any (f : Nat) (hf : ChoiceOK f) (b : Nat) (s : ByteArray) (hs : s.size ≤ maxLen) (h6 : s.size ≤ 65536) (i : Nat) (hi : i < s.size) (hfl : s.size - i ≤ f) (w : World) (h : RdB w b s i) :
    Calls Tryz.prog 205 #[.pointer (some ⟨b, 0, none⟩)] w (NodePost b s i w (unitP (choiceP s.data.toList f) s.data.toList i)) := by
  have hbl := heap_lt h
  have hml : s.size ≤ 9223372036854775807 := hs
  have hbw : b ≠ w.heap.size := by omega
  have hn : ∀ o, w.heap.size < w.heap.size → (fun k => k = b) (Addr.block ⟨w.heap.size, o, none⟩) := fun _ h => absurd h (Nat.lt_irrefl _)
  have HR0 : ∀ o1, Hid (RdB (w.alloc o1) b s i) := fun o1 => by
    show RdB _ _ _ _
    unfold RdB
    rw [Below.heap_alloc _ _ _ hbl]; exact h
  have HG1 := hide (get_of_lt s i hi)
  have HF := hide hf
  clear h hf
  go_enter Tryz.func205, Tryz.ntmps205
  go_wp2_with fail
  refine (take_some b s hs i hi _ (HR0 _).out).mono ?_
  rintro e w1 ⟨rfl, hr1, ho1⟩
  have hq : w1.heap[w.heap.size]? = some (.cells (nodeAg 0 (fun _ => 0) none 0 0) 118 (0, 0)) := (ho1.block w.heap.size (by simp) (Ne.symm hbw)).trans (new0 w _)
  have HQ := hide hq
  have HR1 := hide hr1
  have HO1 : Hid (Only (fun k => k = b) w w1) := ((Only.refl _ w).alloc _).trans ho1 (fun k _ e => e)
  have z0 : w1.cell? ⟨w.heap.size, 0, none⟩ = some (.int .i64 0) := cell_of hq rfl
  have z1 : w1.cell? ⟨w.heap.size, 1, none⟩ = some (.int .u64 0) := cell_of hq rfl
  have z2 : w1.cell? ⟨w.heap.size, 2, none⟩ = some (.int .u64 0) := cell_of hq rfl
  have z3 : w1.cell? ⟨w.heap.size, 3, none⟩ = some (.int .u64 0) := cell_of hq rfl
  have z4 : w1.cell? ⟨w.heap.size, 4, none⟩ = some (.int .u64 0) := cell_of hq rfl
  have z5 : w1.cell? ⟨w.heap.size, 5, none⟩ = some (.slice none 0 0) := cell_of hq rfl
  have y0 := free_of hq 0
  have y1 := free_of hq 1
  have y2 := free_of hq 2
  have y3 := free_of hq 3
  have y4 := free_of hq 4
  have y5 := free_of hq 5
  clear hr1 ho1 hq
  by_cases k42 : (s[i].toNat : Int) = 42
  · have k2 : s[i].toNat = 42 := by omega
    have HU : Hid (unitP (choiceP s.data.toList f) s.data.toList i = none) := by
      show unitP _ _ _ = _
      unfold unitP
      rw [HG1.out]
      simp only
      rw [if_pos (by simp [isSign, k2])]
    go_wp2
    refine bodyPost_ret (v := .tuple #[.agg (nodeAg 0 (fun _ => 0) none 0 0), .bool false]) (by simp [results, Tryz.results205, go_sem, nodeAg, z0, z1, z2, z3, z4, z5]) rfl ⟨((((((HO1.out.setCell (p := ⟨w.heap.size, 0, none⟩) (hn 0) _).setCell (p := ⟨w.heap.size, 1, none⟩) (hn 1) _).setCell (p := ⟨w.heap.size, 2, none⟩) (hn 2) _).setCell (p := ⟨w.heap.size, 3, none⟩) (hn 3) _).setCell (p := ⟨w.heap.size, 4, none⟩) (hn 4) _).setCell (p := ⟨w.heap.size, 5, none⟩) (hn 5) _), 0, (fun _ => 0), none, 0, 0, ?_, ?_⟩
    · rw [HU.out]; rfl
    · intro R j h
      rw [HU.out] at h
      cases h
  by_cases k43 : (s[i].toNat : Int) = 43
  · have k2 : s[i].toNat = 43 := by omega
    have HU : Hid (unitP (choiceP s.data.toList f) s.data.toList i = none) := by
      show unitP _ _ _ = _
      unfold unitP
      rw [HG1.out]
      simp only
      rw [if_pos (by simp [isSign, k2])]
    go_wp2
    refine bodyPost_ret (v := .tuple #[.agg (nodeAg 0 (fun _ => 0) none 0 0), .bool false]) (by simp [results, Tryz.results205, go_sem, nodeAg, z0, z1, z2, z3, z4, z5]) rfl ⟨((((((HO1.out.setCell (p := ⟨w.heap.size, 0, none⟩) (hn 0) _).setCell (p := ⟨w.heap.size, 1, none⟩) (hn 1) _).setCell (p := ⟨w.heap.size, 2, none⟩) (hn 2) _).setCell (p := ⟨w.heap.size, 3, none⟩) (hn 3) _).setCell (p := ⟨w.heap.size, 4, none⟩) (hn 4) _).setCell (p := ⟨w.heap.size, 5, none⟩) (hn 5) _), 0, (fun _ => 0), none, 0, 0, ?_, ?_⟩
    · rw [HU.out]; rfl
    · intro R j h
      rw [HU.out] at h
      cases h
  by_cases k63 : (s[i].toNat : Int) = 63
  · have k2 : s[i].toNat = 63 := by omega
    have HU : Hid (unitP (choiceP s.data.toList f) s.data.toList i = none) := by
      show unitP _ _ _ = _
      unfold unitP
      rw [HG1.out]
      simp only
      rw [if_pos (by simp [isSign, k2])]
    go_wp2
    refine bodyPost_ret (v := .tuple #[.agg (nodeAg 0 (fun _ => 0) none 0 0), .bool false]) (by simp [results, Tryz.results205, go_sem, nodeAg, z0, z1, z2, z3, z4, z5]) rfl ⟨((((((HO1.out.setCell (p := ⟨w.heap.size, 0, none⟩) (hn 0) _).setCell (p := ⟨w.heap.size, 1, none⟩) (hn 1) _).setCell (p := ⟨w.heap.size, 2, none⟩) (hn 2) _).setCell (p := ⟨w.heap.size, 3, none⟩) (hn 3) _).setCell (p := ⟨w.heap.size, 4, none⟩) (hn 4) _).setCell (p := ⟨w.heap.size, 5, none⟩) (hn 5) _), 0, (fun _ => 0), none, 0, 0, ?_, ?_⟩
    · rw [HU.out]; rfl
    · intro R j h
      rw [HU.out] at h
      cases h
  by_cases k41 : (s[i].toNat : Int) = 41
  · have k2 : s[i].toNat = 41 := by omega
    have HU : Hid (unitP (choiceP s.data.toList f) s.data.toList i = none) := by
      show unitP _ _ _ = _
      unfold unitP
      rw [HG1.out]
      simp only
      rw [if_pos (by simp [isSign, k2])]
    go_wp2
    refine bodyPost_ret (v := .tuple #[.agg (nodeAg 0 (fun _ => 0) none 0 0), .bool false]) (by simp [results, Tryz.results205, go_sem, nodeAg, z0, z1, z2, z3, z4, z5]) rfl ⟨((((((HO1.out.setCell (p := ⟨w.heap.size, 0, none⟩) (hn 0) _).setCell (p := ⟨w.heap.size, 1, none⟩) (hn 1) _).setCell (p := ⟨w.heap.size, 2, none⟩) (hn 2) _).setCell (p := ⟨w.heap.size, 3, none⟩) (hn 3) _).setCell (p := ⟨w.heap.size, 4, none⟩) (hn 4) _).setCell (p := ⟨w.heap.size, 5, none⟩) (hn 5) _), 0, (fun _ => 0), none, 0, 0, ?_, ?_⟩
    · rw [HU.out]; rfl
    · intro R j h
      rw [HU.out] at h
      cases h
  by_cases k124 : (s[i].toNat : Int) = 124
  · have k2 : s[i].toNat = 124 := by omega
    have HU : Hid (unitP (choiceP s.data.toList f) s.data.toList i = none) := by
      show unitP _ _ _ = _
      unfold unitP
      rw [HG1.out]
      simp only
      rw [if_pos (by simp [isSign, k2])]
    go_wp2
    refine bodyPost_ret (v := .tuple #[.agg (nodeAg 0 (fun _ => 0) none 0 0), .bool false]) (by simp [results, Tryz.results205, go_sem, nodeAg, z0, z1, z2, z3, z4, z5]) rfl ⟨((((((HO1.out.setCell (p := ⟨w.heap.size, 0, none⟩) (hn 0) _).setCell (p := ⟨w.heap.size, 1, none⟩) (hn 1) _).setCell (p := ⟨w.heap.size, 2, none⟩) (hn 2) _).setCell (p := ⟨w.heap.size, 3, none⟩) (hn 3) _).setCell (p := ⟨w.heap.size, 4, none⟩) (hn 4) _).setCell (p := ⟨w.heap.size, 5, none⟩) (hn 5) _), 0, (fun _ => 0), none, 0, 0, ?_, ?_⟩
    · rw [HU.out]; rfl
    · intro R j h
      rw [HU.out] at h
      cases h
  by_cases k94 : (s[i].toNat : Int) = 94
  · have k2 : s[i].toNat = 94 := by omega
    have HU : Hid (unitP (choiceP s.data.toList f) s.data.toList i = some (beginR, i + 1)) := by
      show unitP _ _ _ = _
      unfold unitP
      rw [HG1.out]
      simp only
      rw [if_neg (by simp [isSign, k2]), if_pos k2]
    go_wp2
    refine bodyPost_ret (v := .tuple #[.agg (nodeAg 1 (fun _ => 0) none 0 0), .bool true]) (by simp [results, Tryz.results205, go_sem, nodeAg, z0, z1, z2, z3, z4, z5]) rfl ⟨((((((HO1.out.setCell (p := ⟨w.heap.size, 0, none⟩) (hn 0) _).setCell (p := ⟨w.heap.size, 1, none⟩) (hn 1) _).setCell (p := ⟨w.heap.size, 2, none⟩) (hn 2) _).setCell (p := ⟨w.heap.size, 3, none⟩) (hn 3) _).setCell (p := ⟨w.heap.size, 4, none⟩) (hn 4) _).setCell (p := ⟨w.heap.size, 5, none⟩) (hn 5) _), 1, (fun _ => 0), none, 0, 0, ?_, ?_⟩
    · rw [HU.out]; rfl
    · intro R j h
      rw [HU.out] at h
      cases h
      exact ⟨((((((HR1.out.setNe (p := ⟨w.heap.size, 0, none⟩) hbw _).setNe (p := ⟨w.heap.size, 1, none⟩) hbw _).setNe (p := ⟨w.heap.size, 2, none⟩) hbw _).setNe (p := ⟨w.heap.size, 3, none⟩) hbw _).setNe (p := ⟨w.heap.size, 4, none⟩) hbw _).setNe (p := ⟨w.heap.size, 5, none⟩) hbw _), 1, den_begin.more (by omega)⟩
  by_cases k36 : (s[i].toNat : Int) = 36
  · have k2 : s[i].toNat = 36 := by omega
    have HU : Hid (unitP (choiceP s.data.toList f) s.data.toList i = some (endR, i + 1)) := by
      show unitP _ _ _ = _
      unfold unitP
      rw [HG1.out]
      simp only
      rw [if_neg (by simp [isSign, k2]), if_neg (by omega), if_pos k2]
    go_wp2
    refine bodyPost_ret (v := .tuple #[.agg (nodeAg 2 (fun _ => 0) none 0 0), .bool true]) (by simp [results, Tryz.results205, go_sem, nodeAg, z0, z1, z2, z3, z4, z5]) rfl ⟨((((((HO1.out.setCell (p := ⟨w.heap.size, 0, none⟩) (hn 0) _).setCell (p := ⟨w.heap.size, 1, none⟩) (hn 1) _).setCell (p := ⟨w.heap.size, 2, none⟩) (hn 2) _).setCell (p := ⟨w.heap.size, 3, none⟩) (hn 3) _).setCell (p := ⟨w.heap.size, 4, none⟩) (hn 4) _).setCell (p := ⟨w.heap.size, 5, none⟩) (hn 5) _), 2, (fun _ => 0), none, 0, 0, ?_, ?_⟩
    · rw [HU.out]; rfl
    · intro R j h
      rw [HU.out] at h
      cases h
      exact ⟨((((((HR1.out.setNe (p := ⟨w.heap.size, 0, none⟩) hbw _).setNe (p := ⟨w.heap.size, 1, none⟩) hbw _).setNe (p := ⟨w.heap.size, 2, none⟩) hbw _).setNe (p := ⟨w.heap.size, 3, none⟩) hbw _).setNe (p := ⟨w.heap.size, 4, none⟩) hbw _).setNe (p := ⟨w.heap.size, 5, none⟩) hbw _), 1, den_end.more (by omega)⟩
  by_cases k40 : (s[i].toNat : Int) = 40
  · have k2 : s[i].toNat = 40 := by omega
    have HU : Hid (unitP (choiceP s.data.toList f) s.data.toList i = groupP (choiceP s.data.toList f) s.data.toList (i + 1)) := by
      show unitP _ _ _ = _
      unfold unitP
      rw [HG1.out]
      simp only
      rw [if_neg (by simp [isSign, k2]), if_neg (by omega), if_neg (by omega), if_pos k2]
      rfl
    go_wp2_with fail
    refine (group_any f HF.out b s hs h6 (i + 1) (by omega) (by omega) _ HR1.out).mono ?_
    rintro e w2 ⟨ho2, kind, xs, po, n, cap, rfl, hden⟩
    have hq2 : w2.heap[w.heap.size]? = some (.cells (nodeAg 0 (fun _ => 0) none 0 0) 118 (0, 0)) := (ho2.block w.heap.size (heap_lt HQ.out) (Ne.symm hbw)).trans HQ.out
    clear z0 z1 z2 z3 z4 z5 y0 y1 y2 y3 y4 y5
    have z0 : w2.cell? ⟨w.heap.size, 0, none⟩ = some (.int .i64 0) := cell_of hq2 rfl
    have z1 : w2.cell? ⟨w.heap.size, 1, none⟩ = some (.int .u64 0) := cell_of hq2 rfl
    have z2 : w2.cell? ⟨w.heap.size, 2, none⟩ = some (.int .u64 0) := cell_of hq2 rfl
    have z3 : w2.cell? ⟨w.heap.size, 3, none⟩ = some (.int .u64 0) := cell_of hq2 rfl
    have z4 : w2.cell? ⟨w.heap.size, 4, none⟩ = some (.int .u64 0) := cell_of hq2 rfl
    have z5 : w2.cell? ⟨w.heap.size, 5, none⟩ = some (.slice none 0 0) := cell_of hq2 rfl
    have y0 := free_of hq2 0
    have y1 := free_of hq2 1
    have y2 := free_of hq2 2
    have y3 := free_of hq2 3
    have y4 := free_of hq2 4
    have y5 := free_of hq2 5
    have HO2 : Hid (Only (fun k => k = b) w w2) := HO1.out.trans ho2 (fun k _ e => e)
    have HD := hide hden
    have hs1 := HO1.out.size
    have hsq := heap_lt HQ.out
    clear ho2 hden hq2
    unfold nodeAg
    generalize hgr : groupP (choiceP s.data.toList f) s.data.toList (i + 1) = G at *
    clear hgr
    go_wp2
    refine bodyPost_ret (v := .tuple #[.agg (nodeAg kind xs po n cap), .bool G.isSome]) (by simp [results, Tryz.results205, go_sem, nodeAg, z0, z1, z2, z3, z4, z5]) rfl ⟨((((((HO2.out.setCell (p := ⟨w.heap.size, 0, none⟩) (hn 0) _).setCell (p := ⟨w.heap.size, 1, none⟩) (hn 1) _).setCell (p := ⟨w.heap.size, 2, none⟩) (hn 2) _).setCell (p := ⟨w.heap.size, 3, none⟩) (hn 3) _).setCell (p := ⟨w.heap.size, 4, none⟩) (hn 4) _).setCell (p := ⟨w.heap.size, 5, none⟩) (hn 5) _), kind, xs, po, n, cap, ?_, ?_⟩
    · rw [HU.out]
    · intro R j h
      rw [HU.out] at h
      obtain ⟨hr, d, hd⟩ := HD.out R j h
      refine ⟨((((((hr.setNe (p := ⟨w.heap.size, 0, none⟩) hbw _).setNe (p := ⟨w.heap.size, 1, none⟩) hbw _).setNe (p := ⟨w.heap.size, 2, none⟩) hbw _).setNe (p := ⟨w.heap.size, 3, none⟩) hbw _).setNe (p := ⟨w.heap.size, 4, none⟩) hbw _).setNe (p := ⟨w.heap.size, 5, none⟩) hbw _), d, ?_⟩
      refine Den.mono (Den.frame (hd.more (show j - (i + 1) ≤ j - i by omega)) (by simp [World.setCell]) ?_) (fun g _ hg => by omega)
      intro g hg hl
      rw [Below.heap_setCell _ _ _ _ (show g ≠ w.heap.size by omega), Below.heap_setCell _ _ _ _ (show g ≠ w.heap.size by omega), Below.heap_setCell _ _ _ _ (show g ≠ w.heap.size by omega), Below.heap_setCell _ _ _ _ (show g ≠ w.heap.size by omega), Below.heap_setCell _ _ _ _ (show g ≠ w.heap.size by omega), Below.heap_setCell _ _ _ _ (show g ≠ w.heap.size by omega)]
  by_cases k46 : (s[i].toNat : Int) = 46
  · have k2 : s[i].toNat = 46 := by omega
    have HU : Hid (unitP (choiceP s.data.toList f) s.data.toList i = some (byteR (notS (fun _ => false)), i + 1)) := by
      show unitP _ _ _ = _
      unfold unitP
      rw [HG1.out]
      simp only
      rw [if_neg (by simp [isSign, k2]), if_neg (by omega), if_neg (by omega), if_neg (by omega), if_neg (by omega), if_pos k2]
    go_wp2_with fail
    refine (others_any (fun _ => 0) _ SetIs.none _).mono ?_
    rintro e w2 ⟨ys, rfl, hy, ho2⟩
    have hq2 : w2.heap[w.heap.size]? = some (.cells (nodeAg 0 (fun _ => 0) none 0 0) 118 (0, 0)) := (ho2.block w.heap.size (heap_lt HQ.out) (fun h => h)).trans HQ.out
    clear z0 z1 z2 z3 z4 z5 y0 y1 y2 y3 y4 y5
    have z0 : w2.cell? ⟨w.heap.size, 0, none⟩ = some (.int .i64 0) := cell_of hq2 rfl
    have z1 : w2.cell? ⟨w.heap.size, 1, none⟩ = some (.int .u64 0) := cell_of hq2 rfl
    have z2 : w2.cell? ⟨w.heap.size, 2, none⟩ = some (.int .u64 0) := cell_of hq2 rfl
    have z3 : w2.cell? ⟨w.heap.size, 3, none⟩ = some (.int .u64 0) := cell_of hq2 rfl
    have z4 : w2.cell? ⟨w.heap.size, 4, none⟩ = some (.int .u64 0) := cell_of hq2 rfl
    have z5 : w2.cell? ⟨w.heap.size, 5, none⟩ = some (.slice none 0 0) := cell_of hq2 rfl
    have y0 := free_of hq2 0
    have y1 := free_of hq2 1
    have y2 := free_of hq2 2
    have y3 := free_of hq2 3
    have y4 := free_of hq2 4
    have y5 := free_of hq2 5
    have HO2 : Hid (Only (fun k => k = b) w w2) := HO1.out.trans ho2 (fun k _ e => e.elim)
    have HY := hide hy
    have HR2 := hide (HR1.out.only ho2 (fun h => h))
    clear ho2 hy hq2
    unfold setCs
    go_wp2
    refine bodyPost_ret (v := .tuple #[.agg (nodeAg 0 ys none 0 0), .bool true]) (by simp [results, Tryz.results205, go_sem, nodeAg, z0, z1, z2, z3, z4, z5]) rfl ⟨((((((HO2.out.setCell (p := ⟨w.heap.size, 0, none⟩) (hn 0) _).setCell (p := ⟨w.heap.size, 1, none⟩) (hn 1) _).setCell (p := ⟨w.heap.size, 2, none⟩) (hn 2) _).setCell (p := ⟨w.heap.size, 3, none⟩) (hn 3) _).setCell (p := ⟨w.heap.size, 4, none⟩) (hn 4) _).setCell (p := ⟨w.heap.size, 5, none⟩) (hn 5) _), 0, ys, none, 0, 0, ?_, ?_⟩
    · rw [HU.out]; rfl
    · intro R j h
      rw [HU.out] at h
      cases h
      exact ⟨((((((HR2.out.setNe (p := ⟨w.heap.size, 0, none⟩) hbw _).setNe (p := ⟨w.heap.size, 1, none⟩) hbw _).setNe (p := ⟨w.heap.size, 2, none⟩) hbw _).setNe (p := ⟨w.heap.size, 3, none⟩) hbw _).setNe (p := ⟨w.heap.size, 4, none⟩) hbw _).setNe (p := ⟨w.heap.size, 5, none⟩) hbw _), 1, (den_byte HY.out).more (by omega)⟩
  by_cases k91 : (s[i].toNat : Int) = 91
  · have k2 : s[i].toNat = 91 := by omega
    cases hc : classP s.data.toList (i + 1) with
    | none =>
      have HU : Hid (unitP (choiceP s.data.toList f) s.data.toList i = none) := by
        show unitP _ _ _ = _
        unfold unitP
        rw [HG1.out]
        simp only
        rw [if_neg (by simp [isSign, k2]), if_neg (by omega), if_neg (by omega), if_neg (by omega), if_pos k2, hc]
      go_wp2_with fail
      refine (class_any b s hs (i + 1) (by omega) _ HR1.out).mono ?_
      rintro e w2 ⟨ho2, h0, h1⟩
      obtain rfl := h0 hc
      have hq2 : w2.heap[w.heap.size]? = some (.cells (nodeAg 0 (fun _ => 0) none 0 0) 118 (0, 0)) := (ho2.block w.heap.size (heap_lt HQ.out) (Ne.symm hbw)).trans HQ.out
      clear z0 z1 z2 z3 z4 z5 y0 y1 y2 y3 y4 y5
      have z0 : w2.cell? ⟨w.heap.size, 0, none⟩ = some (.int .i64 0) := cell_of hq2 rfl
      have z1 : w2.cell? ⟨w.heap.size, 1, none⟩ = some (.int .u64 0) := cell_of hq2 rfl
      have z2 : w2.cell? ⟨w.heap.size, 2, none⟩ = some (.int .u64 0) := cell_of hq2 rfl
      have z3 : w2.cell? ⟨w.heap.size, 3, none⟩ = some (.int .u64 0) := cell_of hq2 rfl
      have z4 : w2.cell? ⟨w.heap.size, 4, none⟩ = some (.int .u64 0) := cell_of hq2 rfl
      have z5 : w2.cell? ⟨w.heap.size, 5, none⟩ = some (.slice none 0 0) := cell_of hq2 rfl
      have y0 := free_of hq2 0
      have y1 := free_of hq2 1
      have y2 := free_of hq2 2
      have y3 := free_of hq2 3
      have y4 := free_of hq2 4
      have y5 := free_of hq2 5
      have HO2 : Hid (Only (fun k => k = b) w w2) := HO1.out.trans ho2 (fun k _ e => e)
      have hsz := heap_lt hq2
      clear ho2 h0 h1 hq2 hc
      unfold setCs
      go_wp2
      refine bodyPost_ret (v := .tuple #[.agg (nodeAg 0 (fun _ => 0) none 0 0), .bool false]) (by simp [results, Tryz.results205, go_sem, nodeAg, z0, z1, z2, z3, z4, z5, hsz]) rfl ⟨((((((HO2.out.setCell (p := ⟨w.heap.size, 0, none⟩) (hn 0) _).setCell (p := ⟨w.heap.size, 1, none⟩) (hn 1) _).setCell (p := ⟨w.heap.size, 2, none⟩) (hn 2) _).setCell (p := ⟨w.heap.size, 3, none⟩) (hn 3) _).setCell (p := ⟨w.heap.size, 4, none⟩) (hn 4) _).setCell (p := ⟨w.heap.size, 5, none⟩) (hn 5) _).alloc _, 0, (fun _ => 0), none, 0, 0, ?_, ?_⟩
      · rw [HU.out]; rfl
      · intro R j h
        rw [HU.out] at h
        cases h
    | some p =>
      obtain ⟨S, j⟩ := p
      have HU : Hid (unitP (choiceP s.data.toList f) s.data.toList i = some (byteR S, j)) := by
        show unitP _ _ _ = _
        unfold unitP
        rw [HG1.out]
        simp only
        rw [if_neg (by simp [isSign, k2]), if_neg (by omega), if_neg (by omega), if_neg (by omega), if_pos k2, hc]
      have hcj : i < j := by have := classP_prog hc; omega
      go_wp2_with fail
      refine (class_any b s hs (i + 1) (by omega) _ HR1.out).mono ?_
      rintro e w2 ⟨ho2, h0, h1⟩
      obtain ⟨ys, rfl, hy, hr⟩ := h1 S j hc
      have hq2 : w2.heap[w.heap.size]? = some (.cells (nodeAg 0 (fun _ => 0) none 0 0) 118 (0, 0)) := (ho2.block w.heap.size (heap_lt HQ.out) (Ne.symm hbw)).trans HQ.out
      clear z0 z1 z2 z3 z4 z5 y0 y1 y2 y3 y4 y5
      have z0 : w2.cell? ⟨w.heap.size, 0, none⟩ = some (.int .i64 0) := cell_of hq2 rfl
      have z1 : w2.cell? ⟨w.heap.size, 1, none⟩ = some (.int .u64 0) := cell_of hq2 rfl
      have z2 : w2.cell? ⟨w.heap.size, 2, none⟩ = some (.int .u64 0) := cell_of hq2 rfl
      have z3 : w2.cell? ⟨w.heap.size, 3, none⟩ = some (.int .u64 0) := cell_of hq2 rfl
      have z4 : w2.cell? ⟨w.heap.size, 4, none⟩ = some (.int .u64 0) := cell_of hq2 rfl
      have z5 : w2.cell? ⟨w.heap.size, 5, none⟩ = some (.slice none 0 0) := cell_of hq2 rfl
      have y0 := free_of hq2 0
      have y1 := free_of hq2 1
      have y2 := free_of hq2 2
      have y3 := free_of hq2 3
      have y4 := free_of hq2 4
      have y5 := free_of hq2 5
      have HO2 : Hid (Only (fun k => k = b) w w2) := HO1.out.trans ho2 (fun k _ e => e)
      have HY := hide hy
      have HR2 := hide hr
      have hsz := heap_lt hq2
      clear ho2 h0 h1 hq2 hc hy hr
      unfold setCs
      go_wp2
      refine bodyPost_ret (v := .tuple #[.agg (nodeAg 0 ys none 0 0), .bool true]) (by simp [results, Tryz.results205, go_sem, nodeAg, z0, z1, z2, z3, z4, z5, hsz]) rfl ⟨((((((HO2.out.setCell (p := ⟨w.heap.size, 0, none⟩) (hn 0) _).setCell (p := ⟨w.heap.size, 1, none⟩) (hn 1) _).setCell (p := ⟨w.heap.size, 2, none⟩) (hn 2) _).setCell (p := ⟨w.heap.size, 3, none⟩) (hn 3) _).setCell (p := ⟨w.heap.size, 4, none⟩) (hn 4) _).setCell (p := ⟨w.heap.size, 5, none⟩) (hn 5) _).alloc _, 0, ys, none, 0, 0, ?_, ?_⟩
      · rw [HU.out]; rfl
      · intro R j h
        rw [HU.out] at h
        cases h
        exact ⟨((((((HR2.out.setNe (p := ⟨w.heap.size, 0, none⟩) hbw _).setNe (p := ⟨w.heap.size, 1, none⟩) hbw _).setNe (p := ⟨w.heap.size, 2, none⟩) hbw _).setNe (p := ⟨w.heap.size, 3, none⟩) hbw _).setNe (p := ⟨w.heap.size, 4, none⟩) hbw _).setNe (p := ⟨w.heap.size, 5, none⟩) hbw _).alloc' _, 1, (den_byte HY.out).more (by omega)⟩
  by_cases k92 : (s[i].toNat : Int) = 92
  · have k2 : s[i].toNat = 92 := by omega
    by_cases hl2 : i + 1 < s.size
    · have HG3 := hide (get_of_lt s (i + 1) hl2)
      have HU : Hid (unitP (choiceP s.data.toList f) s.data.toList i = some (byteR (oneS s[i + 1]), i + 2)) := by
        show unitP _ _ _ = _
        unfold unitP
        rw [HG1.out]
        simp only
        rw [if_neg (by simp [isSign, k2]), if_neg (by omega), if_neg (by omega), if_neg (by omega), if_neg (by omega), if_neg (by omega), if_pos k2, HG3.out]
      go_wp2_with fail
      refine (take_some b s hs (i + 1) hl2 _ HR1.out).mono ?_
      rintro e w2 ⟨rfl, hr2, ho2⟩
      have HQ2 : Hid (w2.heap[w.heap.size]? = some (.cells (nodeAg 0 (fun _ => 0) none 0 0) 118 (0, 0))) := (ho2.block w.heap.size (heap_lt HQ.out) (Ne.symm hbw)).trans HQ.out
      have HO2 : Hid (Only (fun k => k = b) w w2) := HO1.out.trans ho2 (fun k _ e => e)
      have HR2 : Hid (RdB w2 b s (i + 2)) := hr2
      clear hr2 ho2
      go_wp2_with fail
      refine (single_any s[i + 1] _).mono ?_
      rintro e w3 ⟨ys, rfl, hy, ho3⟩
      have hq2 : w3.heap[w.heap.size]? = some (.cells (nodeAg 0 (fun _ => 0) none 0 0) 118 (0, 0)) := (ho3.block w.heap.size (heap_lt HQ2.out) (fun h => h)).trans HQ2.out
      clear z0 z1 z2 z3 z4 z5 y0 y1 y2 y3 y4 y5
      have z0 : w3.cell? ⟨w.heap.size, 0, none⟩ = some (.int .i64 0) := cell_of hq2 rfl
      have z1 : w3.cell? ⟨w.heap.size, 1, none⟩ = some (.int .u64 0) := cell_of hq2 rfl
      have z2 : w3.cell? ⟨w.heap.size, 2, none⟩ = some (.int .u64 0) := cell_of hq2 rfl
      have z3 : w3.cell? ⟨w.heap.size, 3, none⟩ = some (.int .u64 0) := cell_of hq2 rfl
      have z4 : w3.cell? ⟨w.heap.size, 4, none⟩ = some (.int .u64 0) := cell_of hq2 rfl
      have z5 : w3.cell? ⟨w.heap.size, 5, none⟩ = some (.slice none 0 0) := cell_of hq2 rfl
      have y0 := free_of hq2 0
      have y1 := free_of hq2 1
      have y2 := free_of hq2 2
      have y3 := free_of hq2 3
      have y4 := free_of hq2 4
      have y5 := free_of hq2 5
      have HO3 : Hid (Only (fun k => k = b) w w3) := HO2.out.trans ho3 (fun k _ e => e.elim)
      have HY := hide hy
      have HR3 := hide (HR2.out.only ho3 (fun h => h))
      clear ho3 hy hq2
      unfold setCs
      go_wp2
      refine bodyPost_ret (v := .tuple #[.agg (nodeAg 0 ys none 0 0), .bool true]) (by simp [results, Tryz.results205, go_sem, nodeAg, z0, z1, z2, z3, z4, z5]) rfl ⟨((((((HO3.out.setCell (p := ⟨w.heap.size, 0, none⟩) (hn 0) _).setCell (p := ⟨w.heap.size, 1, none⟩) (hn 1) _).setCell (p := ⟨w.heap.size, 2, none⟩) (hn 2) _).setCell (p := ⟨w.heap.size, 3, none⟩) (hn 3) _).setCell (p := ⟨w.heap.size, 4, none⟩) (hn 4) _).setCell (p := ⟨w.heap.size, 5, none⟩) (hn 5) _), 0, ys, none, 0, 0, ?_, ?_⟩
      · rw [HU.out]; rfl
      · intro R j h
        rw [HU.out] at h
        cases h
        exact ⟨((((((HR3.out.setNe (p := ⟨w.heap.size, 0, none⟩) hbw _).setNe (p := ⟨w.heap.size, 1, none⟩) hbw _).setNe (p := ⟨w.heap.size, 2, none⟩) hbw _).setNe (p := ⟨w.heap.size, 3, none⟩) hbw _).setNe (p := ⟨w.heap.size, 4, none⟩) hbw _).setNe (p := ⟨w.heap.size, 5, none⟩) hbw _), 1, (den_byte HY.out).more (by omega)⟩
    · have HU : Hid (unitP (choiceP s.data.toList f) s.data.toList i = none) := by
        show unitP _ _ _ = _
        unfold unitP
        rw [HG1.out]
        simp only
        rw [if_neg (by simp [isSign, k2]), if_neg (by omega), if_neg (by omega), if_neg (by omega), if_neg (by omega), if_neg (by omega), if_pos k2, get_none s (i + 1) (by omega)]
      have HRe : Hid (RdB w1 b s s.size) := by
        have h7 : i + 1 = s.size := by omega
        rw [← h7]; exact HR1.out
      go_wp2_with fail
      refine (take_none b s _ HRe.out).mono ?_
      rintro e w2 ⟨rfl, hr2, ho2⟩
      have HQ2 : Hid (w2.heap[w.heap.size]? = some (.cells (nodeAg 0 (fun _ => 0) none 0 0) 118 (0, 0))) := (ho2.block w.heap.size (heap_lt HQ.out) (Ne.symm hbw)).trans HQ.out
      have HO2 : Hid (Only (fun k => k = b) w w2) := HO1.out.trans ho2 (fun k _ e => e)
      have HR2 : Hid (RdB w2 b s s.size) := hr2
      clear hr2 ho2
      go_wp2_with fail
      refine (show Calls Tryz.prog 271 #[.int .u8 0] _ _ from single_any 0 _).mono ?_
      rintro e w3 ⟨ys, rfl, hy, ho3⟩
      have hq2 : w3.heap[w.heap.size]? = some (.cells (nodeAg 0 (fun _ => 0) none 0 0) 118 (0, 0)) := (ho3.block w.heap.size (heap_lt HQ2.out) (fun h => h)).trans HQ2.out
      clear z0 z1 z2 z3 z4 z5 y0 y1 y2 y3 y4 y5
      have z0 : w3.cell? ⟨w.heap.size, 0, none⟩ = some (.int .i64 0) := cell_of hq2 rfl
      have z1 : w3.cell? ⟨w.heap.size, 1, none⟩ = some (.int .u64 0) := cell_of hq2 rfl
      have z2 : w3.cell? ⟨w.heap.size, 2, none⟩ = some (.int .u64 0) := cell_of hq2 rfl
      have z3 : w3.cell? ⟨w.heap.size, 3, none⟩ = some (.int .u64 0) := cell_of hq2 rfl
      have z4 : w3.cell? ⟨w.heap.size, 4, none⟩ = some (.int .u64 0) := cell_of hq2 rfl
      have z5 : w3.cell? ⟨w.heap.size, 5, none⟩ = some (.slice none 0 0) := cell_of hq2 rfl
      have y0 := free_of hq2 0
      have y1 := free_of hq2 1
      have y2 := free_of hq2 2
      have y3 := free_of hq2 3
      have y4 := free_of hq2 4
      have y5 := free_of hq2 5
      have HO3 : Hid (Only (fun k => k = b) w w3) := HO2.out.trans ho3 (fun k _ e => e.elim)
      have HY := hide hy
      have HR3 := hide (HR2.out.only ho3 (fun h => h))
      clear ho3 hy hq2
      unfold setCs
      go_wp2
      refine bodyPost_ret (v := .tuple #[.agg (nodeAg 0 ys none 0 0), .bool false]) (by simp [results, Tryz.results205, go_sem, nodeAg, z0, z1, z2, z3, z4, z5]) rfl ⟨((((((HO3.out.setCell (p := ⟨w.heap.size, 0, none⟩) (hn 0) _).setCell (p := ⟨w.heap.size, 1, none⟩) (hn 1) _).setCell (p := ⟨w.heap.size, 2, none⟩) (hn 2) _).setCell (p := ⟨w.heap.size, 3, none⟩) (hn 3) _).setCell (p := ⟨w.heap.size, 4, none⟩) (hn 4) _).setCell (p := ⟨w.heap.size, 5, none⟩) (hn 5) _), 0, ys, none, 0, 0, ?_, ?_⟩
      · rw [HU.out]; rfl
      · intro R j h
        rw [HU.out] at h
        cases h
  have HU : Hid (unitP (choiceP s.data.toList f) s.data.toList i = some (byteR (oneS s[i]), i + 1)) := by
    show unitP _ _ _ = _
    unfold unitP
    rw [HG1.out]
    simp only
    rw [if_neg (by simp [isSign]; omega), if_neg (by omega), if_neg (by omega), if_neg (by omega), if_neg (by omega), if_neg (by omega), if_neg (by omega)]
  go_wp2_with fail
  refine (single_any s[i] _).mono ?_
  rintro e w3 ⟨ys, rfl, hy, ho3⟩
  have hq2 : w3.heap[w.heap.size]? = some (.cells (nodeAg 0 (fun _ => 0) none 0 0) 118 (0, 0)) := (ho3.block w.heap.size (heap_lt HQ.out) (fun h => h)).trans HQ.out
  clear z0 z1 z2 z3 z4 z5 y0 y1 y2 y3 y4 y5
  have z0 : w3.cell? ⟨w.heap.size, 0, none⟩ = some (.int .i64 0) := cell_of hq2 rfl
  have z1 : w3.cell? ⟨w.heap.size, 1, none⟩ = some (.int .u64 0) := cell_of hq2 rfl
  have z2 : w3.cell? ⟨w.heap.size, 2, none⟩ = some (.int .u64 0) := cell_of hq2 rfl
  have z3 : w3.cell? ⟨w.heap.size, 3, none⟩ = some (.int .u64 0) := cell_of hq2 rfl
  have z4 : w3.cell? ⟨w.heap.size, 4, none⟩ = some (.int .u64 0) := cell_of hq2 rfl
  have z5 : w3.cell? ⟨w.heap.size, 5, none⟩ = some (.slice none 0 0) := cell_of hq2 rfl
  have y0 := free_of hq2 0
  have y1 := free_of hq2 1
  have y2 := free_of hq2 2
  have y3 := free_of hq2 3
  have y4 := free_of hq2 4
  have y5 := free_of hq2 5
  have HO3 : Hid (Only (fun k => k = b) w w3) := HO1.out.trans ho3 (fun k _ e => e.elim)
  have HY := hide hy
  have HR3 := hide (HR1.out.only ho3 (fun h => h))
  clear ho3 hy hq2
  unfold setCs
  go_wp2
  refine bodyPost_ret (v := .tuple #[.agg (nodeAg 0 ys none 0 0), .bool true]) (by simp [results, Tryz.results205, go_sem, nodeAg, z0, z1, z2, z3, z4, z5]) rfl ⟨((((((HO3.out.setCell (p := ⟨w.heap.size, 0, none⟩) (hn 0) _).setCell (p := ⟨w.heap.size, 1, none⟩) (hn 1) _).setCell (p := ⟨w.heap.size, 2, none⟩) (hn 2) _).setCell (p := ⟨w.heap.size, 3, none⟩) (hn 3) _).setCell (p := ⟨w.heap.size, 4, none⟩) (hn 4) _).setCell (p := ⟨w.heap.size, 5, none⟩) (hn 5) _), 0, ys, none, 0, 0, ?_, ?_⟩
  · rw [HU.out]; rfl
  · intro R j h
    rw [HU.out] at h
    cases h
    exact ⟨((((((HR3.out.setNe (p := ⟨w.heap.size, 0, none⟩) hbw _).setNe (p := ⟨w.heap.size, 1, none⟩) hbw _).setNe (p := ⟨w.heap.size, 2, none⟩) hbw _).setNe (p := ⟨w.heap.size, 3, none⟩) hbw _).setNe (p := ⟨w.heap.size, 4, none⟩) hbw _).setNe (p := ⟨w.heap.size, 5, none⟩) hbw _), 1, (den_byte HY.out).more (by omega)⟩
end Go.Proofs.YtdbdbaepmdmnfaaGreatDoor
