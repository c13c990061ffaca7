import Derived.Test.YthhiofppbpgipaaGreatDoorMMember
namespace Go.Proofs.YthhiofppbpgipaaGreatDoor
open Go.RowKit
/-- The place at which a reader stands. -/
def posOf (w : World) (b : Nat) : Nat := match w.cell? ⟨b, 1, none⟩ with | some v => (intOf v).toNat | none => 0
theorem pos_of {w b s i} (h : RdB w b s i) : posOf w b = i := by
  have h1 : w.cell? ⟨b, 1, none⟩ = some (.int .i64 i) := h.at.2
  unfold posOf
  rw [h1]
  simp [intOf]
set_option maxHeartbeats 2000000 in
theorem class_any (b : Nat) (s : ByteArray) (hs : s.size ≤ maxLen) (i : Nat) (hi : i ≤ s.size) (w : World) (h : RdB w b s i) :
    Calls Tryz.prog 417 #[.pointer (some ⟨b, 0, none⟩)] w fun e w' => Only (fun k => k = b) w w' ∧ (classP s.data.toList i = none → e = .returned (.tuple #[.agg (setCs (fun _ => 0)), .bool false])) ∧
      ∀ S j, classP s.data.toList i = some (S, j) → ∃ ys, e = .returned (.tuple #[.agg (setCs ys), .bool true]) ∧ SetIs ys S ∧ RdB w' b s j := by
  have hbl := heap_lt h
  have hml : s.size ≤ 9223372036854775807 := hs
  have HR1 : ∀ o1 o2, Hid (RdB ((w.alloc o1).alloc o2) b s i) := fun o1 o2 => by
    show RdB _ _ _ _
    unfold RdB
    rw [Below.heap_alloc _ _ _ (by simp; omega), Below.heap_alloc _ _ _ hbl]; exact h
  have k1 : w.cell? ⟨b, 1, none⟩ = some (.int .i64 i) := h.at.2
  have kf : w.frozen? ⟨b, 1, none⟩ = false := h.free 1
  clear h
  cases hn : hasB s.data.toList i 94
  · have HN := hide hn
    clear hn
    obtain ⟨R, HR⟩ : ∃ R, Hid (membersP (s.data.toList.length + 1) s.data.toList i true (fun _ => false) = R) := ⟨_, rfl⟩
    go_enter Tryz.func417, Tryz.ntmps417
    go_wp2_with (go_at_call 187; refine (sees_is b 0 s i hi 94 false HN.out _ (HR1 _ _).out.at).mono ?_; rintro e w' ⟨rfl, n1, rfl⟩)
    go_loopw [6] (fun f wr => ∃ (F : Bool) (j n : Nat) (S : UInt8 → Bool) (ys : Nat → Nat), f = .bool F ∧ j ≤ s.size ∧ s.size - j < n ∧ membersP n s.data.toList j F S = R ∧ SetIs ys S ∧ RdB wr b s j ∧ SetB wr (w.heap.size + 1) ys ∧ SetB wr w.heap.size (fun _ => 0) ∧ Only (fun k => k = b) w wr) (fun _ wr => s.size - posOf wr b)
    case atStart => exact ⟨true, i, _, _, fun _ => 0, rfl, hi, by rw [len_eq]; omega, HR.out, SetIs.none, (HR1 _ _).out, new1 w _ _, old1 w _ _, (((Only.refl _ w).alloc _).alloc _).drewN _⟩
    case round =>
      obtain ⟨F, j, n, S, ys, rfl, hj, hn, hm, h3, h4, h5, h6, h7⟩ := hrel
      obtain ⟨m, rfl⟩ : ∃ m, n = m + 1 := ⟨n - 1, by omega⟩
      have HRd := hide h4
      have HSi := hide h3
      have HSt := hide h5
      have HZ := hide h6
      have HOn := hide h7
      have hbw : b ≠ w.heap.size := by omega
      have hn : ∀ o, w.heap.size < w.heap.size → (fun k => k = b) (Addr.block ⟨w.heap.size, o, none⟩) := fun _ h => absurd h (Nat.lt_irrefl _)
      have hpos := pos_of h4
      by_cases hex : F = false ∧ hasB s.data.toList j 93 = true
      · obtain ⟨rfl, hb⟩ := hex
        have HB := hide hb
        have hlt := hasB_lt hb
        rw [len_eq] at hlt
        have HC : Hid (classP s.data.toList i = some (S, j + 1)) := by
          show classP _ _ = _
          have hm2 : R = some (S, j + 1) := by rw [← hm]; unfold membersP; rw [if_pos ⟨rfl, hb⟩]
          have hR2 := HR.out
          rw [hm2] at hR2
          unfold classP
          rw [HN.out]
          simp only [if_false, Bool.false_eq_true]
          rw [hR2]
        have c1 : wr.cell? ⟨b, 1, none⟩ = some (.int .i64 j) := h4.at.2
        have f1 : wr.frozen? ⟨b, 1, none⟩ = false := h4.free 1
        have e0 : wr.cell? ⟨w.heap.size + 1, 0, none⟩ = some (.int .u64 (ys 0)) := cell_of h5 rfl
        have e1 : wr.cell? ⟨w.heap.size + 1, 1, none⟩ = some (.int .u64 (ys 1)) := cell_of h5 rfl
        have e2 : wr.cell? ⟨w.heap.size + 1, 2, none⟩ = some (.int .u64 (ys 2)) := cell_of h5 rfl
        have e3 : wr.cell? ⟨w.heap.size + 1, 3, none⟩ = some (.int .u64 (ys 3)) := cell_of h5 rfl
        have d0 : wr.cell? ⟨w.heap.size, 0, none⟩ = some (.int .u64 0) := cell_of h6 rfl
        have d1 : wr.cell? ⟨w.heap.size, 1, none⟩ = some (.int .u64 0) := cell_of h6 rfl
        have d2 : wr.cell? ⟨w.heap.size, 2, none⟩ = some (.int .u64 0) := cell_of h6 rfl
        have d3 : wr.cell? ⟨w.heap.size, 3, none⟩ = some (.int .u64 0) := cell_of h6 rfl
        have g0 := free_of h6 0
        have g1 := free_of h6 1
        have g2 := free_of h6 2
        have g3 := free_of h6 3
        clear h3 h4 h5 h6 h7 hb hm
        go_wp2_with (go_at_call 187; refine (sees_is b 0 s j hj 93 true HB.out _ HRd.out.at).mono ?_; rintro e w' ⟨rfl, n3, rfl⟩)
        refine bodyPost_ret (v := .tuple #[.agg (setCs ys), .bool true]) (by simp [results, Tryz.results417, go_sem, setCs, d0, d1, d2, d3]) rfl ⟨?_, fun h => (by rw [HC.out] at h; cases h), fun S' j' h => ?_⟩
        · exact (((((HOn.out.drewN _).setCell (p := ⟨b, 1, none⟩) (fun _ => rfl) _).setCell (p := ⟨w.heap.size, 0, none⟩) (hn 0) _).setCell (p := ⟨w.heap.size, 1, none⟩) (hn 1) _).setCell (p := ⟨w.heap.size, 2, none⟩) (hn 2) _).setCell (p := ⟨w.heap.size, 3, none⟩) (hn 3) _
        · rw [HC.out] at h
          cases h
          refine ⟨ys, rfl, HSi.out, ?_⟩
          unfold RdB
          rw [Below.heap_setCell _ _ _ _ hbw, Below.heap_setCell _ _ _ _ hbw, Below.heap_setCell _ _ _ _ hbw, Below.heap_setCell _ _ _ _ hbw]
          exact (HRd.out.drewN _).set (j + 1)
      · have hne : ¬ b = w.heap.size + 1 := by omega
        have hnp : ¬ w.heap.size = b ∧ ¬ w.heap.size = w.heap.size + 1 := by omega
        have HM0 : Hid (membersP (m + 1) s.data.toList j F S = R) := hm
        have HE := hide hex
        cases hM : memberP s.data.toList j with
        | none =>
          have HM := hide hM
          have HC : Hid (classP s.data.toList i = none) := by
            show classP _ _ = _
            have hm2 : R = none := by rw [← hm]; unfold membersP; rw [if_neg hex, hM]
            have hR2 := HR.out
            rw [hm2] at hR2
            unfold classP
            rw [HN.out]
            simp only [if_false, Bool.false_eq_true]
            rw [hR2]
          clear hm hM
          cases F
          · skip
            have HB : Hid (hasB s.data.toList j 93 = false) := by
              show hasB _ _ _ = _
              cases hb : hasB s.data.toList j 93 with
              | false => rfl
              | true => exact absurd ⟨rfl, hb⟩ HE.out
            clear h3 h4 h5 h6 h7 hex
            go_wp2_with (go_at_call 187; refine (sees_is b 0 s j hj 93 false HB.out _ HRd.out.at).mono ?_; rintro e w' ⟨rfl, n3, rfl⟩)
            refine (member_any b (w.heap.size + 1) hne s hs j hj ys S HSi.out _ ?hrd ?hset).mono ?_
            case hrd => exact HRd.out
            case hset => exact HSt.out
            rintro e w2 ⟨rfl, ho, hT⟩
            rw [HM.out]
            have HO2 : Hid (Only (fun k => k = b) w w2) := (HOn.out.drewN n3).trans ho (fun k hk e => by omega)
            have h6 : SetB w2 w.heap.size (fun _ => 0) := (ho.block w.heap.size (heap_lt HZ.out) (fun e => by omega)).trans HZ.out
            have HZ2 := hide h6
            have d0 : w2.cell? ⟨w.heap.size, 0, none⟩ = some (.int .u64 0) := cell_of h6 rfl
            have d1 : w2.cell? ⟨w.heap.size, 1, none⟩ = some (.int .u64 0) := cell_of h6 rfl
            have d2 : w2.cell? ⟨w.heap.size, 2, none⟩ = some (.int .u64 0) := cell_of h6 rfl
            have d3 : w2.cell? ⟨w.heap.size, 3, none⟩ = some (.int .u64 0) := cell_of h6 rfl
            have g0 := free_of h6 0
            have g1 := free_of h6 1
            have g2 := free_of h6 2
            have g3 := free_of h6 3
            clear h6 ho hT
            simp only [Option.isSome_none]
            go_wp2
            refine bodyPost_ret (v := .tuple #[.agg (setCs (fun _ => 0)), .bool false]) (by simp [results, Tryz.results417, go_sem, setCs, d0, d1, d2, d3]) rfl ⟨?_, fun _ => rfl, fun S' j' h => (by rw [HC.out] at h; cases h)⟩
            exact ((((HO2.out).setCell (p := ⟨w.heap.size, 0, none⟩) (hn 0) _).setCell (p := ⟨w.heap.size, 1, none⟩) (hn 1) _).setCell (p := ⟨w.heap.size, 2, none⟩) (hn 2) _).setCell (p := ⟨w.heap.size, 3, none⟩) (hn 3) _
          · skip
            clear h3 h4 h5 h6 h7 hex
            go_wp2_with fail
            refine (member_any b (w.heap.size + 1) hne s hs j hj ys S HSi.out _ ?hrd ?hset).mono ?_
            case hrd => exact HRd.out
            case hset => exact HSt.out
            rintro e w2 ⟨rfl, ho, hT⟩
            rw [HM.out]
            have HO2 : Hid (Only (fun k => k = b) w w2) := HOn.out.trans ho (fun k hk e => by omega)
            have h6 : SetB w2 w.heap.size (fun _ => 0) := (ho.block w.heap.size (heap_lt HZ.out) (fun e => by omega)).trans HZ.out
            have HZ2 := hide h6
            have d0 : w2.cell? ⟨w.heap.size, 0, none⟩ = some (.int .u64 0) := cell_of h6 rfl
            have d1 : w2.cell? ⟨w.heap.size, 1, none⟩ = some (.int .u64 0) := cell_of h6 rfl
            have d2 : w2.cell? ⟨w.heap.size, 2, none⟩ = some (.int .u64 0) := cell_of h6 rfl
            have d3 : w2.cell? ⟨w.heap.size, 3, none⟩ = some (.int .u64 0) := cell_of h6 rfl
            have g0 := free_of h6 0
            have g1 := free_of h6 1
            have g2 := free_of h6 2
            have g3 := free_of h6 3
            clear h6 ho hT
            simp only [Option.isSome_none]
            go_wp2
            refine bodyPost_ret (v := .tuple #[.agg (setCs (fun _ => 0)), .bool false]) (by simp [results, Tryz.results417, go_sem, setCs, d0, d1, d2, d3]) rfl ⟨?_, fun _ => rfl, fun S' j' h => (by rw [HC.out] at h; cases h)⟩
            exact ((((HO2.out).setCell (p := ⟨w.heap.size, 0, none⟩) (hn 0) _).setCell (p := ⟨w.heap.size, 1, none⟩) (hn 1) _).setCell (p := ⟨w.heap.size, 2, none⟩) (hn 2) _).setCell (p := ⟨w.heap.size, 3, none⟩) (hn 3) _
        | some Tk =>
          obtain ⟨T, k⟩ := Tk
          have HM := hide hM
          have HM1 : Hid (membersP m s.data.toList k false (orS S T) = R) := by
            show membersP _ _ _ _ _ = _
            rw [← hm]
            conv => rhs; unfold membersP
            rw [if_neg hex, hM]
          have hpg := memberP_prog hM
          rw [len_eq] at hpg
          clear hm hM
          cases F
          · skip
            have HB : Hid (hasB s.data.toList j 93 = false) := by
              show hasB _ _ _ = _
              cases hb : hasB s.data.toList j 93 with
              | false => rfl
              | true => exact absurd ⟨rfl, hb⟩ HE.out
            clear h3 h4 h5 h6 h7 hex
            go_wp2_with (go_at_call 187; refine (sees_is b 0 s j hj 93 false HB.out _ HRd.out.at).mono ?_; rintro e w' ⟨rfl, n3, rfl⟩)
            refine (member_any b (w.heap.size + 1) hne s hs j hj ys S HSi.out _ ?hrd ?hset).mono ?_
            case hrd => exact HRd.out
            case hset => exact HSt.out
            rintro e w2 ⟨rfl, ho, hT⟩
            rw [HM.out]
            have HO2 : Hid (Only (fun k => k = b) w w2) := (HOn.out.drewN n3).trans ho (fun k hk e => by omega)
            have h6 : SetB w2 w.heap.size (fun _ => 0) := (ho.block w.heap.size (heap_lt HZ.out) (fun e => by omega)).trans HZ.out
            have HZ2 := hide h6
            obtain ⟨hr2, zs, hz1, hz2⟩ := hT T k HM.out
            have HR2 := hide hr2
            have HZ1 := hide hz1
            have HZ3 := hide hz2
            have HP2 := hide (pos_of hr2)
            have HP1 := hide hpos
            clear h6 ho hT hr2 hz1 hz2 hpos
            simp only [Option.isSome_some]
            go_wp2
            go_roundw
            case rel => exact ⟨false, k, m, _, zs, rfl, hpg.2, by omega, HM1.out, HZ1.out, HR2.out, HZ3.out, HZ2.out, HO2.out⟩
            case measure => rw [HP2.out, HP1.out]; omega
          · skip
            clear h3 h4 h5 h6 h7 hex
            go_wp2_with fail
            refine (member_any b (w.heap.size + 1) hne s hs j hj ys S HSi.out _ ?hrd ?hset).mono ?_
            case hrd => exact HRd.out
            case hset => exact HSt.out
            rintro e w2 ⟨rfl, ho, hT⟩
            rw [HM.out]
            have HO2 : Hid (Only (fun k => k = b) w w2) := HOn.out.trans ho (fun k hk e => by omega)
            have h6 : SetB w2 w.heap.size (fun _ => 0) := (ho.block w.heap.size (heap_lt HZ.out) (fun e => by omega)).trans HZ.out
            have HZ2 := hide h6
            obtain ⟨hr2, zs, hz1, hz2⟩ := hT T k HM.out
            have HR2 := hide hr2
            have HZ1 := hide hz1
            have HZ3 := hide hz2
            have HP2 := hide (pos_of hr2)
            have HP1 := hide hpos
            clear h6 ho hT hr2 hz1 hz2 hpos
            simp only [Option.isSome_some]
            go_wp2
            go_roundw
            case rel => exact ⟨false, k, m, _, zs, rfl, hpg.2, by omega, HM1.out, HZ1.out, HR2.out, HZ3.out, HZ2.out, HO2.out⟩
            case measure => rw [HP2.out, HP1.out]; omega
  · have HN := hide hn
    have hlt0 := hasB_lt hn
    rw [len_eq] at hlt0
    clear hn
    obtain ⟨R, HR⟩ : ∃ R, Hid (membersP (s.data.toList.length + 1) s.data.toList (i + 1) true (fun _ => false) = R) := ⟨_, rfl⟩
    go_enter Tryz.func417, Tryz.ntmps417
    go_wp2_with (go_at_call 187; refine (sees_is b 0 s i hi 94 true HN.out _ (HR1 _ _).out.at).mono ?_; rintro e w' ⟨rfl, n1, rfl⟩)
    go_loopw [6] (fun f wr => ∃ (F : Bool) (j n : Nat) (S : UInt8 → Bool) (ys : Nat → Nat), f = .bool F ∧ j ≤ s.size ∧ s.size - j < n ∧ membersP n s.data.toList j F S = R ∧ SetIs ys S ∧ RdB wr b s j ∧ SetB wr (w.heap.size + 1) ys ∧ SetB wr w.heap.size (fun _ => 0) ∧ Only (fun k => k = b) w wr) (fun _ wr => s.size - posOf wr b)
    case atStart =>
      refine ⟨true, i + 1, _, _, fun _ => 0, rfl, by omega, by rw [len_eq]; omega, HR.out, SetIs.none, ((HR1 _ _).out.drewN n1).set (i + 1), ?_, ?_, ((((Only.refl (fun k => k = b) w).alloc _).alloc _).drewN _).setCell (p := ⟨b, 1, none⟩) (fun _ => rfl) _⟩
      · unfold SetB
        rw [Below.heap_setCell _ _ _ _ (show w.heap.size + 1 ≠ b by omega)]; exact new1 w _ _
      · unfold SetB
        rw [Below.heap_setCell _ _ _ _ (show w.heap.size ≠ b by omega)]; exact old1 w _ _
    case round =>
      obtain ⟨F, j, n, S, ys, rfl, hj, hn, hm, h3, h4, h5, h6, h7⟩ := hrel
      obtain ⟨m, rfl⟩ : ∃ m, n = m + 1 := ⟨n - 1, by omega⟩
      have HRd := hide h4
      have HSi := hide h3
      have HSt := hide h5
      have HZ := hide h6
      have HOn := hide h7
      have hbw : b ≠ w.heap.size := by omega
      have hbw1 : w.heap.size + 1 ≠ b := by omega
      have hn1 : ∀ o, w.heap.size + 1 < w.heap.size → (fun k => k = b) (Addr.block ⟨w.heap.size + 1, o, none⟩) := fun _ h => by omega
      have hn : ∀ o, w.heap.size < w.heap.size → (fun k => k = b) (Addr.block ⟨w.heap.size, o, none⟩) := fun _ h => absurd h (Nat.lt_irrefl _)
      have hpos := pos_of h4
      by_cases hex : F = false ∧ hasB s.data.toList j 93 = true
      · obtain ⟨rfl, hb⟩ := hex
        have HB := hide hb
        have hlt := hasB_lt hb
        rw [len_eq] at hlt
        have HC : Hid (classP s.data.toList i = some (notS S, j + 1)) := by
          show classP _ _ = _
          have hm2 : R = some (S, j + 1) := by rw [← hm]; unfold membersP; rw [if_pos ⟨rfl, hb⟩]
          have hR2 := HR.out
          rw [hm2] at hR2
          unfold classP
          rw [HN.out]
          simp only [if_true]
          rw [hR2]
        have c1 : wr.cell? ⟨b, 1, none⟩ = some (.int .i64 j) := h4.at.2
        have f1 : wr.frozen? ⟨b, 1, none⟩ = false := h4.free 1
        have e0 : wr.cell? ⟨w.heap.size + 1, 0, none⟩ = some (.int .u64 (ys 0)) := cell_of h5 rfl
        have e1 : wr.cell? ⟨w.heap.size + 1, 1, none⟩ = some (.int .u64 (ys 1)) := cell_of h5 rfl
        have e2 : wr.cell? ⟨w.heap.size + 1, 2, none⟩ = some (.int .u64 (ys 2)) := cell_of h5 rfl
        have e3 : wr.cell? ⟨w.heap.size + 1, 3, none⟩ = some (.int .u64 (ys 3)) := cell_of h5 rfl
        have d0 : wr.cell? ⟨w.heap.size, 0, none⟩ = some (.int .u64 0) := cell_of h6 rfl
        have d1 : wr.cell? ⟨w.heap.size, 1, none⟩ = some (.int .u64 0) := cell_of h6 rfl
        have d2 : wr.cell? ⟨w.heap.size, 2, none⟩ = some (.int .u64 0) := cell_of h6 rfl
        have d3 : wr.cell? ⟨w.heap.size, 3, none⟩ = some (.int .u64 0) := cell_of h6 rfl
        have g0 := free_of h6 0
        have g1 := free_of h6 1
        have g2 := free_of h6 2
        have g3 := free_of h6 3
        clear h3 h4 h5 h6 h7 hb hm
        go_wp2_with (go_at_call 187; refine (sees_is b 0 s j hj 93 true HB.out _ HRd.out.at).mono ?_; rintro e w' ⟨rfl, n3, rfl⟩)
        refine (others_any ys S HSi.out _).mono ?_
        rintro e w3 ⟨zs, rfl, hz, ho⟩
        have hr3 : RdB w3 b s (j + 1) := RdB.only ((HRd.out.drewN n3).set (j + 1)) ho (fun h => h)
        have h5 : SetB w3 (w.heap.size + 1) ys := by
          have h8 : SetB ((wr.drewN n3).setCell ⟨b, 1, none⟩ (.int .i64 ((j + 1 : Nat) : Int))) (w.heap.size + 1) ys := by
            unfold SetB
            rw [Below.heap_setCell _ _ _ _ hbw1]; exact HSt.out
          exact (ho.block _ (heap_lt h8) (fun h => h)).trans h8
        have h6 : SetB w3 w.heap.size (fun _ => 0) := by
          have h8 : SetB ((wr.drewN n3).setCell ⟨b, 1, none⟩ (.int .i64 ((j + 1 : Nat) : Int))) w.heap.size (fun _ => 0) := by
            unfold SetB
            rw [Below.heap_setCell _ _ _ _ (Ne.symm hbw)]; exact HZ.out
          exact (ho.block _ (heap_lt h8) (fun h => h)).trans h8
        have HO3 : Hid (Only (fun k => k = b) w w3) := ((HOn.out.drewN n3).setCell (p := ⟨b, 1, none⟩) (fun _ => rfl) _).trans ho (fun k _ h => h.elim)
        have HR3 := hide hr3
        have HZ3 := hide hz
        clear e0 e1 e2 e3 d0 d1 d2 d3 g0 g1 g2 g3
        have e0 : w3.cell? ⟨w.heap.size + 1, 0, none⟩ = some (.int .u64 (ys 0)) := cell_of h5 rfl
        have d0 : w3.cell? ⟨w.heap.size, 0, none⟩ = some (.int .u64 0) := cell_of h6 rfl
        have p0 := free_of h5 0
        have g0 := free_of h6 0
        have e1 : w3.cell? ⟨w.heap.size + 1, 1, none⟩ = some (.int .u64 (ys 1)) := cell_of h5 rfl
        have d1 : w3.cell? ⟨w.heap.size, 1, none⟩ = some (.int .u64 0) := cell_of h6 rfl
        have p1 := free_of h5 1
        have g1 := free_of h6 1
        have e2 : w3.cell? ⟨w.heap.size + 1, 2, none⟩ = some (.int .u64 (ys 2)) := cell_of h5 rfl
        have d2 : w3.cell? ⟨w.heap.size, 2, none⟩ = some (.int .u64 0) := cell_of h6 rfl
        have p2 := free_of h5 2
        have g2 := free_of h6 2
        have e3 : w3.cell? ⟨w.heap.size + 1, 3, none⟩ = some (.int .u64 (ys 3)) := cell_of h5 rfl
        have d3 : w3.cell? ⟨w.heap.size, 3, none⟩ = some (.int .u64 0) := cell_of h6 rfl
        have p3 := free_of h5 3
        have g3 := free_of h6 3
        clear hr3 h5 h6 hz ho
        unfold setCs
        go_wp2
        refine bodyPost_ret (v := .tuple #[.agg (setCs zs), .bool true]) (by simp [results, Tryz.results417, go_sem, setCs, d0, d1, d2, d3]) rfl ⟨?_, fun h => (by rw [HC.out] at h; cases h), fun S' j' h => ?_⟩
        · exact ((((((((HO3.out.setCell (p := ⟨w.heap.size + 1, 0, none⟩) (hn1 0) _).setCell (p := ⟨w.heap.size + 1, 1, none⟩) (hn1 1) _).setCell (p := ⟨w.heap.size + 1, 2, none⟩) (hn1 2) _).setCell (p := ⟨w.heap.size + 1, 3, none⟩) (hn1 3) _).setCell (p := ⟨w.heap.size, 0, none⟩) (hn 0) _).setCell (p := ⟨w.heap.size, 1, none⟩) (hn 1) _).setCell (p := ⟨w.heap.size, 2, none⟩) (hn 2) _).setCell (p := ⟨w.heap.size, 3, none⟩) (hn 3) _)
        · rw [HC.out] at h
          cases h
          refine ⟨zs, rfl, HZ3.out, ?_⟩
          unfold RdB
          rw [Below.heap_setCell _ _ _ _ hbw, Below.heap_setCell _ _ _ _ hbw, Below.heap_setCell _ _ _ _ hbw, Below.heap_setCell _ _ _ _ hbw, Below.heap_setCell _ _ _ _ (Ne.symm hbw1), Below.heap_setCell _ _ _ _ (Ne.symm hbw1), Below.heap_setCell _ _ _ _ (Ne.symm hbw1), Below.heap_setCell _ _ _ _ (Ne.symm hbw1)]
          exact HR3.out
      · have hne : ¬ b = w.heap.size + 1 := by omega
        have hnp : ¬ w.heap.size = b ∧ ¬ w.heap.size = w.heap.size + 1 := by omega
        have HM0 : Hid (membersP (m + 1) s.data.toList j F S = R) := hm
        have HE := hide hex
        cases hM : memberP s.data.toList j with
        | none =>
          have HM := hide hM
          have HC : Hid (classP s.data.toList i = none) := by
            show classP _ _ = _
            have hm2 : R = none := by rw [← hm]; unfold membersP; rw [if_neg hex, hM]
            have hR2 := HR.out
            rw [hm2] at hR2
            unfold classP
            rw [HN.out]
            simp only [if_true]
            rw [hR2]
          clear hm hM
          cases F
          · skip
            have HB : Hid (hasB s.data.toList j 93 = false) := by
              show hasB _ _ _ = _
              cases hb : hasB s.data.toList j 93 with
              | false => rfl
              | true => exact absurd ⟨rfl, hb⟩ HE.out
            clear h3 h4 h5 h6 h7 hex
            go_wp2_with (go_at_call 187; refine (sees_is b 0 s j hj 93 false HB.out _ HRd.out.at).mono ?_; rintro e w' ⟨rfl, n3, rfl⟩)
            refine (member_any b (w.heap.size + 1) hne s hs j hj ys S HSi.out _ ?hrd ?hset).mono ?_
            case hrd => exact HRd.out
            case hset => exact HSt.out
            rintro e w2 ⟨rfl, ho, hT⟩
            rw [HM.out]
            have HO2 : Hid (Only (fun k => k = b) w w2) := (HOn.out.drewN n3).trans ho (fun k hk e => by omega)
            have h6 : SetB w2 w.heap.size (fun _ => 0) := (ho.block w.heap.size (heap_lt HZ.out) (fun e => by omega)).trans HZ.out
            have HZ2 := hide h6
            have d0 : w2.cell? ⟨w.heap.size, 0, none⟩ = some (.int .u64 0) := cell_of h6 rfl
            have d1 : w2.cell? ⟨w.heap.size, 1, none⟩ = some (.int .u64 0) := cell_of h6 rfl
            have d2 : w2.cell? ⟨w.heap.size, 2, none⟩ = some (.int .u64 0) := cell_of h6 rfl
            have d3 : w2.cell? ⟨w.heap.size, 3, none⟩ = some (.int .u64 0) := cell_of h6 rfl
            have g0 := free_of h6 0
            have g1 := free_of h6 1
            have g2 := free_of h6 2
            have g3 := free_of h6 3
            clear h6 ho hT
            simp only [Option.isSome_none]
            go_wp2
            refine bodyPost_ret (v := .tuple #[.agg (setCs (fun _ => 0)), .bool false]) (by simp [results, Tryz.results417, go_sem, setCs, d0, d1, d2, d3]) rfl ⟨?_, fun _ => rfl, fun S' j' h => (by rw [HC.out] at h; cases h)⟩
            exact ((((HO2.out).setCell (p := ⟨w.heap.size, 0, none⟩) (hn 0) _).setCell (p := ⟨w.heap.size, 1, none⟩) (hn 1) _).setCell (p := ⟨w.heap.size, 2, none⟩) (hn 2) _).setCell (p := ⟨w.heap.size, 3, none⟩) (hn 3) _
          · skip
            clear h3 h4 h5 h6 h7 hex
            go_wp2_with fail
            refine (member_any b (w.heap.size + 1) hne s hs j hj ys S HSi.out _ ?hrd ?hset).mono ?_
            case hrd => exact HRd.out
            case hset => exact HSt.out
            rintro e w2 ⟨rfl, ho, hT⟩
            rw [HM.out]
            have HO2 : Hid (Only (fun k => k = b) w w2) := HOn.out.trans ho (fun k hk e => by omega)
            have h6 : SetB w2 w.heap.size (fun _ => 0) := (ho.block w.heap.size (heap_lt HZ.out) (fun e => by omega)).trans HZ.out
            have HZ2 := hide h6
            have d0 : w2.cell? ⟨w.heap.size, 0, none⟩ = some (.int .u64 0) := cell_of h6 rfl
            have d1 : w2.cell? ⟨w.heap.size, 1, none⟩ = some (.int .u64 0) := cell_of h6 rfl
            have d2 : w2.cell? ⟨w.heap.size, 2, none⟩ = some (.int .u64 0) := cell_of h6 rfl
            have d3 : w2.cell? ⟨w.heap.size, 3, none⟩ = some (.int .u64 0) := cell_of h6 rfl
            have g0 := free_of h6 0
            have g1 := free_of h6 1
            have g2 := free_of h6 2
            have g3 := free_of h6 3
            clear h6 ho hT
            simp only [Option.isSome_none]
            go_wp2
            refine bodyPost_ret (v := .tuple #[.agg (setCs (fun _ => 0)), .bool false]) (by simp [results, Tryz.results417, go_sem, setCs, d0, d1, d2, d3]) rfl ⟨?_, fun _ => rfl, fun S' j' h => (by rw [HC.out] at h; cases h)⟩
            exact ((((HO2.out).setCell (p := ⟨w.heap.size, 0, none⟩) (hn 0) _).setCell (p := ⟨w.heap.size, 1, none⟩) (hn 1) _).setCell (p := ⟨w.heap.size, 2, none⟩) (hn 2) _).setCell (p := ⟨w.heap.size, 3, none⟩) (hn 3) _
        | some Tk =>
          obtain ⟨T, k⟩ := Tk
          have HM := hide hM
          have HM1 : Hid (membersP m s.data.toList k false (orS S T) = R) := by
            show membersP _ _ _ _ _ = _
            rw [← hm]
            conv => rhs; unfold membersP
            rw [if_neg hex, hM]
          have hpg := memberP_prog hM
          rw [len_eq] at hpg
          clear hm hM
          cases F
          · skip
            have HB : Hid (hasB s.data.toList j 93 = false) := by
              show hasB _ _ _ = _
              cases hb : hasB s.data.toList j 93 with
              | false => rfl
              | true => exact absurd ⟨rfl, hb⟩ HE.out
            clear h3 h4 h5 h6 h7 hex
            go_wp2_with (go_at_call 187; refine (sees_is b 0 s j hj 93 false HB.out _ HRd.out.at).mono ?_; rintro e w' ⟨rfl, n3, rfl⟩)
            refine (member_any b (w.heap.size + 1) hne s hs j hj ys S HSi.out _ ?hrd ?hset).mono ?_
            case hrd => exact HRd.out
            case hset => exact HSt.out
            rintro e w2 ⟨rfl, ho, hT⟩
            rw [HM.out]
            have HO2 : Hid (Only (fun k => k = b) w w2) := (HOn.out.drewN n3).trans ho (fun k hk e => by omega)
            have h6 : SetB w2 w.heap.size (fun _ => 0) := (ho.block w.heap.size (heap_lt HZ.out) (fun e => by omega)).trans HZ.out
            have HZ2 := hide h6
            obtain ⟨hr2, zs, hz1, hz2⟩ := hT T k HM.out
            have HR2 := hide hr2
            have HZ1 := hide hz1
            have HZ3 := hide hz2
            have HP2 := hide (pos_of hr2)
            have HP1 := hide hpos
            clear h6 ho hT hr2 hz1 hz2 hpos
            simp only [Option.isSome_some]
            go_wp2
            go_roundw
            case rel => exact ⟨false, k, m, _, zs, rfl, hpg.2, by omega, HM1.out, HZ1.out, HR2.out, HZ3.out, HZ2.out, HO2.out⟩
            case measure => rw [HP2.out, HP1.out]; omega
          · skip
            clear h3 h4 h5 h6 h7 hex
            go_wp2_with fail
            refine (member_any b (w.heap.size + 1) hne s hs j hj ys S HSi.out _ ?hrd ?hset).mono ?_
            case hrd => exact HRd.out
            case hset => exact HSt.out
            rintro e w2 ⟨rfl, ho, hT⟩
            rw [HM.out]
            have HO2 : Hid (Only (fun k => k = b) w w2) := HOn.out.trans ho (fun k hk e => by omega)
            have h6 : SetB w2 w.heap.size (fun _ => 0) := (ho.block w.heap.size (heap_lt HZ.out) (fun e => by omega)).trans HZ.out
            have HZ2 := hide h6
            obtain ⟨hr2, zs, hz1, hz2⟩ := hT T k HM.out
            have HR2 := hide hr2
            have HZ1 := hide hz1
            have HZ3 := hide hz2
            have HP2 := hide (pos_of hr2)
            have HP1 := hide hpos
            clear h6 ho hT hr2 hz1 hz2 hpos
            simp only [Option.isSome_some]
            go_wp2
            go_roundw
            case rel => exact ⟨false, k, m, _, zs, rfl, hpg.2, by omega, HM1.out, HZ1.out, HR2.out, HZ3.out, HZ2.out, HO2.out⟩
            case measure => rw [HP2.out, HP1.out]; omega
end Go.Proofs.YthhiofppbpgipaaGreatDoor
