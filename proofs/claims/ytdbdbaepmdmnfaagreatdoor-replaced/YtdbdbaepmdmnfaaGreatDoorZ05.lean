import Derived.Test.YtdbdbaepmdmnfaaGreatDoorZ04
import Derived.Laws.AppendOwn
namespace Go.Proofs.YtdbdbaepmdmnfaaGreatDoor
open Go.RowKit
/-- The place at which a reader stands. -/
def posOf (w : World) (b : Nat) : Nat := match w.cell? ⟨b, 1, none⟩ with | some v => (intOf v).toNat | none => 0
theorem pos_of {w b s i} (h : RdB w b s i) : posOf w b = i := by
  have h1 : w.cell? ⟨b, 1, none⟩ = some (.int .i64 i) := h.at.2
  unfold posOf
  rw [h1]
  simp [intOf]
set_option maxHeartbeats 2000000 in
theorem class_any (b : Nat) (s : ByteArray) (hs : s.size ≤ maxLen) (i : Nat) (hi : i ≤ s.size) (w : World) (h : RdB w b s i) :
    Calls Tryz.prog 269 #[.pointer (some ⟨b, 0, none⟩)] w fun e w' => Only (fun k => k = b) w w' ∧ (classP s.data.toList i = none → e = .returned (.tuple #[.agg (setCs (fun _ => 0)), .bool false])) ∧
      ∀ S j, classP s.data.toList i = some (S, j) → ∃ ys, e = .returned (.tuple #[.agg (setCs ys), .bool true]) ∧ SetIs ys S ∧ RdB w' b s j := by
  have hbl := heap_lt h
  have hml : s.size ≤ 9223372036854775807 := hs
  have HR1 : ∀ o1 o2, Hid (RdB ((w.alloc o1).alloc o2) b s i) := fun o1 o2 => by
    show RdB _ _ _ _
    unfold RdB
    rw [Below.heap_alloc _ _ _ (by simp; omega), Below.heap_alloc _ _ _ hbl]; exact h
  have k1 : w.cell? ⟨b, 1, none⟩ = some (.int .i64 i) := h.at.2
  have kf : w.frozen? ⟨b, 1, none⟩ = false := h.free 1
  clear h
  cases hn : hasB s.data.toList i 94
  · have HN := hide hn
    clear hn
    obtain ⟨R, HR⟩ : ∃ R, Hid (membersP (s.data.toList.length + 1) s.data.toList i true (fun _ => false) = R) := ⟨_, rfl⟩
    go_enter Tryz.func269, Tryz.ntmps269
    go_wp2_with (go_at_call 122; refine (sees_is b 0 s i hi 94 false HN.out _ (HR1 _ _).out.at).mono ?_; rintro e w' ⟨rfl, n1, rfl⟩)
    go_loopw [6] (fun f wr => ∃ (F : Bool) (j n : Nat) (S : UInt8 → Bool) (ys : Nat → Nat), f = .bool F ∧ j ≤ s.size ∧ s.size - j < n ∧ membersP n s.data.toList j F S = R ∧ SetIs ys S ∧ RdB wr b s j ∧ SetB wr (w.heap.size + 1) ys ∧ SetB wr w.heap.size (fun _ => 0) ∧ Only (fun k => k = b) w wr) (fun _ wr => s.size - posOf wr b)
    case atStart => exact ⟨true, i, _, _, fun _ => 0, rfl, hi, by rw [len_eq]; omega, HR.out, SetIs.none, (HR1 _ _).out, new1 w _ _, old1 w _ _, (((Only.refl _ w).alloc _).alloc _).drewN _⟩
    case round =>
      obtain ⟨F, j, n, S, ys, rfl, hj, hn, hm, h3, h4, h5, h6, h7⟩ := hrel
      obtain ⟨m, rfl⟩ : ∃ m, n = m + 1 := ⟨n - 1, by omega⟩
      have HRd := hide h4
      have HSi := hide h3
      have HSt := hide h5
      have HZ := hide h6
      have HOn := hide h7
      have hbw : b ≠ w.heap.size := by omega
      have hn : ∀ o, w.heap.size < w.heap.size → (fun k => k = b) (Addr.block ⟨w.heap.size, o, none⟩) := fun _ h => absurd h (Nat.lt_irrefl _)
      have hpos := pos_of h4
      by_cases hex : F = false ∧ hasB s.data.toList j 93 = true
      · obtain ⟨rfl, hb⟩ := hex
        have HB := hide hb
        have hlt := hasB_lt hb
        rw [len_eq] at hlt
        have HC : Hid (classP s.data.toList i = some (S, j + 1)) := by
          show classP _ _ = _
          have hm2 : R = some (S, j + 1) := by rw [← hm]; unfold membersP; rw [if_pos ⟨rfl, hb⟩]
          have hR2 := HR.out
          rw [hm2] at hR2
          unfold classP
          rw [HN.out]
          simp only [if_false, Bool.false_eq_true]
          rw [hR2]
        have c1 : wr.cell? ⟨b, 1, none⟩ = some (.int .i64 j) := h4.at.2
        have f1 : wr.frozen? ⟨b, 1, none⟩ = false := h4.free 1
        have e0 : wr.cell? ⟨w.heap.size + 1, 0, none⟩ = some (.int .u64 (ys 0)) := cell_of h5 rfl
        have e1 : wr.cell? ⟨w.heap.size + 1, 1, none⟩ = some (.int .u64 (ys 1)) := cell_of h5 rfl
        have e2 : wr.cell? ⟨w.heap.size + 1, 2, none⟩ = some (.int .u64 (ys 2)) := cell_of h5 rfl
        have e3 : wr.cell? ⟨w.heap.size + 1, 3, none⟩ = some (.int .u64 (ys 3)) := cell_of h5 rfl
        have d0 : wr.cell? ⟨w.heap.size, 0, none⟩ = some (.int .u64 0) := cell_of h6 rfl
        have d1 : wr.cell? ⟨w.heap.size, 1, none⟩ = some (.int .u64 0) := cell_of h6 rfl
        have d2 : wr.cell? ⟨w.heap.size, 2, none⟩ = some (.int .u64 0) := cell_of h6 rfl
        have d3 : wr.cell? ⟨w.heap.size, 3, none⟩ = some (.int .u64 0) := cell_of h6 rfl
        have g0 := free_of h6 0
        have g1 := free_of h6 1
        have g2 := free_of h6 2
        have g3 := free_of h6 3
        clear h3 h4 h5 h6 h7 hb hm
        go_wp2_with (go_at_call 122; refine (sees_is b 0 s j hj 93 true HB.out _ HRd.out.at).mono ?_; rintro e w' ⟨rfl, n3, rfl⟩)
        refine bodyPost_ret (v := .tuple #[.agg (setCs ys), .bool true]) (by simp [results, Tryz.results269, go_sem, setCs, d0, d1, d2, d3]) rfl ⟨?_, fun h => (by rw [HC.out] at h; cases h), fun S' j' h => ?_⟩
        · exact (((((HOn.out.drewN _).setCell (p := ⟨b, 1, none⟩) (fun _ => rfl) _).setCell (p := ⟨w.heap.size, 0, none⟩) (hn 0) _).setCell (p := ⟨w.heap.size, 1, none⟩) (hn 1) _).setCell (p := ⟨w.heap.size, 2, none⟩) (hn 2) _).setCell (p := ⟨w.heap.size, 3, none⟩) (hn 3) _
        · rw [HC.out] at h
          cases h
          refine ⟨ys, rfl, HSi.out, ?_⟩
          unfold RdB
          rw [Below.heap_setCell _ _ _ _ hbw, Below.heap_setCell _ _ _ _ hbw, Below.heap_setCell _ _ _ _ hbw, Below.heap_setCell _ _ _ _ hbw]
          exact (HRd.out.drewN _).set (j + 1)
      · have hne : ¬ b = w.heap.size + 1 := by omega
        have hnp : ¬ w.heap.size = b ∧ ¬ w.heap.size = w.heap.size + 1 := by omega
        have HM0 : Hid (membersP (m + 1) s.data.toList j F S = R) := hm
        have HE := hide hex
        cases hM : memberP s.data.toList j with
        | none =>
          have HM := hide hM
          have HC : Hid (classP s.data.toList i = none) := by
            show classP _ _ = _
            have hm2 : R = none := by rw [← hm]; unfold membersP; rw [if_neg hex, hM]
            have hR2 := HR.out
            rw [hm2] at hR2
            unfold classP
            rw [HN.out]
            simp only [if_false, Bool.false_eq_true]
            rw [hR2]
          clear hm hM
          cases F
          · skip
            have HB : Hid (hasB s.data.toList j 93 = false) := by
              show hasB _ _ _ = _
              cases hb : hasB s.data.toList j 93 with
              | false => rfl
              | true => exact absurd ⟨rfl, hb⟩ HE.out
            clear h3 h4 h5 h6 h7 hex
            go_wp2_with (go_at_call 122; refine (sees_is b 0 s j hj 93 false HB.out _ HRd.out.at).mono ?_; rintro e w' ⟨rfl, n3, rfl⟩)
            refine (member_any b (w.heap.size + 1) hne s hs j hj ys S HSi.out _ ?hrd ?hset).mono ?_
            case hrd => exact HRd.out
            case hset => exact HSt.out
            rintro e w2 ⟨rfl, ho, hT⟩
            rw [HM.out]
            have HO2 : Hid (Only (fun k => k = b) w w2) := (HOn.out.drewN n3).trans ho (fun k hk e => by omega)
            have h6 : SetB w2 w.heap.size (fun _ => 0) := (ho.block w.heap.size (heap_lt HZ.out) (fun e => by omega)).trans HZ.out
            have HZ2 := hide h6
            have d0 : w2.cell? ⟨w.heap.size, 0, none⟩ = some (.int .u64 0) := cell_of h6 rfl
            have d1 : w2.cell? ⟨w.heap.size, 1, none⟩ = some (.int .u64 0) := cell_of h6 rfl
            have d2 : w2.cell? ⟨w.heap.size, 2, none⟩ = some (.int .u64 0) := cell_of h6 rfl
            have d3 : w2.cell? ⟨w.heap.size, 3, none⟩ = some (.int .u64 0) := cell_of h6 rfl
            have g0 := free_of h6 0
            have g1 := free_of h6 1
            have g2 := free_of h6 2
            have g3 := free_of h6 3
            clear h6 ho hT
            simp only [Option.isSome_none]
            go_wp2
            refine bodyPost_ret (v := .tuple #[.agg (setCs (fun _ => 0)), .bool false]) (by simp [results, Tryz.results269, go_sem, setCs, d0, d1, d2, d3]) rfl ⟨?_, fun _ => rfl, fun S' j' h => (by rw [HC.out] at h; cases h)⟩
            exact ((((HO2.out).setCell (p := ⟨w.heap.size, 0, none⟩) (hn 0) _).setCell (p := ⟨w.heap.size, 1, none⟩) (hn 1) _).setCell (p := ⟨w.heap.size, 2, none⟩) (hn 2) _).setCell (p := ⟨w.heap.size, 3, none⟩) (hn 3) _
          · skip
            clear h3 h4 h5 h6 h7 hex
            go_wp2_with fail
            refine (member_any b (w.heap.size + 1) hne s hs j hj ys S HSi.out _ ?hrd ?hset).mono ?_
            case hrd => exact HRd.out
            case hset => exact HSt.out
            rintro e w2 ⟨rfl, ho, hT⟩
            rw [HM.out]
            have HO2 : Hid (Only (fun k => k = b) w w2) := HOn.out.trans ho (fun k hk e => by omega)
            have h6 : SetB w2 w.heap.size (fun _ => 0) := (ho.block w.heap.size (heap_lt HZ.out) (fun e => by omega)).trans HZ.out
            have HZ2 := hide h6
            have d0 : w2.cell? ⟨w.heap.size, 0, none⟩ = some (.int .u64 0) := cell_of h6 rfl
            have d1 : w2.cell? ⟨w.heap.size, 1, none⟩ = some (.int .u64 0) := cell_of h6 rfl
            have d2 : w2.cell? ⟨w.heap.size, 2, none⟩ = some (.int .u64 0) := cell_of h6 rfl
            have d3 : w2.cell? ⟨w.heap.size, 3, none⟩ = some (.int .u64 0) := cell_of h6 rfl
            have g0 := free_of h6 0
            have g1 := free_of h6 1
            have g2 := free_of h6 2
            have g3 := free_of h6 3
            clear h6 ho hT
            simp only [Option.isSome_none]
            go_wp2
            refine bodyPost_ret (v := .tuple #[.agg (setCs (fun _ => 0)), .bool false]) (by simp [results, Tryz.results269, go_sem, setCs, d0, d1, d2, d3]) rfl ⟨?_, fun _ => rfl, fun S' j' h => (by rw [HC.out] at h; cases h)⟩
            exact ((((HO2.out).setCell (p := ⟨w.heap.size, 0, none⟩) (hn 0) _).setCell (p := ⟨w.heap.size, 1, none⟩) (hn 1) _).setCell (p := ⟨w.heap.size, 2, none⟩) (hn 2) _).setCell (p := ⟨w.heap.size, 3, none⟩) (hn 3) _
        | some Tk =>
          obtain ⟨T, k⟩ := Tk
          have HM := hide hM
          have HM1 : Hid (membersP m s.data.toList k false (orS S T) = R) := by
            show membersP _ _ _ _ _ = _
            rw [← hm]
            conv => rhs; unfold membersP
            rw [if_neg hex, hM]
          have hpg := memberP_prog hM
          rw [len_eq] at hpg
          clear hm hM
          cases F
          · skip
            have HB : Hid (hasB s.data.toList j 93 = false) := by
              show hasB _ _ _ = _
              cases hb : hasB s.data.toList j 93 with
              | false => rfl
              | true => exact absurd ⟨rfl, hb⟩ HE.out
            clear h3 h4 h5 h6 h7 hex
            go_wp2_with (go_at_call 122; refine (sees_is b 0 s j hj 93 false HB.out _ HRd.out.at).mono ?_; rintro e w' ⟨rfl, n3, rfl⟩)
            refine (member_any b (w.heap.size + 1) hne s hs j hj ys S HSi.out _ ?hrd ?hset).mono ?_
            case hrd => exact HRd.out
            case hset => exact HSt.out
            rintro e w2 ⟨rfl, ho, hT⟩
            rw [HM.out]
            have HO2 : Hid (Only (fun k => k = b) w w2) := (HOn.out.drewN n3).trans ho (fun k hk e => by omega)
            have h6 : SetB w2 w.heap.size (fun _ => 0) := (ho.block w.heap.size (heap_lt HZ.out) (fun e => by omega)).trans HZ.out
            have HZ2 := hide h6
            obtain ⟨hr2, zs, hz1, hz2⟩ := hT T k HM.out
            have HR2 := hide hr2
            have HZ1 := hide hz1
            have HZ3 := hide hz2
            have HP2 := hide (pos_of hr2)
            have HP1 := hide hpos
            clear h6 ho hT hr2 hz1 hz2 hpos
            simp only [Option.isSome_some]
            go_wp2
            go_roundw
            case rel => exact ⟨false, k, m, _, zs, rfl, hpg.2, by omega, HM1.out, HZ1.out, HR2.out, HZ3.out, HZ2.out, HO2.out⟩
            case measure => rw [HP2.out, HP1.out]; omega
          · skip
            clear h3 h4 h5 h6 h7 hex
            go_wp2_with fail
            refine (member_any b (w.heap.size + 1) hne s hs j hj ys S HSi.out _ ?hrd ?hset).mono ?_
            case hrd => exact HRd.out
            case hset => exact HSt.out
            rintro e w2 ⟨rfl, ho, hT⟩
            rw [HM.out]
            have HO2 : Hid (Only (fun k => k = b) w w2) := HOn.out.trans ho (fun k hk e => by omega)
            have h6 : SetB w2 w.heap.size (fun _ => 0) := (ho.block w.heap.size (heap_lt HZ.out) (fun e => by omega)).trans HZ.out
            have HZ2 := hide h6
            obtain ⟨hr2, zs, hz1, hz2⟩ := hT T k HM.out
            have HR2 := hide hr2
            have HZ1 := hide hz1
            have HZ3 := hide hz2
            have HP2 := hide (pos_of hr2)
            have HP1 := hide hpos
            clear h6 ho hT hr2 hz1 hz2 hpos
            simp only [Option.isSome_some]
            go_wp2
            go_roundw
            case rel => exact ⟨false, k, m, _, zs, rfl, hpg.2, by omega, HM1.out, HZ1.out, HR2.out, HZ3.out, HZ2.out, HO2.out⟩
            case measure => rw [HP2.out, HP1.out]; omega
  · have HN := hide hn
    have hlt0 := hasB_lt hn
    rw [len_eq] at hlt0
    clear hn
    obtain ⟨R, HR⟩ : ∃ R, Hid (membersP (s.data.toList.length + 1) s.data.toList (i + 1) true (fun _ => false) = R) := ⟨_, rfl⟩
    go_enter Tryz.func269, Tryz.ntmps269
    go_wp2_with (go_at_call 122; refine (sees_is b 0 s i hi 94 true HN.out _ (HR1 _ _).out.at).mono ?_; rintro e w' ⟨rfl, n1, rfl⟩)
    go_loopw [6] (fun f wr => ∃ (F : Bool) (j n : Nat) (S : UInt8 → Bool) (ys : Nat → Nat), f = .bool F ∧ j ≤ s.size ∧ s.size - j < n ∧ membersP n s.data.toList j F S = R ∧ SetIs ys S ∧ RdB wr b s j ∧ SetB wr (w.heap.size + 1) ys ∧ SetB wr w.heap.size (fun _ => 0) ∧ Only (fun k => k = b) w wr) (fun _ wr => s.size - posOf wr b)
    case atStart =>
      refine ⟨true, i + 1, _, _, fun _ => 0, rfl, by omega, by rw [len_eq]; omega, HR.out, SetIs.none, ((HR1 _ _).out.drewN n1).set (i + 1), ?_, ?_, ((((Only.refl (fun k => k = b) w).alloc _).alloc _).drewN _).setCell (p := ⟨b, 1, none⟩) (fun _ => rfl) _⟩
      · unfold SetB
        rw [Below.heap_setCell _ _ _ _ (show w.heap.size + 1 ≠ b by omega)]; exact new1 w _ _
      · unfold SetB
        rw [Below.heap_setCell _ _ _ _ (show w.heap.size ≠ b by omega)]; exact old1 w _ _
    case round =>
      obtain ⟨F, j, n, S, ys, rfl, hj, hn, hm, h3, h4, h5, h6, h7⟩ := hrel
      obtain ⟨m, rfl⟩ : ∃ m, n = m + 1 := ⟨n - 1, by omega⟩
      have HRd := hide h4
      have HSi := hide h3
      have HSt := hide h5
      have HZ := hide h6
      have HOn := hide h7
      have hbw : b ≠ w.heap.size := by omega
      have hbw1 : w.heap.size + 1 ≠ b := by omega
      have hn1 : ∀ o, w.heap.size + 1 < w.heap.size → (fun k => k = b) (Addr.block ⟨w.heap.size + 1, o, none⟩) := fun _ h => by omega
      have hn : ∀ o, w.heap.size < w.heap.size → (fun k => k = b) (Addr.block ⟨w.heap.size, o, none⟩) := fun _ h => absurd h (Nat.lt_irrefl _)
      have hpos := pos_of h4
      by_cases hex : F = false ∧ hasB s.data.toList j 93 = true
      · obtain ⟨rfl, hb⟩ := hex
        have HB := hide hb
        have hlt := hasB_lt hb
        rw [len_eq] at hlt
        have HC : Hid (classP s.data.toList i = some (notS S, j + 1)) := by
          show classP _ _ = _
          have hm2 : R = some (S, j + 1) := by rw [← hm]; unfold membersP; rw [if_pos ⟨rfl, hb⟩]
          have hR2 := HR.out
          rw [hm2] at hR2
          unfold classP
          rw [HN.out]
          simp only [if_true]
          rw [hR2]
        have c1 : wr.cell? ⟨b, 1, none⟩ = some (.int .i64 j) := h4.at.2
        have f1 : wr.frozen? ⟨b, 1, none⟩ = false := h4.free 1
        have e0 : wr.cell? ⟨w.heap.size + 1, 0, none⟩ = some (.int .u64 (ys 0)) := cell_of h5 rfl
        have e1 : wr.cell? ⟨w.heap.size + 1, 1, none⟩ = some (.int .u64 (ys 1)) := cell_of h5 rfl
        have e2 : wr.cell? ⟨w.heap.size + 1, 2, none⟩ = some (.int .u64 (ys 2)) := cell_of h5 rfl
        have e3 : wr.cell? ⟨w.heap.size + 1, 3, none⟩ = some (.int .u64 (ys 3)) := cell_of h5 rfl
        have d0 : wr.cell? ⟨w.heap.size, 0, none⟩ = some (.int .u64 0) := cell_of h6 rfl
        have d1 : wr.cell? ⟨w.heap.size, 1, none⟩ = some (.int .u64 0) := cell_of h6 rfl
        have d2 : wr.cell? ⟨w.heap.size, 2, none⟩ = some (.int .u64 0) := cell_of h6 rfl
        have d3 : wr.cell? ⟨w.heap.size, 3, none⟩ = some (.int .u64 0) := cell_of h6 rfl
        have g0 := free_of h6 0
        have g1 := free_of h6 1
        have g2 := free_of h6 2
        have g3 := free_of h6 3
        clear h3 h4 h5 h6 h7 hb hm
        go_wp2_with (go_at_call 122; refine (sees_is b 0 s j hj 93 true HB.out _ HRd.out.at).mono ?_; rintro e w' ⟨rfl, n3, rfl⟩)
        refine (others_any ys S HSi.out _).mono ?_
        rintro e w3 ⟨zs, rfl, hz, ho⟩
        have hr3 : RdB w3 b s (j + 1) := RdB.only ((HRd.out.drewN n3).set (j + 1)) ho (fun h => h)
        have h5 : SetB w3 (w.heap.size + 1) ys := by
          have h8 : SetB ((wr.drewN n3).setCell ⟨b, 1, none⟩ (.int .i64 ((j + 1 : Nat) : Int))) (w.heap.size + 1) ys := by
            unfold SetB
            rw [Below.heap_setCell _ _ _ _ hbw1]; exact HSt.out
          exact (ho.block _ (heap_lt h8) (fun h => h)).trans h8
        have h6 : SetB w3 w.heap.size (fun _ => 0) := by
          have h8 : SetB ((wr.drewN n3).setCell ⟨b, 1, none⟩ (.int .i64 ((j + 1 : Nat) : Int))) w.heap.size (fun _ => 0) := by
            unfold SetB
            rw [Below.heap_setCell _ _ _ _ (Ne.symm hbw)]; exact HZ.out
          exact (ho.block _ (heap_lt h8) (fun h => h)).trans h8
        have HO3 : Hid (Only (fun k => k = b) w w3) := ((HOn.out.drewN n3).setCell (p := ⟨b, 1, none⟩) (fun _ => rfl) _).trans ho (fun k _ h => h.elim)
        have HR3 := hide hr3
        have HZ3 := hide hz
        clear e0 e1 e2 e3 d0 d1 d2 d3 g0 g1 g2 g3
        have e0 : w3.cell? ⟨w.heap.size + 1, 0, none⟩ = some (.int .u64 (ys 0)) := cell_of h5 rfl
        have d0 : w3.cell? ⟨w.heap.size, 0, none⟩ = some (.int .u64 0) := cell_of h6 rfl
        have p0 := free_of h5 0
        have g0 := free_of h6 0
        have e1 : w3.cell? ⟨w.heap.size + 1, 1, none⟩ = some (.int .u64 (ys 1)) := cell_of h5 rfl
        have d1 : w3.cell? ⟨w.heap.size, 1, none⟩ = some (.int .u64 0) := cell_of h6 rfl
        have p1 := free_of h5 1
        have g1 := free_of h6 1
        have e2 : w3.cell? ⟨w.heap.size + 1, 2, none⟩ = some (.int .u64 (ys 2)) := cell_of h5 rfl
        have d2 : w3.cell? ⟨w.heap.size, 2, none⟩ = some (.int .u64 0) := cell_of h6 rfl
        have p2 := free_of h5 2
        have g2 := free_of h6 2
        have e3 : w3.cell? ⟨w.heap.size + 1, 3, none⟩ = some (.int .u64 (ys 3)) := cell_of h5 rfl
        have d3 : w3.cell? ⟨w.heap.size, 3, none⟩ = some (.int .u64 0) := cell_of h6 rfl
        have p3 := free_of h5 3
        have g3 := free_of h6 3
        clear hr3 h5 h6 hz ho
        unfold setCs
        go_wp2
        refine bodyPost_ret (v := .tuple #[.agg (setCs zs), .bool true]) (by simp [results, Tryz.results269, go_sem, setCs, d0, d1, d2, d3]) rfl ⟨?_, fun h => (by rw [HC.out] at h; cases h), fun S' j' h => ?_⟩
        · exact ((((((((HO3.out.setCell (p := ⟨w.heap.size + 1, 0, none⟩) (hn1 0) _).setCell (p := ⟨w.heap.size + 1, 1, none⟩) (hn1 1) _).setCell (p := ⟨w.heap.size + 1, 2, none⟩) (hn1 2) _).setCell (p := ⟨w.heap.size + 1, 3, none⟩) (hn1 3) _).setCell (p := ⟨w.heap.size, 0, none⟩) (hn 0) _).setCell (p := ⟨w.heap.size, 1, none⟩) (hn 1) _).setCell (p := ⟨w.heap.size, 2, none⟩) (hn 2) _).setCell (p := ⟨w.heap.size, 3, none⟩) (hn 3) _)
        · rw [HC.out] at h
          cases h
          refine ⟨zs, rfl, HZ3.out, ?_⟩
          unfold RdB
          rw [Below.heap_setCell _ _ _ _ hbw, Below.heap_setCell _ _ _ _ hbw, Below.heap_setCell _ _ _ _ hbw, Below.heap_setCell _ _ _ _ hbw, Below.heap_setCell _ _ _ _ (Ne.symm hbw1), Below.heap_setCell _ _ _ _ (Ne.symm hbw1), Below.heap_setCell _ _ _ _ (Ne.symm hbw1), Below.heap_setCell _ _ _ _ (Ne.symm hbw1)]
          exact HR3.out
      · have hne : ¬ b = w.heap.size + 1 := by omega
        have hnp : ¬ w.heap.size = b ∧ ¬ w.heap.size = w.heap.size + 1 := by omega
        have HM0 : Hid (membersP (m + 1) s.data.toList j F S = R) := hm
        have HE := hide hex
        cases hM : memberP s.data.toList j with
        | none =>
          have HM := hide hM
          have HC : Hid (classP s.data.toList i = none) := by
            show classP _ _ = _
            have hm2 : R = none := by rw [← hm]; unfold membersP; rw [if_neg hex, hM]
            have hR2 := HR.out
            rw [hm2] at hR2
            unfold classP
            rw [HN.out]
            simp only [if_true]
            rw [hR2]
          clear hm hM
          cases F
          · skip
            have HB : Hid (hasB s.data.toList j 93 = false) := by
              show hasB _ _ _ = _
              cases hb : hasB s.data.toList j 93 with
              | false => rfl
              | true => exact absurd ⟨rfl, hb⟩ HE.out
            clear h3 h4 h5 h6 h7 hex
            go_wp2_with (go_at_call 122; refine (sees_is b 0 s j hj 93 false HB.out _ HRd.out.at).mono ?_; rintro e w' ⟨rfl, n3, rfl⟩)
            refine (member_any b (w.heap.size + 1) hne s hs j hj ys S HSi.out _ ?hrd ?hset).mono ?_
            case hrd => exact HRd.out
            case hset => exact HSt.out
            rintro e w2 ⟨rfl, ho, hT⟩
            rw [HM.out]
            have HO2 : Hid (Only (fun k => k = b) w w2) := (HOn.out.drewN n3).trans ho (fun k hk e => by omega)
            have h6 : SetB w2 w.heap.size (fun _ => 0) := (ho.block w.heap.size (heap_lt HZ.out) (fun e => by omega)).trans HZ.out
            have HZ2 := hide h6
            have d0 : w2.cell? ⟨w.heap.size, 0, none⟩ = some (.int .u64 0) := cell_of h6 rfl
            have d1 : w2.cell? ⟨w.heap.size, 1, none⟩ = some (.int .u64 0) := cell_of h6 rfl
            have d2 : w2.cell? ⟨w.heap.size, 2, none⟩ = some (.int .u64 0) := cell_of h6 rfl
            have d3 : w2.cell? ⟨w.heap.size, 3, none⟩ = some (.int .u64 0) := cell_of h6 rfl
            have g0 := free_of h6 0
            have g1 := free_of h6 1
            have g2 := free_of h6 2
            have g3 := free_of h6 3
            clear h6 ho hT
            simp only [Option.isSome_none]
            go_wp2
            refine bodyPost_ret (v := .tuple #[.agg (setCs (fun _ => 0)), .bool false]) (by simp [results, Tryz.results269, go_sem, setCs, d0, d1, d2, d3]) rfl ⟨?_, fun _ => rfl, fun S' j' h => (by rw [HC.out] at h; cases h)⟩
            exact ((((HO2.out).setCell (p := ⟨w.heap.size, 0, none⟩) (hn 0) _).setCell (p := ⟨w.heap.size, 1, none⟩) (hn 1) _).setCell (p := ⟨w.heap.size, 2, none⟩) (hn 2) _).setCell (p := ⟨w.heap.size, 3, none⟩) (hn 3) _
          · skip
            clear h3 h4 h5 h6 h7 hex
            go_wp2_with fail
            refine (member_any b (w.heap.size + 1) hne s hs j hj ys S HSi.out _ ?hrd ?hset).mono ?_
            case hrd => exact HRd.out
            case hset => exact HSt.out
            rintro e w2 ⟨rfl, ho, hT⟩
            rw [HM.out]
            have HO2 : Hid (Only (fun k => k = b) w w2) := HOn.out.trans ho (fun k hk e => by omega)
            have h6 : SetB w2 w.heap.size (fun _ => 0) := (ho.block w.heap.size (heap_lt HZ.out) (fun e => by omega)).trans HZ.out
            have HZ2 := hide h6
            have d0 : w2.cell? ⟨w.heap.size, 0, none⟩ = some (.int .u64 0) := cell_of h6 rfl
            have d1 : w2.cell? ⟨w.heap.size, 1, none⟩ = some (.int .u64 0) := cell_of h6 rfl
            have d2 : w2.cell? ⟨w.heap.size, 2, none⟩ = some (.int .u64 0) := cell_of h6 rfl
            have d3 : w2.cell? ⟨w.heap.size, 3, none⟩ = some (.int .u64 0) := cell_of h6 rfl
            have g0 := free_of h6 0
            have g1 := free_of h6 1
            have g2 := free_of h6 2
            have g3 := free_of h6 3
            clear h6 ho hT
            simp only [Option.isSome_none]
            go_wp2
            refine bodyPost_ret (v := .tuple #[.agg (setCs (fun _ => 0)), .bool false]) (by simp [results, Tryz.results269, go_sem, setCs, d0, d1, d2, d3]) rfl ⟨?_, fun _ => rfl, fun S' j' h => (by rw [HC.out] at h; cases h)⟩
            exact ((((HO2.out).setCell (p := ⟨w.heap.size, 0, none⟩) (hn 0) _).setCell (p := ⟨w.heap.size, 1, none⟩) (hn 1) _).setCell (p := ⟨w.heap.size, 2, none⟩) (hn 2) _).setCell (p := ⟨w.heap.size, 3, none⟩) (hn 3) _
        | some Tk =>
          obtain ⟨T, k⟩ := Tk
          have HM := hide hM
          have HM1 : Hid (membersP m s.data.toList k false (orS S T) = R) := by
            show membersP _ _ _ _ _ = _
            rw [← hm]
            conv => rhs; unfold membersP
            rw [if_neg hex, hM]
          have hpg := memberP_prog hM
          rw [len_eq] at hpg
          clear hm hM
          cases F
          · skip
            have HB : Hid (hasB s.data.toList j 93 = false) := by
              show hasB _ _ _ = _
              cases hb : hasB s.data.toList j 93 with
              | false => rfl
              | true => exact absurd ⟨rfl, hb⟩ HE.out
            clear h3 h4 h5 h6 h7 hex
            go_wp2_with (go_at_call 122; refine (sees_is b 0 s j hj 93 false HB.out _ HRd.out.at).mono ?_; rintro e w' ⟨rfl, n3, rfl⟩)
            refine (member_any b (w.heap.size + 1) hne s hs j hj ys S HSi.out _ ?hrd ?hset).mono ?_
            case hrd => exact HRd.out
            case hset => exact HSt.out
            rintro e w2 ⟨rfl, ho, hT⟩
            rw [HM.out]
            have HO2 : Hid (Only (fun k => k = b) w w2) := (HOn.out.drewN n3).trans ho (fun k hk e => by omega)
            have h6 : SetB w2 w.heap.size (fun _ => 0) := (ho.block w.heap.size (heap_lt HZ.out) (fun e => by omega)).trans HZ.out
            have HZ2 := hide h6
            obtain ⟨hr2, zs, hz1, hz2⟩ := hT T k HM.out
            have HR2 := hide hr2
            have HZ1 := hide hz1
            have HZ3 := hide hz2
            have HP2 := hide (pos_of hr2)
            have HP1 := hide hpos
            clear h6 ho hT hr2 hz1 hz2 hpos
            simp only [Option.isSome_some]
            go_wp2
            go_roundw
            case rel => exact ⟨false, k, m, _, zs, rfl, hpg.2, by omega, HM1.out, HZ1.out, HR2.out, HZ3.out, HZ2.out, HO2.out⟩
            case measure => rw [HP2.out, HP1.out]; omega
          · skip
            clear h3 h4 h5 h6 h7 hex
            go_wp2_with fail
            refine (member_any b (w.heap.size + 1) hne s hs j hj ys S HSi.out _ ?hrd ?hset).mono ?_
            case hrd => exact HRd.out
            case hset => exact HSt.out
            rintro e w2 ⟨rfl, ho, hT⟩
            rw [HM.out]
            have HO2 : Hid (Only (fun k => k = b) w w2) := HOn.out.trans ho (fun k hk e => by omega)
            have h6 : SetB w2 w.heap.size (fun _ => 0) := (ho.block w.heap.size (heap_lt HZ.out) (fun e => by omega)).trans HZ.out
            have HZ2 := hide h6
            obtain ⟨hr2, zs, hz1, hz2⟩ := hT T k HM.out
            have HR2 := hide hr2
            have HZ1 := hide hz1
            have HZ3 := hide hz2
            have HP2 := hide (pos_of hr2)
            have HP1 := hide hpos
            clear h6 ho hT hr2 hz1 hz2 hpos
            simp only [Option.isSome_some]
            go_wp2
            go_roundw
            case rel => exact ⟨false, k, m, _, zs, rfl, hpg.2, by omega, HM1.out, HZ1.out, HR2.out, HZ3.out, HZ2.out, HO2.out⟩
            case measure => rw [HP2.out, HP1.out]; omega
end Go.Proofs.YtdbdbaepmdmnfaaGreatDoor

namespace Go.Proofs.YtdbdbaepmdmnfaaGreatDoor
open Go.RowKit
def CellsAt (w : World) (g o : Nat) (cs : List Value) : Prop := ∀ j v, cs[j]? = some v → w.cell? ⟨g, o + j, none⟩ = some v
/-- A node's six cells. -/
def nodeCs (kind : Int) (xs : Nat → Nat) (po : Option Addr) (n cap : Nat) : List Value := [.int .i64 kind, .int .u64 (xs 0), .int .u64 (xs 1), .int .u64 (xs 2), .int .u64 (xs 3), .slice po n cap]
/-- What a node means whose parts mean Rs. -/
def NodeIs (kind : Int) (xs : Nat → Nat) (Rs : List Pat) (R : Pat) : Prop :=
  (kind = 0 ∧ ∃ S, SetIs xs S ∧ R = byteR S) ∨ (kind = 1 ∧ R = beginR) ∨ (kind = 2 ∧ R = endR) ∨ (kind = 3 ∧ R = rowR Rs) ∨ (kind = 4 ∧ Rs ≠ [] ∧ R = altR Rs) ∨
  (kind = 5 ∧ ∃ A, Rs = [A] ∧ R = starR A) ∨ (kind = 6 ∧ ∃ A, Rs = [A] ∧ R = plusR A) ∨ (kind = 7 ∧ ∃ A, Rs = [A] ∧ R = optR A)
/-- How many states a node makes besides its parts' own. -/
def costOf (kind : Int) (n : Nat) : Nat := if kind = 3 then 0 else if kind = 4 then n - 1 else 1
/-- These six cells are a node that means R; the parts lie in blocks of F; d levels at most, N states at most. -/
def Den : Nat → Nat → World → (Nat → Prop) → List Value → Pat → Prop
  | 0, _, _, _, _, _ => False
  | d + 1, N, w, F, cs, R => ∃ (kind : Int) (xs : Nat → Nat) (po : Option Addr) (n cap : Nat) (Rs : List Pat) (Ns : List Nat), cs = nodeCs kind xs po n cap ∧ NodeIs kind xs Rs R ∧ Rs.length = n ∧ (n ≤ maxLen ∧ n ≤ cap) ∧ Ns.length = n ∧ costOf kind n + Ns.sum ≤ N ∧
      (n = 0 ∨ ∃ g, po = some ⟨g, 0, none⟩ ∧ F g ∧ g < w.heap.size ∧ ∀ i A M, Rs[i]? = some A → Ns[i]? = some M → ∃ cs', CellsAt w g (i * 6) cs' ∧ Den d M w F cs' A)
theorem CellsAt.of {w w' : World} {g o : Nat} {cs : List Value} (h : CellsAt w g o cs) (hb : w'.heap[g]? = w.heap[g]?) : CellsAt w' g o cs := fun j v hv => by
  rw [World.cell?_of_block (w := w) (a := ⟨g, o + j, none⟩) hb]; exact h j v hv
theorem Den.frame {d N : Nat} {w w' : World} {F : Nat → Prop} {cs : List Value} {R : Pat} (h : Den d N w F cs R) (hs : w.heap.size ≤ w'.heap.size) (hf : ∀ g, F g → g < w.heap.size → w'.heap[g]? = w.heap[g]?) : Den d N w' F cs R := by
  induction d generalizing N cs R with
  | zero => exact h
  | succ d ih =>
    obtain ⟨kind, xs, po, n, cap, Rs, Ns, h1, h2, h3, h4, ha, hb, h5⟩ := h
    refine ⟨kind, xs, po, n, cap, Rs, Ns, h1, h2, h3, h4, ha, hb, ?_⟩
    rcases h5 with h5 | ⟨g, h6, h7, h8, h9⟩
    · exact Or.inl h5
    · refine Or.inr ⟨g, h6, h7, Nat.lt_of_lt_of_le h8 hs, fun i A M hA hM => ?_⟩
      obtain ⟨cs', h10, h11⟩ := h9 i A M hA hM
      exact ⟨cs', h10.of (hf g h7 h8), ih h11⟩
theorem Den.mono {d N : Nat} {w : World} {F G : Nat → Prop} {cs : List Value} {R : Pat} (h : Den d N w F cs R) (hf : ∀ g, g < w.heap.size → F g → G g) : Den d N w G cs R := by
  induction d generalizing N cs R with
  | zero => exact h
  | succ d ih =>
    obtain ⟨kind, xs, po, n, cap, Rs, Ns, h1, h2, h3, h4, ha, hb, h5⟩ := h
    refine ⟨kind, xs, po, n, cap, Rs, Ns, h1, h2, h3, h4, ha, hb, ?_⟩
    rcases h5 with h5 | ⟨g, h6, h7, h8, h9⟩
    · exact Or.inl h5
    · refine Or.inr ⟨g, h6, hf g h8 h7, h8, fun i A M hA hM => ?_⟩
      obtain ⟨cs', h10, h11⟩ := h9 i A M hA hM
      exact ⟨cs', h10, ih h11⟩
theorem Den.up {d e N : Nat} {w : World} {F : Nat → Prop} {cs : List Value} {R : Pat} (h : Den d N w F cs R) (hd : d ≤ e) : Den e N w F cs R := by
  induction d generalizing e N cs R with
  | zero => exact h.elim
  | succ d ih =>
    obtain ⟨e, rfl⟩ : ∃ e', e = e' + 1 := ⟨e - 1, by omega⟩
    obtain ⟨kind, xs, po, n, cap, Rs, Ns, h1, h2, h3, h4, ha, hb, h5⟩ := h
    refine ⟨kind, xs, po, n, cap, Rs, Ns, h1, h2, h3, h4, ha, hb, ?_⟩
    rcases h5 with h5 | ⟨g, h6, h7, h8, h9⟩
    · exact Or.inl h5
    · refine Or.inr ⟨g, h6, h7, h8, fun i A M hA hM => ?_⟩
      obtain ⟨cs', h10, h11⟩ := h9 i A M hA hM
      exact ⟨cs', h10, ih h11 (by omega)⟩
theorem Den.more {d N M : Nat} {w : World} {F : Nat → Prop} {cs : List Value} {R : Pat} (h : Den d N w F cs R) (hd : N ≤ M) : Den d M w F cs R := by
  cases d with
  | zero => exact h.elim
  | succ d =>
    obtain ⟨kind, xs, po, n, cap, Rs, Ns, h1, h2, h3, h4, ha, hb, h5⟩ := h
    exact ⟨kind, xs, po, n, cap, Rs, Ns, h1, h2, h3, h4, ha, Nat.le_trans hb hd, h5⟩
theorem Den.only {d N : Nat} {w w' : World} {F D : Nat → Prop} {cs : List Value} {R : Pat} (h : Den d N w F cs R) (ho : Only D w w') (hd : ∀ g, F g → ¬ D g) : Den d N w' F cs R :=
  h.frame ho.size (fun g hg hl => ho.block g hl (hd g hg))
/-- A node of one byte. -/
theorem den_byte {w F xs S cap po} (h : SetIs xs S) : Den 1 1 w F (nodeCs 0 xs po 0 cap) (byteR S) := ⟨0, xs, po, 0, cap, [], [], rfl, Or.inl ⟨rfl, S, h, rfl⟩, rfl, ⟨Nat.zero_le _, Nat.zero_le _⟩, rfl, by decide, Or.inl rfl⟩
theorem den_begin {w F xs cap po} : Den 1 1 w F (nodeCs 1 xs po 0 cap) beginR := ⟨1, xs, po, 0, cap, [], [], rfl, Or.inr (Or.inl ⟨rfl, rfl⟩), rfl, ⟨Nat.zero_le _, Nat.zero_le _⟩, rfl, by decide, Or.inl rfl⟩
theorem den_end {w F xs cap po} : Den 1 1 w F (nodeCs 2 xs po 0 cap) endR := ⟨2, xs, po, 0, cap, [], [], rfl, Or.inr (Or.inr (Or.inl ⟨rfl, rfl⟩)), rfl, ⟨Nat.zero_le _, Nat.zero_le _⟩, rfl, by decide, Or.inl rfl⟩
theorem den_empty {w F xs cap po} : Den 1 0 w F (nodeCs 3 xs po 0 cap) emptyR := ⟨3, xs, po, 0, cap, [], [], rfl, Or.inr (Or.inr (Or.inr (Or.inl ⟨rfl, rfl⟩))), rfl, ⟨Nat.zero_le _, Nat.zero_le _⟩, rfl, by decide, Or.inl rfl⟩
end Go.Proofs.YtdbdbaepmdmnfaaGreatDoor
namespace Go.Proofs.YtdbdbaepmdmnfaaGreatDoor
open Go.RowKit
def nodeAg (kind : Int) (xs : Nat → Nat) (po : Option Addr) (n cap : Nat) : Array Value := #[.int .i64 kind, .int .u64 (xs 0), .int .u64 (xs 1), .int .u64 (xs 2), .int .u64 (xs 3), .slice po n cap]
/-- What a reader of a part answers. -/
def NodePost (b : Nat) (s : ByteArray) (i : Nat) (w : World) (res : Option (Pat × Nat)) (e : Ending) (w' : World) : Prop :=
  Only (fun k => k = b) w w' ∧ ∃ (kind : Int) (xs : Nat → Nat) (po : Option Addr) (n cap : Nat), e = .returned (.tuple #[.agg (nodeAg kind xs po n cap), .bool res.isSome]) ∧
    ∀ R j, res = some (R, j) → RdB w' b s j ∧ ∃ d, Den d (j - i) w' (fun g => w.heap.size ≤ g) (nodeCs kind xs po n cap) R
def ChoiceOK (f : Nat) : Prop := ∀ (b : Nat) (s : ByteArray) (i : Nat) (w : World), RdB w b s i → i ≤ s.size → s.size ≤ maxLen → s.size ≤ 65536 → s.size - i < f → Calls Tryz.prog 83 #[.pointer (some ⟨b, 0, none⟩)] w (NodePost b s i w (choiceP s.data.toList f i))
end Go.Proofs.YtdbdbaepmdmnfaaGreatDoor
namespace Go.Proofs.YtdbdbaepmdmnfaaGreatDoor
open Go.RowKit
/-- Where the row lies behind an append: where it lay, or in a new block. -/
def Moved (w : World) (v v' : Value) : Prop := ∃ G, v'.ownBlock = some G ∧ (v.ownBlock = some G ∨ w.heap.size ≤ G)
theorem wpList_append_sep {P : Program} (w : World) {ops : Array Oper} {rest : List Oper} {o : Oper} {a : Act} {Q : Exit → Act → World → Prop} (hgd : o.guard = none) (s x : Operand) (t : TypeId)
    (ho : o.op = .call { callee := .builtin .append, args := #[s, x], argTypes := #[t, t] })
    (base : Nat) (e : TypeId) (i : TypeInfo) (z : Value) (size bytes : Nat) (ht : P.underlying t = some (.slice e)) (hi : P.info? e = some i) (hz : i.zero = some z)
    (hsize : i.size = size) (hby : i.bytes = bytes) (hzs : z.cells.size = size) (hsz : 0 < size)
    (v : Value) (n : Nat) (xs : List Value) (hs : a.eval s = v) (hown : w.ownsRow base e size v n xs)
    (ad : Addr) (m c : Nat) (news : List Value) (hx : a.eval x = .slice (some ad) m c) (hl : news.length = m * size) (hnews : ∀ j u, news[j]? = some u → w.cell? (ad.add j) = some u) (h1 : ∀ u ∈ news, u.oneCell' = true)
    (h0 : 0 < m) (h63 : n + m ≤ maxLen) (hbytes : (n + m) * bytes ≤ 140737488355328) (hbase : base ≤ w.heap.size)
    (h : ∀ v' w', w'.ownsRow base e size v' (n + m) (xs ++ news) → w.grownBy w' v.ownBlock → Moved w v v' → wpList P ops Q rest (a.put o.dst v') w') : wpList P ops Q (o :: rest) a w := by
  refine wpList_plain hgd fun K hK => ?_
  obtain ⟨v', w', hr, h2, h3, h4⟩ := run_append_own (P := P) w base t o.type e i z size bytes ht hi hz hsize hby hzs hsz v n xs hown ad m c news hl hnews h1 h63 hbytes hbase
  have hmv : Moved w v v' := by
    have hsmall : n + m ≤ 9223372036854775807 := by simp only [maxLen] at h63; omega
    rcases hown.2 with ⟨rfl, rfl⟩ | ⟨g, cap, cur, rfl, hbg, hg, hnc, hcm, hcs, htake⟩
    · subst hsize; subst hby
      rw [run_append_nil (P := P) w t o.type e i z ht hi hz ad m c news hl hnews h0 (by omega) (by rw [Nat.zero_add] at hbytes; omega)] at hr
      injection hr with hv _
      subst hv
      exact ⟨w.heap.size, rfl, Or.inr (Nat.le_refl _)⟩
    · subst hsize; subst hby
      by_cases hroom : n + m ≤ cap
      · have hfit : n * i.size + news.length ≤ cur.size := by rw [hl, hcs, ← Nat.add_mul]; exact Nat.mul_le_mul_right _ hroom
        rw [run_append_room (P := P) w t o.type e i ht hi g n cap cur hg ad m c news hl hnews h1 hroom hfit] at hr
        injection hr with hv _
        subst hv
        exact ⟨g, rfl, Or.inl rfl⟩
      · rcases h2.2 with ⟨_, hn0⟩ | ⟨g', cap', cur', hv', hbg', hg', hnc', hcm', hcs', htake'⟩
        · omega
        · have hr' := run_append_grow (P := P) w t o.type e i z ht hi hz ⟨g, 0, none⟩ n cap xs hown.1 (hown.cells (g := g) rfl) ad m c news hl hnews (by omega) (by omega) (growslice_fits (by omega) hbytes)
          rw [hr'] at hr
          injection hr with hv _
          subst hv
          exact ⟨w.heap.size, rfl, Or.inr (Nat.le_refl _)⟩
  unfold Oper.wp execOp
  simp only [ho, resolve, invoke, builtin, Sem.run_bind, Sem.run_pure, Result.andThen_ok, List.map_toArray, List.map_cons, List.map_nil, hs, hx, hr]
  exact hK _ _ (h v' w' h2 h3 hmv)
theorem ownsRow_of {w w' : World} {base : Nat} {e : TypeId} {size : Nat} {v : Value} {n : Nat} {xs : List Value} (h : w.ownsRow base e size v n xs) (hb : ∀ k, v.ownBlock = some k → w'.heap[k]? = w.heap[k]?) : w'.ownsRow base e size v n xs := by
  refine ⟨h.1, ?_⟩
  rcases h.2 with h2 | ⟨g, cap, cur, hv, h3, h4, h5⟩
  · exact Or.inl h2
  · subst hv
    exact Or.inr ⟨g, cap, cur, rfl, h3, (hb g rfl).trans h4, h5⟩
theorem ownsRow_slice {w : World} {base : Nat} {e : TypeId} {size : Nat} {v : Value} {n : Nat} {xs : List Value} (h : w.ownsRow base e size v n xs) : ∃ po cap, v = .slice po n cap := by
  rcases h.2 with ⟨h2, h3⟩ | ⟨g, cap, cur, hv, _⟩
  · subst h3; exact ⟨none, 0, h2⟩
  · exact ⟨_, _, hv⟩
/-- A row of nodes that means acc, its parts in blocks from base on, N states at most. -/
def PartsOf (d N : Nat) (xs : List Value) (w : World) (base : Nat) (v : Value) (acc : List Pat) : Prop :=
  w.ownsRow base 118 6 v acc.length xs ∧ ∃ Ns : List Nat, Ns.length = acc.length ∧ Ns.sum ≤ N ∧ ∀ k A M, acc[k]? = some A → Ns[k]? = some M → ∃ cs, (∀ j u, cs[j]? = some u → xs[k * 6 + j]? = some u) ∧ Den d M w (fun g => base ≤ g ∧ some g ≠ v.ownBlock) cs A
theorem PartsOf.nil (w : World) (base : Nat) (N : Nat) : PartsOf 0 N [] w base (.slice none 0 0) [] := ⟨World.ownsRow_nil _ _ _ _, [], rfl, Nat.zero_le _, fun k A M h => by simp at h⟩
theorem PartsOf.only {d N xs w w' base v acc D} (h : PartsOf d N xs w base v acc) (ho : Only D w w') (hD : ∀ k, base ≤ k → k < w.heap.size → ¬ D k) : PartsOf d N xs w' base v acc := by
  obtain ⟨h1, Ns, h2, h3, h4⟩ := h
  refine ⟨ownsRow_of h1 (fun k hk => ?_), Ns, h2, h3, fun k A M hA hM => ?_⟩
  · have := h1.lt k hk
    exact ho.block k this.2 (hD k this.1 this.2)
  · obtain ⟨cs, h1, h2⟩ := h4 k A M hA hM
    exact ⟨cs, h1, h2.frame ho.size (fun g hg hl => ho.block g hl (hD g hg.1 hl))⟩
theorem PartsOf.more {d N N' xs w base v acc} (h : PartsOf d N xs w base v acc) (hN : N ≤ N') : PartsOf d N' xs w base v acc := by
  obtain ⟨h1, Ns, h2, h3, h4⟩ := h
  exact ⟨h1, Ns, h2, Nat.le_trans h3 hN, h4⟩
theorem PartsOf.push {d N xs w w' base v v' acc B cs R d' N'} (h : PartsOf d N xs w base v acc) (hB : ∀ k, v.ownBlock = some k → k < B) (hbB : base ≤ B) (hd : Den d' N' w (fun g => B ≤ g) cs R)
    (ho : w'.ownsRow base 118 6 v' (acc.length + 1) (xs ++ cs)) (hg : w.grownBy w' v.ownBlock) (hm : Moved w v v') : PartsOf (max d d') (N + N') (xs ++ cs) w' base v' (acc ++ [R]) := by
  obtain ⟨hh1, Ns, hh2, hh3, hh4⟩ := h
  have hl : xs.length = acc.length * 6 := hh1.1
  have key : ∀ e M ys A, Den e M w (fun g => base ≤ g ∧ some g ≠ v.ownBlock) ys A → Den e M w' (fun g => base ≤ g ∧ some g ≠ v'.ownBlock) ys A := by
    intro e M ys A hA
    obtain ⟨G, hG, hG2⟩ := hm
    have h1 : Den e M w (fun g => (base ≤ g ∧ some g ≠ v'.ownBlock) ∧ some g ≠ v.ownBlock) ys A := hA.mono (fun g hl hg => ⟨⟨hg.1, fun e => by
      rw [hG] at e
      cases e
      rcases hG2 with h | h
      · exact hg.2 h.symm
      · omega⟩, hg.2⟩)
    exact (h1.frame (w' := w') hg.size (fun g hg1 hl => hg.block g hl hg1.2)).mono (fun g _ hg => hg.1)
  refine ⟨by simpa using ho, Ns ++ [N'], by simp [hh2], by simp; omega, fun k A M hA hM => ?_⟩
  by_cases hk : k < acc.length
  · rw [List.getElem?_append_left hk] at hA
    rw [List.getElem?_append_left (by omega)] at hM
    obtain ⟨ys, h1, h2⟩ := hh4 k A M hA hM
    refine ⟨ys, fun j u hj => ?_, (key _ _ _ _ h2).up (Nat.le_max_left _ _)⟩
    have h3 := h1 j u hj
    rw [List.getElem?_append_left (List.getElem?_eq_some_iff.1 h3).1]
    exact h3
  · rw [List.getElem?_append_right (by omega)] at hA
    rw [List.getElem?_append_right (by omega)] at hM
    have hk' : k = acc.length := by
      have := (List.getElem?_eq_some_iff.1 hA).1
      simp at this; omega
    subst hk'
    rw [hh2] at hM
    simp at hA hM
    subst hA
    subst hM
    refine ⟨cs, fun j u hj => ?_, (key _ _ _ _ (hd.mono (fun g _ hg => ⟨Nat.le_trans hbB hg, fun e => ?_⟩))).up (Nat.le_max_right _ _)⟩
    · rw [List.getElem?_append_right (by omega), hl, Nat.add_sub_cancel_left]; exact hj
    · have := hB g e.symm; omega
theorem PartsOf.den {d N M xs w base v acc} (h : PartsOf d N xs w base v acc) (kind : Int) (ys : Nat → Nat) (po : Option Addr) (cap : Nat) (hv : v = .slice po acc.length cap) {R : Pat} (hn : NodeIs kind ys acc R) (hl : acc.length ≤ maxLen) (hc : costOf kind acc.length + N ≤ M) :
    Den (d + 1) M w (fun g => base ≤ g) (nodeCs kind ys po acc.length cap) R := by
  obtain ⟨hh1, Ns, hh2, hh3, hh4⟩ := h
  have hcap : acc.length ≤ cap := by
    rcases hh1.2 with ⟨_, h2⟩ | ⟨g, cap', cur, hv', h3, h4, h5, h6, h7, h8⟩
    · omega
    · rw [hv] at hv'
      injection hv' with e1 e2 e3
      omega
  refine ⟨kind, ys, po, acc.length, cap, acc, Ns, rfl, hn, rfl, ⟨hl, hcap⟩, hh2, by omega, ?_⟩
  rcases hh1.2 with ⟨_, h2⟩ | ⟨g, cap', cur, hv', h3, h4, h5, h6, h7, h8⟩
  · exact Or.inl h2
  · rw [hv] at hv'
    injection hv' with e1 e2 e3
    subst e1
    refine Or.inr ⟨g, rfl, h3, heap_lt h4, fun i A K hA hK => ?_⟩
    obtain ⟨cs, h9, h10⟩ := hh4 i A K hA hK
    refine ⟨cs, fun j u hj => ?_, h10.mono (fun g _ hg => hg.1)⟩
    have h11 := h9 j u hj
    rw [← h8, List.getElem?_take] at h11
    split at h11
    · refine cell_of h4 ?_
      rw [← Array.getElem?_toList]; exact h11
    · cases h11
theorem PartsOf.size {d N xs w base v acc} (h : PartsOf d N xs w base v acc) : acc.length ≤ maxLen := by
  rcases h.1.2 with ⟨_, h2⟩ | ⟨g, cap', cur, hv', h3, h4, h5, h6, h7, h8⟩
  · rw [h2]; exact Nat.zero_le _
  · omega
end Go.Proofs.YtdbdbaepmdmnfaaGreatDoor

namespace Go.Proofs.YtdbdbaepmdmnfaaGreatDoor
open Go.RowKit
/-- A group, behind its bracket. -/
def groupP (sub : Nat → Option (Pat × Nat)) (l : List UInt8) (i : Nat) : Option (Pat × Nat) := match sub i with | none => none | some (R, j) => if hasB l j 41 then some (R, j + 1) else none
theorem drewN_heap (w : World) (n : Nat) : (w.drewN n).heap = w.heap := rfl
theorem RdB.alloc' {w b s i} (h : RdB w b s i) (o : Obj) : RdB (w.alloc o) b s i := (Below.heap_alloc _ _ _ (heap_lt h)).trans h
theorem RdB.setNe {w b s i} (h : RdB w b s i) {p : Addr} (hp : b ≠ p.block) (v : Value) : RdB (w.setCell p v) b s i := (Below.heap_setCell _ _ _ _ hp).trans h
set_option maxHeartbeats 4000000 in
theorem group_any (f : Nat) (hf : ChoiceOK f) (b : Nat) (s : ByteArray) (hs : s.size ≤ maxLen) (h6 : s.size ≤ 65536) (i : Nat) (hi : i ≤ s.size) (hfl : s.size - i < f) (w : World) (h : RdB w b s i) :
    Calls Tryz.prog 268 #[.pointer (some ⟨b, 0, none⟩)] w (NodePost b s i w (groupP (choiceP s.data.toList f) s.data.toList i)) := by
  have hbl := heap_lt h
  have hml : s.size ≤ 9223372036854775807 := hs
  have hbw : b ≠ w.heap.size := by omega
  have hn : ∀ o, w.heap.size < w.heap.size → (fun k => k = b) (Addr.block ⟨w.heap.size, o, none⟩) := fun _ h => absurd h (Nat.lt_irrefl _)
  have HR0 : ∀ o1, Hid (RdB (w.alloc o1) b s i) := fun o1 => by
    show RdB _ _ _ _
    unfold RdB
    rw [Below.heap_alloc _ _ _ hbl]; exact h
  have HF := hide hf
  clear h hf
  go_enter Tryz.func268, Tryz.ntmps268
  go_wp2_with fail
  refine (HF.out b s i _ (HR0 _).out hi hs h6 hfl).mono ?_
  rintro e w1 ⟨ho1, kind, xs, po, n, cap, rfl, hden⟩
  have hq : w1.heap[w.heap.size]? = some (.cells (nodeAg 0 (fun _ => 0) none 0 0) 118 (0, 0)) := (ho1.block w.heap.size (by simp) (Ne.symm hbw)).trans (new0 w _)
  have HQ := hide hq
  have HO1 : Hid (Only (fun k => k = b) w w1) := ((Only.refl _ w).alloc _).trans ho1 (fun k _ e => e)
  have HD := hide hden
  have z0 : w1.cell? ⟨w.heap.size, 0, none⟩ = some (.int .i64 0) := cell_of hq rfl
  have z1 : w1.cell? ⟨w.heap.size, 1, none⟩ = some (.int .u64 0) := cell_of hq rfl
  have z2 : w1.cell? ⟨w.heap.size, 2, none⟩ = some (.int .u64 0) := cell_of hq rfl
  have z3 : w1.cell? ⟨w.heap.size, 3, none⟩ = some (.int .u64 0) := cell_of hq rfl
  have z4 : w1.cell? ⟨w.heap.size, 4, none⟩ = some (.int .u64 0) := cell_of hq rfl
  have z5 : w1.cell? ⟨w.heap.size, 5, none⟩ = some (.slice none 0 0) := cell_of hq rfl
  have y0 := free_of hq 0
  have y1 := free_of hq 1
  have y2 := free_of hq 2
  have y3 := free_of hq 3
  have y4 := free_of hq 4
  have y5 := free_of hq 5
  have hsz := heap_lt hq
  clear ho1 hq hden
  cases hc : choiceP s.data.toList f i with
  | none =>
    have HU : Hid (groupP (choiceP s.data.toList f) s.data.toList i = none) := by
      show groupP _ _ _ = _
      unfold groupP
      rw [hc]
    clear hc
    unfold nodeAg
    simp only [Option.isSome_none]
    go_wp2
    refine bodyPost_ret (v := .tuple #[.agg (nodeAg 0 (fun _ => 0) none 0 0), .bool false]) (by simp [results, Tryz.results268, go_sem, nodeAg, z0, z1, z2, z3, z4, z5, hsz]) rfl ⟨?_, 0, fun _ => 0, none, 0, 0, ?_, ?_⟩
    · exact ((((((HO1.out.setCell (p := ⟨w.heap.size, 0, none⟩) (hn 0) _).setCell (p := ⟨w.heap.size, 1, none⟩) (hn 1) _).setCell (p := ⟨w.heap.size, 2, none⟩) (hn 2) _).setCell (p := ⟨w.heap.size, 3, none⟩) (hn 3) _).setCell (p := ⟨w.heap.size, 4, none⟩) (hn 4) _).setCell (p := ⟨w.heap.size, 5, none⟩) (hn 5) _).alloc _
    · rw [HU.out]; rfl
    · intro R j h
      rw [HU.out] at h
      cases h
  | some p =>
    obtain ⟨R, j⟩ := p
    have hp := choice_prog s.data.toList f i R j hc
    rw [len_eq] at hp
    have hj := hp.2
    obtain ⟨hr1, d, hdn⟩ := HD.out R j hc
    have HRd := hide hr1
    have HDn := hide hdn
    have hb1 := heap_lt hr1
    have HR2 : ∀ o, Hid (RdB (w1.alloc o) b s j) := fun o => hr1.alloc' o
    have q1 : w1.cell? ⟨b, 1, none⟩ = some (.int .i64 j) := hr1.at.2
    have qf : w1.frozen? ⟨b, 1, none⟩ = false := hr1.free 1
    cases hb : hasB s.data.toList j 41
    · have HU : Hid (groupP (choiceP s.data.toList f) s.data.toList i = none) := by
        show groupP _ _ _ = _
        unfold groupP
        rw [hc]
        simp only
        rw [hb]
        rfl
      have HB := hide hb
      clear hc hb hr1 hdn hp
      unfold nodeAg
      simp only [Option.isSome_some]
      go_wp2_with (go_at_call 122; refine (sees_is b 0 s j hj 41 false HB.out _ (HR2 _).out.at).mono ?_; rintro e w' ⟨rfl, n3, rfl⟩)
      refine bodyPost_ret (v := .tuple #[.agg (nodeAg 0 (fun _ => 0) none 0 0), .bool false]) (by simp [results, Tryz.results268, go_sem, nodeAg, z0, z1, z2, z3, z4, z5, hsz]) rfl ⟨?_, 0, fun _ => 0, none, 0, 0, ?_, ?_⟩
      · exact ((((((((HO1.out.alloc _).drewN n3).setCell (p := ⟨w.heap.size, 0, none⟩) (hn 0) _).setCell (p := ⟨w.heap.size, 1, none⟩) (hn 1) _).setCell (p := ⟨w.heap.size, 2, none⟩) (hn 2) _).setCell (p := ⟨w.heap.size, 3, none⟩) (hn 3) _).setCell (p := ⟨w.heap.size, 4, none⟩) (hn 4) _).setCell (p := ⟨w.heap.size, 5, none⟩) (hn 5) _)
      · rw [HU.out]; rfl
      · intro R j h
        rw [HU.out] at h
        cases h
    · have HU : Hid (groupP (choiceP s.data.toList f) s.data.toList i = some (R, j + 1)) := by
        show groupP _ _ _ = _
        unfold groupP
        rw [hc]
        simp only
        rw [hb]
        rfl
      have HB := hide hb
      have hlt := hasB_lt hb
      rw [len_eq] at hlt
      clear hc hb hr1 hdn hp
      unfold nodeAg
      simp only [Option.isSome_some]
      go_wp2_with (go_at_call 122; refine (sees_is b 0 s j hj 41 true HB.out _ (HR2 _).out.at).mono ?_; rintro e w' ⟨rfl, n3, rfl⟩)
      refine bodyPost_ret (v := .tuple #[.agg (nodeAg kind xs po n cap), .bool true]) (by simp [results, Tryz.results268, go_sem, nodeAg, z0, z1, z2, z3, z4, z5, hsz]) rfl ⟨?_, kind, xs, po, n, cap, ?_, ?_⟩
      · exact (((((((((HO1.out.alloc _).drewN n3).setCell (p := ⟨b, 1, none⟩) (fun _ => rfl) _).setCell (p := ⟨w.heap.size, 0, none⟩) (hn 0) _).setCell (p := ⟨w.heap.size, 1, none⟩) (hn 1) _).setCell (p := ⟨w.heap.size, 2, none⟩) (hn 2) _).setCell (p := ⟨w.heap.size, 3, none⟩) (hn 3) _).setCell (p := ⟨w.heap.size, 4, none⟩) (hn 4) _).setCell (p := ⟨w.heap.size, 5, none⟩) (hn 5) _)
      · rw [HU.out]; rfl
      · intro R' j' h
        rw [HU.out] at h
        cases h
        refine ⟨((((((((((((((HRd.out.alloc' _).drewN n3).set (j + 1)).setNe (p := ⟨w.heap.size, 0, none⟩) hbw _)).setNe (p := ⟨w.heap.size, 1, none⟩) hbw _)).setNe (p := ⟨w.heap.size, 2, none⟩) hbw _)).setNe (p := ⟨w.heap.size, 3, none⟩) hbw _)).setNe (p := ⟨w.heap.size, 4, none⟩) hbw _)).setNe (p := ⟨w.heap.size, 5, none⟩) hbw _), d, ?_⟩
        refine Den.mono (Den.frame (HDn.out.more (show j - i ≤ j + 1 - i by omega)) (by simp [World.setCell]) ?_) (fun g _ hg => ?_)
        · intro g hg hl
          have hg2 : w.heap.size + 1 ≤ g := by simpa using hg
          rw [Below.heap_setCell _ _ _ _ (show g ≠ w.heap.size by omega), Below.heap_setCell _ _ _ _ (show g ≠ w.heap.size by omega), Below.heap_setCell _ _ _ _ (show g ≠ w.heap.size by omega), Below.heap_setCell _ _ _ _ (show g ≠ w.heap.size by omega), Below.heap_setCell _ _ _ _ (show g ≠ w.heap.size by omega), Below.heap_setCell _ _ _ _ (show g ≠ w.heap.size by omega), Below.heap_setCell _ _ _ _ (show g ≠ b by omega), drewN_heap, Below.heap_alloc _ _ _ hl]
        · have hg2 : w.heap.size + 1 ≤ g := by simpa using hg
          omega
end Go.Proofs.YtdbdbaepmdmnfaaGreatDoor

