import Derived.Test.YthhiofppbpgipaaGreatDoorMBuildL
namespace Go.Proofs.YthhiofppbpgipaaGreatDoor
open Go.RowKit
set_option maxHeartbeats 4000000 in
theorem build_step (d : Nat) (hd : BuildOK d) : BuildOK (d + 1) := by
  intro N kind xs po n cap R w pb v fst Q F next hm hden haw hQ hx
  obtain ⟨kind', xs', po', n', cap', Rs, Ns, hcs, hnode, hRs, hnl, hNs, hcost, hparts⟩ := hden
  have hcs' : nodeCs kind xs po n cap = nodeCs kind' xs' po' n' cap' := hcs
  unfold nodeCs at hcs'
  simp only [List.cons.injEq, Value.int.injEq, Value.slice.injEq, and_true, true_and] at hcs'
  obtain ⟨rfl, hx0, hx1, hx2, hx3, rfl, rfl, rfl⟩ := hcs'
  have hP : DenParts d w F po Rs Ns := by
    rcases hparts with h | h
    · exact Or.inl (by omega)
    · exact Or.inr h
  have hy : ∀ k, k < 4 → xs k = xs' k := fun k hk => by
    match k, hk with
    | 0, _ => exact Int.ofNat.inj hx0
    | 1, _ => exact Int.ofNat.inj hx1
    | 2, _ => exact Int.ofNat.inj hx2
    | 3, _ => exact Int.ofNat.inj hx3
  have hpl := heap_lt hm.1
  have HD := hide hd
  have HM := hide hm
  have HP := hide hP
  have HA := hide haw
  clear hd hm hP haw hparts hcs hx0 hx1 hx2 hx3
  rcases hnode with ⟨rfl, S, hS, rfl⟩ | ⟨rfl, rfl⟩ | ⟨rfl, rfl⟩ | ⟨rfl, rfl⟩ | ⟨rfl, hne, rfl⟩ | ⟨rfl, A, rfl, rfl⟩ | ⟨rfl, A, rfl, rfl⟩ | ⟨rfl, A, rfl, rfl⟩
  · have hc1 : 1 ≤ N := by simp [costOf] at hcost; omega
    have HS := hide hS
    have HY := hide hy
    clear hS hy hcost
    unfold nodeAg
    go_enter Tryz.func48, Tryz.ntmps48
    go_wp2_with fail
    rw [HY.out 0 (by decide), HY.out 1 (by decide), HY.out 2 (by decide), HY.out 3 (by decide)]
    refine (padd_any pb v fst Q ⟨0, S, next, 0⟩ xs' HS.out (by omega) _ (HM.out.alloc _)).mono ?_
    intro e w1 ha
    have HB := hide (ha.build hc1 ⟨Nat.le_of_ble_eq_true rfl, by show next < _; omega, by show 0 < _; omega⟩ (fun Qx h t => built_byte h)).alloc
    obtain ⟨rfl, _⟩ := ha
    go_wp2
    go_ret
    exact HB.out
  · have hc1 : 1 ≤ N := by simp [costOf] at hcost; omega
    clear hy hcost
    unfold nodeAg
    go_enter Tryz.func48, Tryz.ntmps48
    go_wp2_with fail
    refine (padd_any pb v fst Q ⟨1, fun _ => false, next, 0⟩ (fun _ => 0) SetIs.none (by omega) _ (HM.out.alloc _)).mono ?_
    intro e w1 ha
    have HB := hide (ha.build hc1 ⟨Nat.le_of_ble_eq_true rfl, by show next < _; omega, by show 0 < _; omega⟩ (fun Qx h t => built_begin h)).alloc
    obtain ⟨rfl, _⟩ := ha
    go_wp2
    go_ret
    exact HB.out
  · have hc1 : 1 ≤ N := by simp [costOf] at hcost; omega
    clear hy hcost
    unfold nodeAg
    go_enter Tryz.func48, Tryz.ntmps48
    go_wp2_with fail
    refine (padd_any pb v fst Q ⟨2, fun _ => false, next, 0⟩ (fun _ => 0) SetIs.none (by omega) _ (HM.out.alloc _)).mono ?_
    intro e w1 ha
    have HB := hide (ha.build hc1 ⟨Nat.le_of_ble_eq_true rfl, by show next < _; omega, by show 0 < _; omega⟩ (fun Qx h t => built_end h)).alloc
    obtain ⟨rfl, _⟩ := ha
    go_wp2
    go_ret
    exact HB.out
  · have hc1 : Ns.sum ≤ N := by simp [costOf] at hcost; omega
    subst hRs
    clear hy hcost
    unfold nodeAg
    go_enter Tryz.func48, Tryz.ntmps48
    go_wp2_with fail
    refine (buildRow_any d HD.out N Rs Ns hNs hc1 po cap _ pb v fst Q F next (HM.out.alloc _) (HP.out.alloc _) (HA.out.alloc HM.out _) hQ hx hnl.1).mono ?_
    intro e w1 ha
    have HB := hide ha.alloc
    obtain ⟨v', Q', b, rfl, _⟩ := ha
    go_wp2
    go_ret
    exact HB.out
  · have hc1 : Rs.length - 1 + Ns.sum ≤ N := by simp [costOf] at hcost; omega
    have hn0 : Rs.length ≠ 0 := fun e => hne (List.eq_nil_of_length_eq_zero e)
    subst hRs
    clear hy hcost hne
    unfold nodeAg
    go_enter Tryz.func48, Tryz.ntmps48
    go_wp2_with fail
    refine (buildChoice_any d HD.out N Rs Ns hNs hc1 hn0 po cap _ pb v fst Q F next (HM.out.alloc _) (HP.out.alloc _) (HA.out.alloc HM.out _) hQ hx hnl.1 hnl.2).mono ?_
    intro e w1 ha
    have HB := hide ha.alloc
    obtain ⟨v', Q', b, rfl, _⟩ := ha
    go_wp2
    go_ret
    exact HB.out
  · obtain ⟨M, rfl⟩ : ∃ M, Ns = [M] := List.length_eq_one_iff.1 (by rw [hNs, ← hRs]; rfl)
    have hc1 : 1 + M ≤ N := by simp [costOf] at hcost; omega
    have hn1 : n = 1 := hRs.symm
    subst hn1
    clear hy hcost
    unfold nodeAg
    go_enter Tryz.func48, Tryz.ntmps48
    go_wp2_with fail
    refine (buildLoop_any d HD.out 5 (by decide) N M A hc1 xs po cap _ pb v fst Q F next (HM.out.alloc _) (HP.out.alloc _) (HA.out.alloc HM.out _) hQ hx).mono ?_
    intro e w1 ha
    have HB : Hid (BuildPost pb v fst Q next N (starR A) w e w1) := by
      have := ha.alloc
      show BuildPost _ _ _ _ _ _ _ _ _ _
      simpa using this
    obtain ⟨v', Q', b, rfl, _⟩ := ha
    go_wp2
    go_ret
    exact HB.out
  · obtain ⟨M, rfl⟩ : ∃ M, Ns = [M] := List.length_eq_one_iff.1 (by rw [hNs, ← hRs]; rfl)
    have hc1 : 1 + M ≤ N := by simp [costOf] at hcost; omega
    have hn1 : n = 1 := hRs.symm
    subst hn1
    clear hy hcost
    unfold nodeAg
    go_enter Tryz.func48, Tryz.ntmps48
    go_wp2_with fail
    refine (buildLoop_any d HD.out 6 (by decide) N M A hc1 xs po cap _ pb v fst Q F next (HM.out.alloc _) (HP.out.alloc _) (HA.out.alloc HM.out _) hQ hx).mono ?_
    intro e w1 ha
    have HB : Hid (BuildPost pb v fst Q next N (plusR A) w e w1) := by
      have := ha.alloc
      show BuildPost _ _ _ _ _ _ _ _ _ _
      simpa using this
    obtain ⟨v', Q', b, rfl, _⟩ := ha
    go_wp2
    go_ret
    exact HB.out
  · obtain ⟨M, rfl⟩ : ∃ M, Ns = [M] := List.length_eq_one_iff.1 (by rw [hNs, ← hRs]; rfl)
    have hc1 : 1 + M ≤ N := by simp [costOf] at hcost; omega
    have hn1 : n = 1 := hRs.symm
    subst hn1
    clear hy hcost
    obtain ⟨g, rfl, hFg, hgl, kd2, ys, qo, n2, cp2, hcs, hden⟩ := HP.out.at (i := 0) rfl rfl
    obtain ⟨c0, c1, c2, c3, c4, c5⟩ := cellsNode hcs
    rw [Nat.zero_mul] at c0 c1 c2 c3 c4 c5
    simp only [Nat.zero_add] at c1 c2 c3 c4 c5
    have HDn : ∀ o, Hid (Den d M (w.alloc o) F (nodeCs kd2 ys qo n2 cp2) A) := fun o => hden.frame (by simp) (fun g _ hl => Below.heap_alloc _ _ _ hl)
    clear hcs hden
    unfold nodeAg
    go_enter Tryz.func48, Tryz.ntmps48
    go_wp2_with fail
    refine (HD.out M kd2 ys qo n2 cp2 A _ pb v fst Q F next (HM.out.alloc _) (HDn _).out (HA.out.alloc HM.out _) (by omega) hx).mono ?_
    rintro e w2 ⟨v2, Q2, b, rfl, hm2, hg2, hq2, hb2, hok2, hbt2⟩
    have HM2 := hide hm2
    have HG2 := hide hg2.alloc
    have HOK := hide hok2
    have HBt := hide hbt2
    clear hm2 hg2 hok2 hbt2 c0 c1 c2 c3 c4 c5
    go_wp2_with fail
    refine (padd_any pb v2 fst (Q ++ Q2) ⟨3, fun _ => false, b, next⟩ (fun _ => 0) SetIs.none (by simp; omega) w2 HM2.out).mono ?_
    rintro e w4 ⟨rfl, v4, hm4, hg4⟩
    rw [List.append_assoc] at hm4
    have HB : Hid (BuildPost pb v fst Q next N (optR A) w (.returned (.int .i64 ((Q.length : Int) + (Q2.length : Int)))) w4) := by
      refine ⟨v4, Q2 ++ [⟨3, fun _ => false, b, next⟩], (Q ++ Q2).length, by rw [List.length_append]; rfl, hm4, HG2.out.trans hg4, by simp; omega, by simp, fun q hq => ?_, fun Qx hx t => ?_⟩
      · simp only [List.length_append, List.length_singleton]
        rcases List.mem_append.1 hq with h | h
        · exact (HOK.out q h).up (by omega)
        · simp at h; subst h
          exact ⟨Nat.le_refl 3, by show b < _; omega, by show next < _; omega⟩
      · rw [List.length_append]
        refine built_opt (hx Q2.length ⟨3, fun _ => false, b, next⟩ (by rw [List.getElem?_append_right (Nat.le_refl _)]; simp)) (HBt.out Qx (fun k q hk => hx k q ?_) t)
        rw [List.getElem?_append_left (List.getElem?_eq_some_iff.1 hk).1]; exact hk
    clear hm4 hg4
    go_wp2
    go_ret
    exact HB.out
theorem build_all (d : Nat) : BuildOK d := by
  induction d with
  | zero => intro N kind xs po n cap R w pb v fst Q F next hm hden; exact hden.elim
  | succ d ih => exact build_step d ih
end Go.Proofs.YthhiofppbpgipaaGreatDoor
