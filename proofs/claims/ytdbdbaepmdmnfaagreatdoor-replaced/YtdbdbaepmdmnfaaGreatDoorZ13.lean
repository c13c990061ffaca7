import Derived.Test.YtdbdbaepmdmnfaaGreatDoorZ12
namespace Go.Proofs.YtdbdbaepmdmnfaaGreatDoor
open Go.RowKit
set_option maxHeartbeats 4000000 in
theorem buildLoop_any (d : Nat) (hd : BuildOK d) (kind : Int) (hkd : kind = 5 ∨ kind = 6) (N M : Nat) (A : Pat) (hN : 1 + M ≤ N) (xs : Nat → Nat) (po : Option Addr) (cap : Nat) (w : World) (pb : Nat) (v : Value) (fst : Int) (Q : List St) (F : Nat → Prop) (next : Nat)
    (hm : Mach w pb v fst Q) (hp : DenParts d w F po [A] [M]) (haw : Away F w pb v) (hQ : Q.length + N ≤ 1000000) (hx : next < Q.length) :
    Calls Tryz.prog 87 #[.pointer (some ⟨pb, 0, none⟩), .agg (nodeAg kind xs po 1 cap), .int .i64 next] w (BuildPost pb v fst Q next N (if kind = 5 then starR A else plusR A) w) := by
  have hpl := heap_lt hm.1
  obtain ⟨R, HRR⟩ : ∃ R, Hid ((if kind = 5 then starR A else plusR A) = R) := ⟨_, rfl⟩
  rw [HRR.out]
  have HD := hide hd
  have HM := hide hm
  have HP := hide hp
  have HA := hide haw
  have HK := hide hkd
  clear hd hm hp haw hkd
  unfold nodeAg
  go_enter Tryz.func87, Tryz.ntmps87
  go_wp2_with fail
  refine (padd_any pb v fst Q ⟨3, fun _ => false, 0, next⟩ (fun _ => 0) SetIs.none (by omega) _ (HM.out.alloc _)).mono ?_
  rintro e w1 ⟨rfl, v1, hm1, hg1⟩
  have hbox : w1.heap[w.heap.size]? = some (.cells (nodeAg kind xs po 1 cap) 118 (0, 0)) := (hg1.1.block w.heap.size (by simp) (by
    rintro (e | e)
    · omega
    · have := HM.out.own_lt _ e.symm; omega)).trans (new0 w _)
  have hg1' := hg1.alloc
  obtain ⟨g, rfl, hFg, hgl, kd2, ys, qo, n2, cp2, hcs, hden⟩ := ((HP.out.alloc _).grew hg1 (HA.out.alloc HM.out _)).at (i := 0) rfl rfl
  obtain ⟨c0, c1, c2, c3, c4, c5⟩ := cellsNode hcs
  rw [Nat.zero_mul] at c0 c1 c2 c3 c4 c5
  simp only [Nat.zero_add] at c1 c2 c3 c4 c5
  have b0 : w1.cell? ⟨w.heap.size, 0, none⟩ = some (.int .i64 kind) := cell_of hbox rfl
  have b5 : w1.cell? ⟨w.heap.size, 5, none⟩ = some (.slice (some ⟨g, 0, none⟩) 1 cap) := cell_of hbox rfl
  have HM1 := hide hm1
  have HG1 := hide hg1'
  have HG0 := hide hg1
  have HBox := hide hbox
  have HDn := hide hden
  have HAw := hide (hg1.away (HA.out.alloc HM.out _))
  have hbl := heap_lt hbox
  clear hm1 hg1 hg1' hbox hcs hden
  go_wp2_with fail
  refine (HD.out M kd2 ys qo n2 cp2 A w1 pb v1 fst (Q ++ [⟨3, fun _ => false, 0, next⟩]) _ Q.length HM1.out HDn.out HAw.out (by simp; omega) (by simp)).mono ?_
  rintro e w2 ⟨v2, Q2, b, rfl, hm2, hg2, hq2, hb2, hok2, hbt2⟩
  have hown1 : some w.heap.size ≠ v1.ownBlock := by
    intro e
    rcases HG0.out.2 with h | ⟨G, h, h2⟩
    · rw [h] at e; have := HM.out.own_lt _ e.symm; omega
    · rw [h] at e; cases e
      rw [World.size_alloc] at h2
      omega
  have hbox2 : w2.heap[w.heap.size]? = some (.cells (nodeAg kind xs (some ⟨g, 0, none⟩) 1 cap) 118 (0, 0)) := (hg2.1.block w.heap.size hbl (by
    rintro (e | e)
    · omega
    · exact hown1 e)).trans HBox.out
  have hown2 : some w.heap.size ≠ v2.ownBlock := by
    intro e
    rcases hg2.2 with h | ⟨G, h, h2⟩
    · rw [h] at e; exact hown1 e
    · rw [h] at e; cases e; omega
  obtain ⟨G, cap2, rfl⟩ := hm2.form (by simp)
  have hll : (Q ++ [(⟨3, fun _ => false, 0, next⟩ : St)] ++ Q2).length = Q.length + 1 + Q2.length := by simp; omega
  rw [hll] at hm2 hg2
  have hGw : G ≠ w.heap.size := fun e => hown2 (by rw [e]; rfl)
  have hGp : G ≠ pb := fun e => hm2.own_ne (by rw [e]; rfl)
  have hlk : (Q ++ [(⟨3, fun _ => false, 0, next⟩ : St)] ++ Q2)[Q.length]? = some ⟨3, fun _ => false, 0, next⟩ := by
    rw [List.append_assoc, List.getElem?_append_right (Nat.le_refl _)]; simp
  obtain ⟨zs, _, hz⟩ := hm2.cells hlk
  have k5 : w2.cell? ⟨G, Q.length * 7 + 5, none⟩ = some (.int .i64 0) := hz 5 _ rfl
  have f5 := hm2.free (Q.length * 7 + 5)
  have p0 : w2.cell? ⟨pb, 0, none⟩ = some (.slice (some ⟨G, 0, none⟩) (Q.length + 1 + Q2.length) cap2) := cell_of hm2.1 rfl
  have d0 : w2.cell? ⟨w.heap.size, 0, none⟩ = some (.int .i64 kind) := cell_of hbox2 rfl
  have HM2 := hide hm2
  have HG2 := hide (HG1.out.trans hg2)
  have HBt := hide hbt2
  have HOK := hide hok2
  have HLk := hide hlk
  clear hm2 hg2 hok2 hbt2 hbox2 c0 c1 c2 c3 c4 c5 b0 b5 hz hlk hown1 hown2
  have hi1 : (Q.length : Int) < ((Q.length + 1 + Q2.length : Nat) : Int) := by omega
  have HM3 : Hid (Mach (w2.setCell ⟨G, Q.length * 7 + 5, none⟩ (.int .i64 b)) pb (.slice (some ⟨G, 0, none⟩) (Q.length + 1 + Q2.length) cap2) fst (Q ++ (⟨3, fun _ => false, b, next⟩ :: Q2))) := by
    have hset : (Q ++ [(⟨3, fun _ => false, 0, next⟩ : St)] ++ Q2).set Q.length ⟨3, fun _ => false, b, next⟩ = Q ++ (⟨3, fun _ => false, b, next⟩ :: Q2) := by
      rw [List.append_assoc, List.set_append_right _ _ (Nat.le_refl _), Nat.sub_self]; rfl
    have := HM2.out.setNext HLk.out b
    rw [hset] at this
    exact this
  have HG3 : Hid (Grew w (w2.setCell ⟨G, Q.length * 7 + 5, none⟩ (.int .i64 b)) pb v (.slice (some ⟨G, 0, none⟩) (Q.length + 1 + Q2.length) cap2)) := by
    refine ⟨HG2.out.1.setCell (p := ⟨G, Q.length * 7 + 5, none⟩) (fun hl => ?_) _, HG2.out.2⟩
    rcases HG2.out.2 with h | ⟨G', h, h2⟩
    · exact Or.inr h
    · cases h
      have h3 : w.heap.size ≤ G := h2
      exact absurd hl (by show ¬ G < w.heap.size; omega)
  have HOK3 : Hid (∀ q ∈ (⟨3, fun _ => false, b, next⟩ :: Q2 : List St), StOK (Q.length + (⟨3, fun _ => false, b, next⟩ :: Q2 : List St).length) q) := by
    intro q hq
    simp only [List.length_cons]
    simp only [List.length_append, List.length_singleton] at hb2
    rcases List.mem_cons.1 hq with rfl | h
    · exact ⟨Nat.le_refl 3, by show b < _; omega, by show next < _; omega⟩
    · exact (HOK.out q h).up (by simp; omega)
  have HL : Hid (BuiltIn Q.length (⟨3, fun _ => false, b, next⟩ :: Q2) Q.length next (starR A) ∧ BuiltIn Q.length (⟨3, fun _ => false, b, next⟩ :: Q2) b next (plusR A)) := BuiltIn.loop (by simpa using HBt.out)
  have hb3 : b < Q.length + (⟨3, fun _ => false, b, next⟩ :: Q2 : List St).length := by
    simp only [List.length_append, List.length_singleton] at hb2
    simp only [List.length_cons]; omega
  rcases HK.out with rfl | rfl
  · go_wp2
    go_ret
    exact ⟨_, _, Q.length, rfl, HM3.out, HG3.out, by simp only [List.length_cons]; omega, by simp, HOK3.out, by rw [← HRR.out]; simpa using HL.out.1⟩
  · go_wp2
    go_ret
    exact ⟨_, _, b, rfl, HM3.out, HG3.out, by simp only [List.length_cons]; omega, hb3, HOK3.out, by rw [← HRR.out]; simpa using HL.out.2⟩
end Go.Proofs.YtdbdbaepmdmnfaaGreatDoor

namespace Go.Proofs.YtdbdbaepmdmnfaaGreatDoor
open Go.RowKit
set_option maxHeartbeats 4000000 in
theorem build_step (d : Nat) (hd : BuildOK d) : BuildOK (d + 1) := by
  intro N kind xs po n cap R w pb v fst Q F next hm hden haw hQ hx
  obtain ⟨kind', xs', po', n', cap', Rs, Ns, hcs, hnode, hRs, hnl, hNs, hcost, hparts⟩ := hden
  have hcs' : nodeCs kind xs po n cap = nodeCs kind' xs' po' n' cap' := hcs
  unfold nodeCs at hcs'
  simp only [List.cons.injEq, Value.int.injEq, Value.slice.injEq, and_true, true_and] at hcs'
  obtain ⟨rfl, hx0, hx1, hx2, hx3, rfl, rfl, rfl⟩ := hcs'
  have hP : DenParts d w F po Rs Ns := by
    rcases hparts with h | h
    · exact Or.inl (by omega)
    · exact Or.inr h
  have hy : ∀ k, k < 4 → xs k = xs' k := fun k hk => by
    match k, hk with
    | 0, _ => exact Int.ofNat.inj hx0
    | 1, _ => exact Int.ofNat.inj hx1
    | 2, _ => exact Int.ofNat.inj hx2
    | 3, _ => exact Int.ofNat.inj hx3
  have hpl := heap_lt hm.1
  have HD := hide hd
  have HM := hide hm
  have HP := hide hP
  have HA := hide haw
  clear hd hm hP haw hparts hcs hx0 hx1 hx2 hx3
  rcases hnode with ⟨rfl, S, hS, rfl⟩ | ⟨rfl, rfl⟩ | ⟨rfl, rfl⟩ | ⟨rfl, rfl⟩ | ⟨rfl, hne, rfl⟩ | ⟨rfl, A, rfl, rfl⟩ | ⟨rfl, A, rfl, rfl⟩ | ⟨rfl, A, rfl, rfl⟩
  · have hc1 : 1 ≤ N := by simp [costOf] at hcost; omega
    have HS := hide hS
    have HY := hide hy
    clear hS hy hcost
    unfold nodeAg
    go_enter Tryz.func56, Tryz.ntmps56
    go_wp2_with fail
    rw [HY.out 0 (by decide), HY.out 1 (by decide), HY.out 2 (by decide), HY.out 3 (by decide)]
    refine (padd_any pb v fst Q ⟨0, S, next, 0⟩ xs' HS.out (by omega) _ (HM.out.alloc _)).mono ?_
    intro e w1 ha
    have HB := hide (ha.build hc1 ⟨Nat.le_of_ble_eq_true rfl, by show next < _; omega, by show 0 < _; omega⟩ (fun Qx h t => built_byte h)).alloc
    obtain ⟨rfl, _⟩ := ha
    go_wp2
    go_ret
    exact HB.out
  · have hc1 : 1 ≤ N := by simp [costOf] at hcost; omega
    clear hy hcost
    unfold nodeAg
    go_enter Tryz.func56, Tryz.ntmps56
    go_wp2_with fail
    refine (padd_any pb v fst Q ⟨1, fun _ => false, next, 0⟩ (fun _ => 0) SetIs.none (by omega) _ (HM.out.alloc _)).mono ?_
    intro e w1 ha
    have HB := hide (ha.build hc1 ⟨Nat.le_of_ble_eq_true rfl, by show next < _; omega, by show 0 < _; omega⟩ (fun Qx h t => built_begin h)).alloc
    obtain ⟨rfl, _⟩ := ha
    go_wp2
    go_ret
    exact HB.out
  · have hc1 : 1 ≤ N := by simp [costOf] at hcost; omega
    clear hy hcost
    unfold nodeAg
    go_enter Tryz.func56, Tryz.ntmps56
    go_wp2_with fail
    refine (padd_any pb v fst Q ⟨2, fun _ => false, next, 0⟩ (fun _ => 0) SetIs.none (by omega) _ (HM.out.alloc _)).mono ?_
    intro e w1 ha
    have HB := hide (ha.build hc1 ⟨Nat.le_of_ble_eq_true rfl, by show next < _; omega, by show 0 < _; omega⟩ (fun Qx h t => built_end h)).alloc
    obtain ⟨rfl, _⟩ := ha
    go_wp2
    go_ret
    exact HB.out
  · have hc1 : Ns.sum ≤ N := by simp [costOf] at hcost; omega
    subst hRs
    clear hy hcost
    unfold nodeAg
    go_enter Tryz.func56, Tryz.ntmps56
    go_wp2_with fail
    refine (buildRow_any d HD.out N Rs Ns hNs hc1 po cap _ pb v fst Q F next (HM.out.alloc _) (HP.out.alloc _) (HA.out.alloc HM.out _) hQ hx hnl.1).mono ?_
    intro e w1 ha
    have HB := hide ha.alloc
    obtain ⟨v', Q', b, rfl, _⟩ := ha
    go_wp2
    go_ret
    exact HB.out
  · have hc1 : Rs.length - 1 + Ns.sum ≤ N := by simp [costOf] at hcost; omega
    have hn0 : Rs.length ≠ 0 := fun e => hne (List.eq_nil_of_length_eq_zero e)
    subst hRs
    clear hy hcost hne
    unfold nodeAg
    go_enter Tryz.func56, Tryz.ntmps56
    go_wp2_with fail
    refine (buildChoice_any d HD.out N Rs Ns hNs hc1 hn0 po cap _ pb v fst Q F next (HM.out.alloc _) (HP.out.alloc _) (HA.out.alloc HM.out _) hQ hx hnl.1 hnl.2).mono ?_
    intro e w1 ha
    have HB := hide ha.alloc
    obtain ⟨v', Q', b, rfl, _⟩ := ha
    go_wp2
    go_ret
    exact HB.out
  · obtain ⟨M, rfl⟩ : ∃ M, Ns = [M] := List.length_eq_one_iff.1 (by rw [hNs, ← hRs]; rfl)
    have hc1 : 1 + M ≤ N := by simp [costOf] at hcost; omega
    have hn1 : n = 1 := hRs.symm
    subst hn1
    clear hy hcost
    unfold nodeAg
    go_enter Tryz.func56, Tryz.ntmps56
    go_wp2_with fail
    refine (buildLoop_any d HD.out 5 (by decide) N M A hc1 xs po cap _ pb v fst Q F next (HM.out.alloc _) (HP.out.alloc _) (HA.out.alloc HM.out _) hQ hx).mono ?_
    intro e w1 ha
    have HB : Hid (BuildPost pb v fst Q next N (starR A) w e w1) := by
      have := ha.alloc
      show BuildPost _ _ _ _ _ _ _ _ _ _
      simpa using this
    obtain ⟨v', Q', b, rfl, _⟩ := ha
    go_wp2
    go_ret
    exact HB.out
  · obtain ⟨M, rfl⟩ : ∃ M, Ns = [M] := List.length_eq_one_iff.1 (by rw [hNs, ← hRs]; rfl)
    have hc1 : 1 + M ≤ N := by simp [costOf] at hcost; omega
    have hn1 : n = 1 := hRs.symm
    subst hn1
    clear hy hcost
    unfold nodeAg
    go_enter Tryz.func56, Tryz.ntmps56
    go_wp2_with fail
    refine (buildLoop_any d HD.out 6 (by decide) N M A hc1 xs po cap _ pb v fst Q F next (HM.out.alloc _) (HP.out.alloc _) (HA.out.alloc HM.out _) hQ hx).mono ?_
    intro e w1 ha
    have HB : Hid (BuildPost pb v fst Q next N (plusR A) w e w1) := by
      have := ha.alloc
      show BuildPost _ _ _ _ _ _ _ _ _ _
      simpa using this
    obtain ⟨v', Q', b, rfl, _⟩ := ha
    go_wp2
    go_ret
    exact HB.out
  · obtain ⟨M, rfl⟩ : ∃ M, Ns = [M] := List.length_eq_one_iff.1 (by rw [hNs, ← hRs]; rfl)
    have hc1 : 1 + M ≤ N := by simp [costOf] at hcost; omega
    have hn1 : n = 1 := hRs.symm
    subst hn1
    clear hy hcost
    obtain ⟨g, rfl, hFg, hgl, kd2, ys, qo, n2, cp2, hcs, hden⟩ := HP.out.at (i := 0) rfl rfl
    obtain ⟨c0, c1, c2, c3, c4, c5⟩ := cellsNode hcs
    rw [Nat.zero_mul] at c0 c1 c2 c3 c4 c5
    simp only [Nat.zero_add] at c1 c2 c3 c4 c5
    have HDn : ∀ o, Hid (Den d M (w.alloc o) F (nodeCs kd2 ys qo n2 cp2) A) := fun o => hden.frame (by simp) (fun g _ hl => Below.heap_alloc _ _ _ hl)
    clear hcs hden
    unfold nodeAg
    go_enter Tryz.func56, Tryz.ntmps56
    go_wp2_with fail
    refine (HD.out M kd2 ys qo n2 cp2 A _ pb v fst Q F next (HM.out.alloc _) (HDn _).out (HA.out.alloc HM.out _) (by omega) hx).mono ?_
    rintro e w2 ⟨v2, Q2, b, rfl, hm2, hg2, hq2, hb2, hok2, hbt2⟩
    have HM2 := hide hm2
    have HG2 := hide hg2.alloc
    have HOK := hide hok2
    have HBt := hide hbt2
    clear hm2 hg2 hok2 hbt2 c0 c1 c2 c3 c4 c5
    go_wp2_with fail
    refine (padd_any pb v2 fst (Q ++ Q2) ⟨3, fun _ => false, b, next⟩ (fun _ => 0) SetIs.none (by simp; omega) w2 HM2.out).mono ?_
    rintro e w4 ⟨rfl, v4, hm4, hg4⟩
    rw [List.append_assoc] at hm4
    have HB : Hid (BuildPost pb v fst Q next N (optR A) w (.returned (.int .i64 ((Q.length : Int) + (Q2.length : Int)))) w4) := by
      refine ⟨v4, Q2 ++ [⟨3, fun _ => false, b, next⟩], (Q ++ Q2).length, by rw [List.length_append]; rfl, hm4, HG2.out.trans hg4, by simp; omega, by simp, fun q hq => ?_, fun Qx hx t => ?_⟩
      · simp only [List.length_append, List.length_singleton]
        rcases List.mem_append.1 hq with h | h
        · exact (HOK.out q h).up (by omega)
        · simp at h; subst h
          exact ⟨Nat.le_refl 3, by show b < _; omega, by show next < _; omega⟩
      · rw [List.length_append]
        refine built_opt (hx Q2.length ⟨3, fun _ => false, b, next⟩ (by rw [List.getElem?_append_right (Nat.le_refl _)]; simp)) (HBt.out Qx (fun k q hk => hx k q ?_) t)
        rw [List.getElem?_append_left (List.getElem?_eq_some_iff.1 hk).1]; exact hk
    clear hm4 hg4
    go_wp2
    go_ret
    exact HB.out
theorem build_all (d : Nat) : BuildOK d := by
  induction d with
  | zero => intro N kind xs po n cap R w pb v fst Q F next hm hden; exact hden.elim
  | succ d ih => exact build_step d ih
end Go.Proofs.YtdbdbaepmdmnfaaGreatDoor

