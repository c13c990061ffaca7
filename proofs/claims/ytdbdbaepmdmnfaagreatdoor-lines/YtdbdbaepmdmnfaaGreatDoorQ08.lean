import Derived.Test.YtdbdbaepmdmnfaaGreatDoorQ07
import Derived.Test.YtdbdbaepmdmnfaaGreatDoorQ01
import Derived.Test.YtdbdbaepmdmnfaaGreatDoorQ03
import Derived.Deep.LoopGhost
namespace Go.Proofs.YtdbdbaepmdmnfaaGreatDoor
open Go.RowKit
set_option maxHeartbeats 4000000 in
theorem buildLoop_any (d : Nat) (hd : BuildOK d) (kind : Int) (hkd : kind = 5 ∨ kind = 6) (N M : Nat) (A : Pat) (hN : 1 + M ≤ N) (xs : Nat → Nat) (po : Option Addr) (cap : Nat) (w : World) (pb : Nat) (v : Value) (fst : Int) (Q : List St) (F : Nat → Prop) (next : Nat)
    (hm : Mach w pb v fst Q) (hp : DenParts d w F po [A] [M]) (haw : Away F w pb v) (hQ : Q.length + N ≤ 1000000) (hx : next < Q.length) :
    Calls Tryz.prog 87 #[.pointer (some ⟨pb, 0, none⟩), .agg (nodeAg kind xs po 1 cap), .int .i64 next] w (BuildPost pb v fst Q next N (if kind = 5 then starR A else plusR A) w) := by
  have hpl := heap_lt hm.1
  obtain ⟨R, HRR⟩ : ∃ R, Hid ((if kind = 5 then starR A else plusR A) = R) := ⟨_, rfl⟩
  rw [HRR.out]
  have HD := hide hd
  have HM := hide hm
  have HP := hide hp
  have HA := hide haw
  have HK := hide hkd
  clear hd hm hp haw hkd
  unfold nodeAg
  go_enter Tryz.func87, Tryz.ntmps87
  go_wp2_with fail
  refine (padd_any pb v fst Q ⟨3, fun _ => false, 0, next⟩ (fun _ => 0) SetIs.none (by omega) _ (HM.out.alloc _)).mono ?_
  rintro e w1 ⟨rfl, v1, hm1, hg1⟩
  have hbox : w1.heap[w.heap.size]? = some (.cells (nodeAg kind xs po 1 cap) 118 (0, 0)) := (hg1.1.block w.heap.size (by simp) (by
    rintro (e | e)
    · omega
    · have := HM.out.own_lt _ e.symm; omega)).trans (new0 w _)
  have hg1' := hg1.alloc
  obtain ⟨g, rfl, hFg, hgl, kd2, ys, qo, n2, cp2, hcs, hden⟩ := ((HP.out.alloc _).grew hg1 (HA.out.alloc HM.out _)).at (i := 0) rfl rfl
  obtain ⟨c0, c1, c2, c3, c4, c5⟩ := cellsNode hcs
  rw [Nat.zero_mul] at c0 c1 c2 c3 c4 c5
  simp only [Nat.zero_add] at c1 c2 c3 c4 c5
  have b0 : w1.cell? ⟨w.heap.size, 0, none⟩ = some (.int .i64 kind) := cell_of hbox rfl
  have b5 : w1.cell? ⟨w.heap.size, 5, none⟩ = some (.slice (some ⟨g, 0, none⟩) 1 cap) := cell_of hbox rfl
  have HM1 := hide hm1
  have HG1 := hide hg1'
  have HG0 := hide hg1
  have HBox := hide hbox
  have HDn := hide hden
  have HAw := hide (hg1.away (HA.out.alloc HM.out _))
  have hbl := heap_lt hbox
  clear hm1 hg1 hg1' hbox hcs hden
  go_wp2_with fail
  refine (HD.out M kd2 ys qo n2 cp2 A w1 pb v1 fst (Q ++ [⟨3, fun _ => false, 0, next⟩]) _ Q.length HM1.out HDn.out HAw.out (by simp; omega) (by simp)).mono ?_
  rintro e w2 ⟨v2, Q2, b, rfl, hm2, hg2, hq2, hb2, hok2, hbt2⟩
  have hown1 : some w.heap.size ≠ v1.ownBlock := by
    intro e
    rcases HG0.out.2 with h | ⟨G, h, h2⟩
    · rw [h] at e; have := HM.out.own_lt _ e.symm; omega
    · rw [h] at e; cases e
      rw [World.size_alloc] at h2
      omega
  have hbox2 : w2.heap[w.heap.size]? = some (.cells (nodeAg kind xs (some ⟨g, 0, none⟩) 1 cap) 118 (0, 0)) := (hg2.1.block w.heap.size hbl (by
    rintro (e | e)
    · omega
    · exact hown1 e)).trans HBox.out
  have hown2 : some w.heap.size ≠ v2.ownBlock := by
    intro e
    rcases hg2.2 with h | ⟨G, h, h2⟩
    · rw [h] at e; exact hown1 e
    · rw [h] at e; cases e; omega
  obtain ⟨G, cap2, rfl⟩ := hm2.form (by simp)
  have hll : (Q ++ [(⟨3, fun _ => false, 0, next⟩ : St)] ++ Q2).length = Q.length + 1 + Q2.length := by simp; omega
  rw [hll] at hm2 hg2
  have hGw : G ≠ w.heap.size := fun e => hown2 (by rw [e]; rfl)
  have hGp : G ≠ pb := fun e => hm2.own_ne (by rw [e]; rfl)
  have hlk : (Q ++ [(⟨3, fun _ => false, 0, next⟩ : St)] ++ Q2)[Q.length]? = some ⟨3, fun _ => false, 0, next⟩ := by
    rw [List.append_assoc, List.getElem?_append_right (Nat.le_refl _)]; simp
  obtain ⟨zs, _, hz⟩ := hm2.cells hlk
  have k5 : w2.cell? ⟨G, Q.length * 7 + 5, none⟩ = some (.int .i64 0) := hz 5 _ rfl
  have f5 := hm2.free (Q.length * 7 + 5)
  have p0 : w2.cell? ⟨pb, 0, none⟩ = some (.slice (some ⟨G, 0, none⟩) (Q.length + 1 + Q2.length) cap2) := cell_of hm2.1 rfl
  have d0 : w2.cell? ⟨w.heap.size, 0, none⟩ = some (.int .i64 kind) := cell_of hbox2 rfl
  have HM2 := hide hm2
  have HG2 := hide (HG1.out.trans hg2)
  have HBt := hide hbt2
  have HOK := hide hok2
  have HLk := hide hlk
  clear hm2 hg2 hok2 hbt2 hbox2 c0 c1 c2 c3 c4 c5 b0 b5 hz hlk hown1 hown2
  have hi1 : (Q.length : Int) < ((Q.length + 1 + Q2.length : Nat) : Int) := by omega
  have HM3 : Hid (Mach (w2.setCell ⟨G, Q.length * 7 + 5, none⟩ (.int .i64 b)) pb (.slice (some ⟨G, 0, none⟩) (Q.length + 1 + Q2.length) cap2) fst (Q ++ (⟨3, fun _ => false, b, next⟩ :: Q2))) := by
    have hset : (Q ++ [(⟨3, fun _ => false, 0, next⟩ : St)] ++ Q2).set Q.length ⟨3, fun _ => false, b, next⟩ = Q ++ (⟨3, fun _ => false, b, next⟩ :: Q2) := by
      rw [List.append_assoc, List.set_append_right _ _ (Nat.le_refl _), Nat.sub_self]; rfl
    have := HM2.out.setNext HLk.out b
    rw [hset] at this
    exact this
  have HG3 : Hid (Grew w (w2.setCell ⟨G, Q.length * 7 + 5, none⟩ (.int .i64 b)) pb v (.slice (some ⟨G, 0, none⟩) (Q.length + 1 + Q2.length) cap2)) := by
    refine ⟨HG2.out.1.setCell (p := ⟨G, Q.length * 7 + 5, none⟩) (fun hl => ?_) _, HG2.out.2⟩
    rcases HG2.out.2 with h | ⟨G', h, h2⟩
    · exact Or.inr h
    · cases h
      have h3 : w.heap.size ≤ G := h2
      exact absurd hl (by show ¬ G < w.heap.size; omega)
  have HOK3 : Hid (∀ q ∈ (⟨3, fun _ => false, b, next⟩ :: Q2 : List St), StOK (Q.length + (⟨3, fun _ => false, b, next⟩ :: Q2 : List St).length) q) := by
    intro q hq
    simp only [List.length_cons]
    simp only [List.length_append, List.length_singleton] at hb2
    rcases List.mem_cons.1 hq with rfl | h
    · exact ⟨Nat.le_refl 3, by show b < _; omega, by show next < _; omega⟩
    · exact (HOK.out q h).up (by simp; omega)
  have HL : Hid (BuiltIn Q.length (⟨3, fun _ => false, b, next⟩ :: Q2) Q.length next (starR A) ∧ BuiltIn Q.length (⟨3, fun _ => false, b, next⟩ :: Q2) b next (plusR A)) := BuiltIn.loop (by simpa using HBt.out)
  have hb3 : b < Q.length + (⟨3, fun _ => false, b, next⟩ :: Q2 : List St).length := by
    simp only [List.length_append, List.length_singleton] at hb2
    simp only [List.length_cons]; omega
  rcases HK.out with rfl | rfl
  · go_wp2
    go_ret
    exact ⟨_, _, Q.length, rfl, HM3.out, HG3.out, by simp only [List.length_cons]; omega, by simp, HOK3.out, by rw [← HRR.out]; simpa using HL.out.1⟩
  · go_wp2
    go_ret
    exact ⟨_, _, b, rfl, HM3.out, HG3.out, by simp only [List.length_cons]; omega, hb3, HOK3.out, by rw [← HRR.out]; simpa using HL.out.2⟩
end Go.Proofs.YtdbdbaepmdmnfaaGreatDoor
namespace Go.Proofs.YtdbdbaepmdmnfaaGreatDoor
open Go.RowKit
set_option maxHeartbeats 4000000 in
theorem build_step (d : Nat) (hd : BuildOK d) : BuildOK (d + 1) := by
  intro N kind xs po n cap R w pb v fst Q F next hm hden haw hQ hx
  obtain ⟨kind', xs', po', n', cap', Rs, Ns, hcs, hnode, hRs, hnl, hNs, hcost, hparts⟩ := hden
  have hcs' : nodeCs kind xs po n cap = nodeCs kind' xs' po' n' cap' := hcs
  unfold nodeCs at hcs'
  simp only [List.cons.injEq, Value.int.injEq, Value.slice.injEq, and_true, true_and] at hcs'
  obtain ⟨rfl, hx0, hx1, hx2, hx3, rfl, rfl, rfl⟩ := hcs'
  have hP : DenParts d w F po Rs Ns := by
    rcases hparts with h | h
    · exact Or.inl (by omega)
    · exact Or.inr h
  have hy : ∀ k, k < 4 → xs k = xs' k := fun k hk => by
    match k, hk with
    | 0, _ => exact Int.ofNat.inj hx0
    | 1, _ => exact Int.ofNat.inj hx1
    | 2, _ => exact Int.ofNat.inj hx2
    | 3, _ => exact Int.ofNat.inj hx3
  have hpl := heap_lt hm.1
  have HD := hide hd
  have HM := hide hm
  have HP := hide hP
  have HA := hide haw
  clear hd hm hP haw hparts hcs hx0 hx1 hx2 hx3
  rcases hnode with ⟨rfl, S, hS, rfl⟩ | ⟨rfl, rfl⟩ | ⟨rfl, rfl⟩ | ⟨rfl, rfl⟩ | ⟨rfl, hne, rfl⟩ | ⟨rfl, A, rfl, rfl⟩ | ⟨rfl, A, rfl, rfl⟩ | ⟨rfl, A, rfl, rfl⟩
  · have hc1 : 1 ≤ N := by simp [costOf] at hcost; omega
    have HS := hide hS
    have HY := hide hy
    clear hS hy hcost
    unfold nodeAg
    go_enter Tryz.func56, Tryz.ntmps56
    go_wp2_with fail
    rw [HY.out 0 (by decide), HY.out 1 (by decide), HY.out 2 (by decide), HY.out 3 (by decide)]
    refine (padd_any pb v fst Q ⟨0, S, next, 0⟩ xs' HS.out (by omega) _ (HM.out.alloc _)).mono ?_
    intro e w1 ha
    have HB := hide (ha.build hc1 ⟨Nat.le_of_ble_eq_true rfl, by show next < _; omega, by show 0 < _; omega⟩ (fun Qx h t => built_byte h)).alloc
    obtain ⟨rfl, _⟩ := ha
    go_wp2
    go_ret
    exact HB.out
  · have hc1 : 1 ≤ N := by simp [costOf] at hcost; omega
    clear hy hcost
    unfold nodeAg
    go_enter Tryz.func56, Tryz.ntmps56
    go_wp2_with fail
    refine (padd_any pb v fst Q ⟨1, fun _ => false, next, 0⟩ (fun _ => 0) SetIs.none (by omega) _ (HM.out.alloc _)).mono ?_
    intro e w1 ha
    have HB := hide (ha.build hc1 ⟨Nat.le_of_ble_eq_true rfl, by show next < _; omega, by show 0 < _; omega⟩ (fun Qx h t => built_begin h)).alloc
    obtain ⟨rfl, _⟩ := ha
    go_wp2
    go_ret
    exact HB.out
  · have hc1 : 1 ≤ N := by simp [costOf] at hcost; omega
    clear hy hcost
    unfold nodeAg
    go_enter Tryz.func56, Tryz.ntmps56
    go_wp2_with fail
    refine (padd_any pb v fst Q ⟨2, fun _ => false, next, 0⟩ (fun _ => 0) SetIs.none (by omega) _ (HM.out.alloc _)).mono ?_
    intro e w1 ha
    have HB := hide (ha.build hc1 ⟨Nat.le_of_ble_eq_true rfl, by show next < _; omega, by show 0 < _; omega⟩ (fun Qx h t => built_end h)).alloc
    obtain ⟨rfl, _⟩ := ha
    go_wp2
    go_ret
    exact HB.out
  · have hc1 : Ns.sum ≤ N := by simp [costOf] at hcost; omega
    subst hRs
    clear hy hcost
    unfold nodeAg
    go_enter Tryz.func56, Tryz.ntmps56
    go_wp2_with fail
    refine (buildRow_any d HD.out N Rs Ns hNs hc1 po cap _ pb v fst Q F next (HM.out.alloc _) (HP.out.alloc _) (HA.out.alloc HM.out _) hQ hx hnl.1).mono ?_
    intro e w1 ha
    have HB := hide ha.alloc
    obtain ⟨v', Q', b, rfl, _⟩ := ha
    go_wp2
    go_ret
    exact HB.out
  · have hc1 : Rs.length - 1 + Ns.sum ≤ N := by simp [costOf] at hcost; omega
    have hn0 : Rs.length ≠ 0 := fun e => hne (List.eq_nil_of_length_eq_zero e)
    subst hRs
    clear hy hcost hne
    unfold nodeAg
    go_enter Tryz.func56, Tryz.ntmps56
    go_wp2_with fail
    refine (buildChoice_any d HD.out N Rs Ns hNs hc1 hn0 po cap _ pb v fst Q F next (HM.out.alloc _) (HP.out.alloc _) (HA.out.alloc HM.out _) hQ hx hnl.1 hnl.2).mono ?_
    intro e w1 ha
    have HB := hide ha.alloc
    obtain ⟨v', Q', b, rfl, _⟩ := ha
    go_wp2
    go_ret
    exact HB.out
  · obtain ⟨M, rfl⟩ : ∃ M, Ns = [M] := List.length_eq_one_iff.1 (by rw [hNs, ← hRs]; rfl)
    have hc1 : 1 + M ≤ N := by simp [costOf] at hcost; omega
    have hn1 : n = 1 := hRs.symm
    subst hn1
    clear hy hcost
    unfold nodeAg
    go_enter Tryz.func56, Tryz.ntmps56
    go_wp2_with fail
    refine (buildLoop_any d HD.out 5 (by decide) N M A hc1 xs po cap _ pb v fst Q F next (HM.out.alloc _) (HP.out.alloc _) (HA.out.alloc HM.out _) hQ hx).mono ?_
    intro e w1 ha
    have HB : Hid (BuildPost pb v fst Q next N (starR A) w e w1) := by
      have := ha.alloc
      show BuildPost _ _ _ _ _ _ _ _ _ _
      simpa using this
    obtain ⟨v', Q', b, rfl, _⟩ := ha
    go_wp2
    go_ret
    exact HB.out
  · obtain ⟨M, rfl⟩ : ∃ M, Ns = [M] := List.length_eq_one_iff.1 (by rw [hNs, ← hRs]; rfl)
    have hc1 : 1 + M ≤ N := by simp [costOf] at hcost; omega
    have hn1 : n = 1 := hRs.symm
    subst hn1
    clear hy hcost
    unfold nodeAg
    go_enter Tryz.func56, Tryz.ntmps56
    go_wp2_with fail
    refine (buildLoop_any d HD.out 6 (by decide) N M A hc1 xs po cap _ pb v fst Q F next (HM.out.alloc _) (HP.out.alloc _) (HA.out.alloc HM.out _) hQ hx).mono ?_
    intro e w1 ha
    have HB : Hid (BuildPost pb v fst Q next N (plusR A) w e w1) := by
      have := ha.alloc
      show BuildPost _ _ _ _ _ _ _ _ _ _
      simpa using this
    obtain ⟨v', Q', b, rfl, _⟩ := ha
    go_wp2
    go_ret
    exact HB.out
  · obtain ⟨M, rfl⟩ : ∃ M, Ns = [M] := List.length_eq_one_iff.1 (by rw [hNs, ← hRs]; rfl)
    have hc1 : 1 + M ≤ N := by simp [costOf] at hcost; omega
    have hn1 : n = 1 := hRs.symm
    subst hn1
    clear hy hcost
    obtain ⟨g, rfl, hFg, hgl, kd2, ys, qo, n2, cp2, hcs, hden⟩ := HP.out.at (i := 0) rfl rfl
    obtain ⟨c0, c1, c2, c3, c4, c5⟩ := cellsNode hcs
    rw [Nat.zero_mul] at c0 c1 c2 c3 c4 c5
    simp only [Nat.zero_add] at c1 c2 c3 c4 c5
    have HDn : ∀ o, Hid (Den d M (w.alloc o) F (nodeCs kd2 ys qo n2 cp2) A) := fun o => hden.frame (by simp) (fun g _ hl => Below.heap_alloc _ _ _ hl)
    clear hcs hden
    unfold nodeAg
    go_enter Tryz.func56, Tryz.ntmps56
    go_wp2_with fail
    refine (HD.out M kd2 ys qo n2 cp2 A _ pb v fst Q F next (HM.out.alloc _) (HDn _).out (HA.out.alloc HM.out _) (by omega) hx).mono ?_
    rintro e w2 ⟨v2, Q2, b, rfl, hm2, hg2, hq2, hb2, hok2, hbt2⟩
    have HM2 := hide hm2
    have HG2 := hide hg2.alloc
    have HOK := hide hok2
    have HBt := hide hbt2
    clear hm2 hg2 hok2 hbt2 c0 c1 c2 c3 c4 c5
    go_wp2_with fail
    refine (padd_any pb v2 fst (Q ++ Q2) ⟨3, fun _ => false, b, next⟩ (fun _ => 0) SetIs.none (by simp; omega) w2 HM2.out).mono ?_
    rintro e w4 ⟨rfl, v4, hm4, hg4⟩
    rw [List.append_assoc] at hm4
    have HB : Hid (BuildPost pb v fst Q next N (optR A) w (.returned (.int .i64 ((Q.length : Int) + (Q2.length : Int)))) w4) := by
      refine ⟨v4, Q2 ++ [⟨3, fun _ => false, b, next⟩], (Q ++ Q2).length, by rw [List.length_append]; rfl, hm4, HG2.out.trans hg4, by simp; omega, by simp, fun q hq => ?_, fun Qx hx t => ?_⟩
      · simp only [List.length_append, List.length_singleton]
        rcases List.mem_append.1 hq with h | h
        · exact (HOK.out q h).up (by omega)
        · simp at h; subst h
          exact ⟨Nat.le_refl 3, by show b < _; omega, by show next < _; omega⟩
      · rw [List.length_append]
        refine built_opt (hx Q2.length ⟨3, fun _ => false, b, next⟩ (by rw [List.getElem?_append_right (Nat.le_refl _)]; simp)) (HBt.out Qx (fun k q hk => hx k q ?_) t)
        rw [List.getElem?_append_left (List.getElem?_eq_some_iff.1 hk).1]; exact hk
    clear hm4 hg4
    go_wp2
    go_ret
    exact HB.out
theorem build_all (d : Nat) : BuildOK d := by
  induction d with
  | zero => intro N kind xs po n cap R w pb v fst Q F next hm hden; exact hden.elim
  | succ d ih => exact build_step d ih
end Go.Proofs.YtdbdbaepmdmnfaaGreatDoor
namespace Go.Proofs.YtdbdbaepmdmnfaaGreatDoor
open Go.RowKit
/-- A machine that stands: every way leads to a state that there is; each state but the first goes on. -/
def WfQ (Q : List St) : Prop := ∀ q ∈ Q, q.kind ≤ 4 ∧ q.next < Q.length ∧ q.other < Q.length
/-- The states that a value of the program's type of patterns holds. -/
def PatAt (w : World) (v : Value) (Q : List St) : Prop := ∃ xs, w.ownsRow 0 125 7 v Q.length xs ∧ StCells Q xs
/-- A pattern that was read: its value, its machine, its meaning. -/
def PatVal (w : World) (B : Nat) (v : Value) (first : Nat) (Q : List St) (R : Pat) : Prop :=
  PatAt w v Q ∧ (∀ k, v.ownBlock = some k → B ≤ k) ∧ Q.length ≤ 1000000 ∧ first < Q.length ∧ WfQ Q ∧ OneDone Q ∧ ∀ t i e, Acc Q t first e i ↔ R t i e
theorem acc_done {Q : List St} {q : St} (h : Q[0]? = some q) (hk : q.kind = 4) {t n i e} : AccN Q t n 0 i e → e = i := by
  intro hA
  cases n with
  | zero => exact (accN_zero hA).2
  | succ n =>
    obtain ⟨d, ⟨r, j, hs, _⟩, _⟩ := hA
    obtain ⟨s, h1, h2⟩ := hs
    rw [h] at h1
    cases h1
    omega
theorem pat_acc {Q' : List St} {q : St} {b : Nat} {R : Pat} (hk : q.kind = 4) (h : BuiltIn 1 Q' b 0 R) (t : List UInt8) (i e : Nat) : Acc (q :: Q') t b e i ↔ R t i e := by
  have hb := h (q :: Q') (fun k x hx => by rw [Nat.add_comm]; exact hx) t
  have h0 : (q :: Q')[0]? = some q := rfl
  constructor
  · rintro ⟨n, hA⟩
    obtain ⟨j, m, _, hr, hA2⟩ := hb.1 n e i hA
    rw [acc_done h0 hk hA2]; exact hr
  · intro hr
    exact hb.2 e i i hr ⟨0, 0, ⟨rfl, rfl⟩, q, h0, hk⟩
theorem one_done {q : St} {Q' : List St} (h : ∀ x ∈ Q', x.kind ≤ 3) : OneDone (q :: Q') := by
  have key : ∀ d, Done (q :: Q') d → d = 0 := by
    rintro d ⟨s, hs, hk⟩
    cases d with
    | zero => rfl
    | succ d =>
      have := h s (List.mem_of_getElem? (by simpa using hs))
      omega
  intro d d' h1 h2
  rw [key d h1, key d' h2]
/-- The state at which a match begins. -/
def doneSt : St := ⟨4, fun _ => false, 0, 0⟩
theorem add_first (P : Nat) (W : World) (h : Mach W P (.slice none 0 0) 0 []) :
    Calls Tryz.prog 57 #[.pointer (some ⟨P, 0, none⟩), .agg #[.int .i64 4, .int .u64 0, .int .u64 0, .int .u64 0, .int .u64 0, .int .i64 0, .int .i64 0]] W fun e w2 =>
      e = .returned (.int .i64 0) ∧ ∃ v2, Mach w2 P v2 0 [doneSt] ∧ Only (fun k => k = P) W w2 ∧ ∀ k, v2.ownBlock = some k → W.heap.size ≤ k := by
  refine (padd_any P (.slice none 0 0) 0 [] doneSt (fun _ => 0) SetIs.none (by decide) W h).mono ?_
  rintro e w2 ⟨rfl, v2, hm, hg⟩
  refine ⟨rfl, v2, hm, hg.1.mono (fun i _ hi => ?_), fun k hk => ?_⟩
  · rcases hi with hi | hi
    · exact hi
    · cases hi
  · rcases hg.2 with e | ⟨G, e, h2⟩
    · rw [e] at hk; cases hk
    · rw [e] at hk; cases hk; exact h2
theorem build_first (P B d N : Nat) (kind : Int) (xs : Nat → Nat) (po : Option Addr) (n cap : Nat) (R : Pat) (F : Nat → Prop) (v2 : Value) (w2 : World) (h : Mach w2 P v2 0 [doneSt]) (hB : ∀ k, v2.ownBlock = some k → B ≤ k) (hBs : B ≤ w2.heap.size) (hden : Den d N w2 F (nodeCs kind xs po n cap) R) (hF : ∀ g, F g → g < B ∧ g ≠ P) (hN : N ≤ 900000) :
    Calls Tryz.prog 56 #[.pointer (some ⟨P, 0, none⟩), .agg #[.int .i64 kind, .int .u64 (xs 0), .int .u64 (xs 1), .int .u64 (xs 2), .int .u64 (xs 3), .slice po n cap], .int .i64 0] w2 fun e w3 =>
      ∃ (v3 : Value) (Q : List St) (b : Nat), e = .returned (.int .i64 b) ∧ Mach w3 P v3 0 Q ∧ Only (fun k => k = P ∨ B ≤ k) w2 w3 ∧ (∀ k, v3.ownBlock = some k → B ≤ k) ∧ Q.length ≤ 1000000 ∧ b < Q.length ∧ WfQ Q ∧ OneDone Q ∧ ∀ t i e, Acc Q t b e i ↔ R t i e := by
  have haw : Away F w2 P v2 := fun g hg _ => ⟨(hF g hg).2, fun e => by have := hB g e.symm; have := (hF g hg).1; omega⟩
  refine (build_all d N kind xs po n cap R w2 P v2 0 [doneSt] F 0 h hden haw (by simp; omega) (by simp)).mono ?_
  rintro e w3 ⟨v3, Q', b, rfl, hm3, hg3, hq3, hb3, hok3, hbt3⟩
  refine ⟨v3, doneSt :: Q', b, rfl, hm3, hg3.1.mono (fun i _ hi => ?_), fun k hk => ?_, by simp; omega, by simp at hb3; simp; omega, fun q hq => ?_, one_done (fun x hx => (hok3 x hx).1), fun t i e => pat_acc rfl hbt3 t i e⟩
  · rcases hi with hi | hi
    · exact Or.inl hi
    · exact Or.inr (hB i hi.symm)
  · rcases hg3.2 with e | ⟨G, e, h2⟩
    · rw [e] at hk; exact hB k hk
    · rw [e] at hk; cases hk; omega
  · rcases List.mem_cons.1 hq with rfl | hq
    · exact ⟨Nat.le_refl 4, by show 0 < _; simp, by show 0 < _; simp⟩
    · have := hok3 q hq
      rw [List.length_singleton, Nat.add_comm] at this
      exact ⟨Nat.le_trans this.1 (by decide), this.2.1, this.2.2⟩
theorem read_add (w1 : World) (d N lo : Nat) (kind : Int) (xs : Nat → Nat) (po : Option Addr) (n cap : Nat) (R : Pat) (hd : Den d N w1 (fun g => lo < g ∧ g < w1.heap.size) (nodeCs kind xs po n cap) R) :
    Calls Tryz.prog 57 #[.pointer (some ⟨w1.heap.size + 1, 0, none⟩), .agg #[.int .i64 4, .int .u64 0, .int .u64 0, .int .u64 0, .int .u64 0, .int .i64 0, .int .i64 0]]
      (((w1.alloc (.cells #[.int .i64 kind, .int .u64 (xs 0), .int .u64 (xs 1), .int .u64 (xs 2), .int .u64 (xs 3), .slice po n cap] 118)).alloc (.cells #[.slice none 0 0, .int .i64 0] 68)).drew) fun e w2 =>
      e = .returned (.int .i64 0) ∧ ∃ v2, Mach w2 (w1.heap.size + 1) v2 0 [doneSt] ∧ (∀ k, v2.ownBlock = some k → w1.heap.size + 2 ≤ k) ∧ w1.heap.size + 2 ≤ w2.heap.size ∧ Den d N w2 (fun g => lo < g ∧ g < w1.heap.size) (nodeCs kind xs po n cap) R ∧
        w2.heap[w1.heap.size]? = some (.cells (nodeAg kind xs po n cap) 118 (0, 0)) ∧ Only (fun _ => False) w1 w2 := by
  have hM : Mach (((w1.alloc (.cells #[.int .i64 kind, .int .u64 (xs 0), .int .u64 (xs 1), .int .u64 (xs 2), .int .u64 (xs 3), .slice po n cap] 118)).alloc (.cells #[.slice none 0 0, .int .i64 0] 68)).drew) (w1.heap.size + 1) (.slice none 0 0) 0 [] := ⟨newb1 w1 _ _, [], World.ownsRow_nil _ _ _ _, fun k q h => by simp at h⟩
  refine (add_first _ _ hM).mono ?_
  rintro e w2 ⟨rfl, v2, hm2, ho2, hB2⟩
  have hsz : ((w1.alloc (.cells #[.int .i64 kind, .int .u64 (xs 0), .int .u64 (xs 1), .int .u64 (xs 2), .int .u64 (xs 3), .slice po n cap] 118)).alloc (.cells #[.slice none 0 0, .int .i64 0] 68)).drew.heap.size = w1.heap.size + 2 := by simp
  have ho0 : Only (fun _ => False) w1 ((w1.alloc (.cells #[.int .i64 kind, .int .u64 (xs 0), .int .u64 (xs 1), .int .u64 (xs 2), .int .u64 (xs 3), .slice po n cap] 118)).alloc (.cells #[.slice none 0 0, .int .i64 0] 68)).drew := (((Only.refl _ w1).alloc _).alloc _).drewN 1
  have ho3 : Only (fun _ => False) w1 w2 := ho0.trans ho2 (fun i hi e => by omega)
  refine ⟨rfl, v2, hm2, fun k hk => by have := hB2 k hk; omega, by have := ho2.size; omega, hd.only ho3 (fun _ _ e => e), ?_, ho3⟩
  exact (ho2.block w1.heap.size (by omega) (by omega)).trans ((Below.heap_alloc _ _ _ (by simp)).trans (new0 w1 _))
/-- What is answered for a pattern's text. -/
def ReadPost (s : ByteArray) (w : World) (e : Ending) (w' : World) : Prop :=
  Only (fun _ => False) w w' ∧ (wholeP s.data.toList = none → e = .returned (.tuple #[.agg #[.slice none 0 0, .int .i64 0], .bool false])) ∧
    ∀ R, wholeP s.data.toList = some R → ∃ v first Q, e = .returned (.tuple #[.agg #[v, .int .i64 (first : Nat)], .bool true]) ∧ PatVal w' w.heap.size v first Q R
set_option maxHeartbeats 4000000 in
theorem read_any (s : ByteArray) (h6 : s.size ≤ 65536) (w : World) : Calls Tryz.prog 39 #[.string s] w (ReadPost s w) := by
  have hn : ∀ o, w.heap.size < w.heap.size → (fun _ => False) (Addr.block ⟨w.heap.size, o, none⟩) := fun _ h => absurd h (Nat.lt_irrefl _)
  go_enter Tryz.func39, Tryz.ntmps39
  go_wp2_with fail
  refine (readTree_any s h6 _).mono ?_
  rintro e w1 ⟨ho1, kind, xs, po, n, cap, rfl, hden⟩
  have hq : w1.heap[w.heap.size]? = some (.cells #[.slice none 0 0, .int .i64 0] 68 (0, 0)) := (ho1.block w.heap.size (by simp) (fun e => e)).trans (new0 w _)
  have HO1 : Hid (Only (fun _ => False) w w1) := ((Only.refl (fun _ => False) w).alloc _).trans ho1 (fun k _ e => e)
  have hsq1 := heap_lt hq
  have z0 : w1.cell? ⟨w.heap.size, 0, none⟩ = some (.slice none 0 0) := cell_of hq rfl
  have z1 : w1.cell? ⟨w.heap.size, 1, none⟩ = some (.int .i64 0) := cell_of hq rfl
  have y0 := free_of hq 0
  have y1 := free_of hq 1
  have HQ := hide hq
  have HD := hide hden
  clear ho1 hden hq
  unfold nodeAg
  cases hc : wholeP s.data.toList with
  | none =>
    have HC := hide hc
    clear hc
    simp only [Option.isSome_none]
    go_wp2
    refine bodyPost_ret (v := .tuple #[.agg #[.slice none 0 0, .int .i64 0], .bool false]) (by simp [results, Tryz.results39, go_sem, z0, z1, hsq1]) rfl ⟨?_, fun _ => rfl, fun R h => ?_⟩
    · exact ((HO1.out.setCell (p := ⟨w.heap.size, 0, none⟩) (hn 0) _).setCell (p := ⟨w.heap.size, 1, none⟩) (hn 1) _).alloc _
    · rw [HC.out] at h; cases h
  | some R =>
    obtain ⟨d, hd⟩ := HD.out R hc
    have HC := hide hc
    have HD1 := hide hd
    clear hc hd HD
    simp only [Option.isSome_some]
    go_wp2
    have HD2 : Hid (Den d s.size w1 (fun g => w.heap.size < g ∧ g < w1.heap.size) (nodeCs kind xs po n cap) R) := HD1.out.mono (fun g hl hg => ⟨by simp at hg; omega, hl⟩)
    clear HD1
    have hr6 : s.size ≤ 900000 := by omega
    go_region_with (first
      | (go_at_call 57; refine (read_add w1 d s.size w.heap.size kind xs po n cap R HD2.out).mono ?_; rintro e w2 ⟨rfl, v2, hm2, hB2, hw2, hdn, hbx, ho2⟩; have b0 : w2.cell? ⟨w1.heap.size, 0, none⟩ = some (.int .i64 kind) := cell_of hbx rfl; have b1 : w2.cell? ⟨w1.heap.size, 1, none⟩ = some (.int .u64 (xs 0)) := cell_of hbx rfl; have b2 : w2.cell? ⟨w1.heap.size, 2, none⟩ = some (.int .u64 (xs 1)) := cell_of hbx rfl; have b3 : w2.cell? ⟨w1.heap.size, 3, none⟩ = some (.int .u64 (xs 2)) := cell_of hbx rfl; have b4 : w2.cell? ⟨w1.heap.size, 4, none⟩ = some (.int .u64 (xs 3)) := cell_of hbx rfl; have b5 : w2.cell? ⟨w1.heap.size, 5, none⟩ = some (.slice po n cap) := cell_of hbx rfl; have HDn := hide hdn; have HB2 := hide hB2; have HM2 := hide hm2; have HO2 := hide ho2; clear hm2 ho2 hB2 hbx hdn)
      | (go_at_call 56; refine (build_first (w1.heap.size + 1) (w1.heap.size + 2) d s.size kind xs po n cap R (fun g => w.heap.size < g ∧ g < w1.heap.size) v2 _ HM2.out HB2.out hw2 HDn.out (fun g hg => ⟨by omega, by omega⟩) hr6).mono ?_; rintro e w3 ⟨v3, Q, b, rfl, hm3, ho3, hB3, hQ3, hb3, hwf3, hone3, hacc3⟩; have p0 : w3.cell? ⟨w1.heap.size + 1, 0, none⟩ = some v3 := cell_of hm3.1 rfl; have p1 : w3.cell? ⟨w1.heap.size + 1, 1, none⟩ = some (.int .i64 0) := cell_of hm3.1 rfl; have f1 := free_of hm3.1 1; have HM3 := hide hm3; have HO3 := hide ho3; have HB3 := hide hB3; have HW3 := hide hwf3; have HA3 := hide hacc3; clear hm3 ho3 hB3 hwf3 hacc3))
    all_goals
      obtain ⟨G3, cp3, rfl⟩ := HM3.out.form (by omega)
      have hq3 : w3.heap[w.heap.size]? = some (.cells #[.slice none 0 0, .int .i64 0] 68 (0, 0)) := (HO3.out.block w.heap.size (by omega) (by omega)).trans ((HO2.out.block w.heap.size hsq1 (fun e => e)).trans HQ.out)
      clear z0 z1 y0 y1
      have z0 : w3.cell? ⟨w.heap.size, 0, none⟩ = some (.slice none 0 0) := cell_of hq3 rfl
      have z1 : w3.cell? ⟨w.heap.size, 1, none⟩ = some (.int .i64 0) := cell_of hq3 rfl
      have y0 := free_of hq3 0
      have y1 := free_of hq3 1
      have hsq3 := heap_lt hq3
      clear hq3
      go_wp2
      refine bodyPost_ret (v := .tuple #[.agg #[.slice (some ⟨G3, 0, none⟩) Q.length cp3, .int .i64 b], .bool true]) (by simp [results, Tryz.results39, go_sem, z0, z1]) rfl ⟨?_, fun h => (by rw [HC.out] at h; cases h), fun R' h => ?_⟩
      · exact ((((HO1.out.trans HO2.out (fun k _ e => e)).trans HO3.out (fun k hk e => by omega)).setCell (p := ⟨w1.heap.size + 1, 1, none⟩) (fun h => absurd h (by show ¬ w1.heap.size + 1 < w.heap.size; omega)) _).setCell (p := ⟨w.heap.size, 0, none⟩) (hn 0) _).setCell (p := ⟨w.heap.size, 1, none⟩) (hn 1) _
      · rw [HC.out] at h
        cases h
        obtain ⟨_, ws, hown, hst⟩ := HM3.out
        refine ⟨_, b, Q, rfl, ⟨ws, ownsRow_of hown (fun k hk => ?_), hst⟩, fun k hk => by have := HB3.out k hk; omega, hQ3, hb3, HW3.out, hone3, HA3.out⟩
        have := HB3.out k hk
        rw [Below.heap_setCell _ _ _ _ (show k ≠ w.heap.size by omega), Below.heap_setCell _ _ _ _ (show k ≠ w.heap.size by omega), Below.heap_setCell _ _ _ _ (show k ≠ w1.heap.size + 1 by omega)]
end Go.Proofs.YtdbdbaepmdmnfaaGreatDoor
namespace Go.Proofs.YtdbdbaepmdmnfaaGreatDoor
open Go.RowKit
/-- A reader that is the beginning of a parser's block. -/
def PSt (w : World) (pb : Nat) (T : ByteArray) (i : Nat) (dv : Bool) (k : Nat) (x : ByteArray) (xa : Nat) (ge : Bool) : Prop :=
  w.heap[pb]? = some (.cells #[.string T, .int .i64 i, .bool dv, .int .i64 k, .string x, .int .i64 xa, .bool ge] 154 (0, 0))
theorem PSt.tk {w pb T i dv k x xa ge} (h : PSt w pb T i dv k x xa ge) : TkAt w pb T i dv := ⟨cell_of h rfl, cell_of h rfl, cell_of h rfl⟩
theorem PSt.drewN {w pb T i dv k x xa ge} (h : PSt w pb T i dv k x xa ge) (n : Nat) : PSt (w.drewN n) pb T i dv k x xa ge := h
theorem PSt.setAt {w pb T i dv k x xa ge} (h : PSt w pb T i dv k x xa ge) (j : Nat) : PSt (w.setCell ⟨pb, 1, none⟩ (.int .i64 j)) pb T j dv k x xa ge := heap_setCell_same h _
theorem PSt.setDv {w pb T i dv k x xa ge} (h : PSt w pb T i dv k x xa ge) (d : Bool) : PSt (w.setCell ⟨pb, 2, none⟩ (.bool d)) pb T i d k x xa ge := heap_setCell_same h _
theorem PSt.only {w w' pb T i dv k x xa ge D} (h : PSt w pb T i dv k x xa ge) (ho : Only D w w') (hd : ¬ D pb) : PSt w' pb T i dv k x xa ge := (ho.block pb (heap_lt h) hd).trans h
set_option maxRecDepth 10000 in
set_option maxHeartbeats 8000000 in
theorem skip_all (pb : Nat) (T : ByteArray) (i : Nat) (dv : Bool) (k : Nat) (x : ByteArray) (xa : Nat) (ge : Bool) (hi : i ≤ T.size) (h5 : T.size ≤ 65000) (hc : ∀ c, T.data.toList[runTo blankB T.data.toList i]? = some c → ((c.toNat : Int) == 35) = false) (w : World) (h : PSt w pb T i dv k x xa ge) :
    Calls Tryz.prog 134 #[.pointer (some ⟨pb, 0, none⟩)] w fun en w' => en = .returned (.tuple #[]) ∧ PSt w' pb T (runTo blankB T.data.toList i) dv k x xa ge ∧ Only (fun k => k = pb) w w' := by
  obtain ⟨E, HE⟩ : ∃ E, Hid (E = runTo blankB T.data.toList i) := ⟨_, rfl⟩
  rw [← HE.out]
  rw [← HE.out] at hc
  have HC := hide hc
  have hEl : E ≤ T.size := by rw [HE.out]; have := runTo_le (p := blankB) (l := T.data.toList) (k := i) (by rw [len_eq]; exact hi); rw [len_eq] at this; exact this
  have HP := hide h
  clear h hc
  go_enter Tryz.func134, Tryz.ntmps134
  go_wp2
  go_loopg [2] (T.size + 1 - i) (fun g _ wr => ∃ j : Nat, g = T.size + 1 - j ∧ PSt wr pb T j dv k x xa ge ∧ Only (fun k => k = pb) w wr ∧ i ≤ j ∧ j ≤ E ∧ runTo blankB T.data.toList j = E)
  case atStart => exact ⟨i, rfl, HP.out, Only.refl _ _, Nat.le_refl _, by rw [HE.out]; exact runTo_ge _ _ _, HE.out.symm⟩
  case round =>
    obtain ⟨j, hg, hp, ho, hij, hjE, hrj⟩ := hrel
    have HG := hide hg
    have HPj := hide hp
    have HO := hide ho
    have HRj := hide hrj
    have c0 : wr.cell? ⟨pb, 0, none⟩ = some (.string T) := cell_of hp rfl
    have c1 : wr.cell? ⟨pb, 1, none⟩ = some (.int .i64 j) := cell_of hp rfl
    have cf := free_of hp
    clear hg hp ho hrj
    by_cases hlt : j < T.size
    · have hli : (j : Int) < (T.size : Int) := by omega
      have hget := get_of_lt T j hlt
      cases hb : blankB T[j]
      · have hjE2 : j = E := by
          rw [← HRj.out]
          exact (runTo_stop (fun c hc => by rw [hget] at hc; cases hc; exact hb)).symm
        have hne : ((T[j].toNat : Int) == 35) = false := by
          have := HC.out T[j]
          rw [← hjE2] at this
          exact this hget
        subst hjE2
        clear hget
        go_wp2_with fail
        go_quiet (first | (go_at_call 171; exact Calls.quiet_of (tended_no pb T j dv hlt _ HPj.out.tk)) | (go_at_call 51; exact Calls.quiet_of_same (by have := isBlank_any T[j]; rw [hb] at this; exact this _)))
        go_wp2
        go_end0
        exact ⟨rfl, HPj.out.drewN _, HO.out.drewN _⟩
      · have HR2 : Hid (runTo blankB T.data.toList (j + 1) = E) := by
          show _ = E
          rw [runTo_step hget hb]; exact HRj.out
        have hnn : ((T[j].toNat : Int) == 35) = false := by
          rw [beq_eq_false_iff_ne]
          intro e
          unfold blankB at hb
          rw [e] at hb
          simp at hb
        clear hget
        go_wp2_with fail
        go_quiet (first | (go_at_call 171; exact Calls.quiet_of (tended_no pb T j dv hlt _ HPj.out.tk)) | (go_at_call 51; exact Calls.quiet_of_same (by have := isBlank_any T[j]; rw [hb] at this; exact this _)))
        go_wp2
        go_quiet (fail)
        go_wp2
        go_roundg (T.size + 1 - (j + 1))
        case measure => rw [HG.out]; omega
        case rel => exact ⟨j + 1, rfl, HPj.out.setAt (j + 1), (HO.out.drewN _).setCell (p := ⟨pb, 1, none⟩) (fun _ => rfl) _, by omega, by have := runTo_ge blankB T.data.toList (j + 1); rw [HR2.out] at this; omega, HR2.out⟩
    · have hjs : j = T.size := by omega
      have hjE2 : j = E := by omega
      subst hjE2
      go_wp2_with fail
      go_quiet (first | (go_at_call 171; exact Calls.quiet_of (tended_yes pb T j dv hjs _ HPj.out.tk)))
      go_wp2
      go_end0
      exact ⟨rfl, HPj.out.drewN _, HO.out.drewN _⟩
end Go.Proofs.YtdbdbaepmdmnfaaGreatDoor
