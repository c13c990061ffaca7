import Derived.Test.YthhiofppbpgipaaGreatDoorMRRow
namespace Go.Proofs.YthhiofppbpgipaaGreatDoor
open Go.RowKit
theorem altP_row_none {sub : Nat → Option (Pat × Nat)} {l : List UInt8} {n i : Nat} {acc : List Pat} (h : rowP sub l (l.length + 1) i [] = none) : altP sub l (n + 1) i acc = none := by
  unfold altP
  rw [h]
theorem altP_row {sub : Nat → Option (Pat × Nat)} {l : List UInt8} {n i : Nat} {acc : List Pat} {R : Pat} {j : Nat} (h : rowP sub l (l.length + 1) i [] = some (R, j)) : altP sub l (n + 1) i acc = if hasB l j 124 then altP sub l n (j + 1) (acc ++ [R]) else some (altR (acc ++ [R]), j) := by
  conv => lhs; unfold altP
  rw [h]
/-- The state of the reading of a choice: what has been read means acc. -/
def AltI (f : Nat) (b : Nat) (s : ByteArray) (i : Nat) (v : Value) (P : List Pc) (Res : Option (Pat × Nat)) (w : World) (j : Nat) (v' : Value) (Q : List Pc) (bad : Bool) (s3 : Value) (wr : World) : Prop :=
  RefP wr b s j bad v' (P ++ Q) ∧ Grew w wr b v v' ∧ ((bad = true ∧ Res = none ∧ ∃ z : Nat, s3 = .int .i64 z) ∨ (bad = false ∧ i < j ∧ j ≤ s.size ∧ ∃ (m : Nat) (acc : List Pat) (z d : Nat), s.size ≤ m + j ∧ (if hasB s.data.toList j 124 then altP (choiceP s.data.toList f) s.data.toList m (j + 1) acc else some (altR acc, j)) = Res ∧ s3 = .int .i64 z ∧ PcIs (P ++ Q) d z (altR acc) ∧ Q.length + 1 ≤ 2 * (j - i)))
set_option maxRecDepth 100000 in
set_option maxHeartbeats 4000000 in
theorem either_step (f : Nat) (hf : EitherOK f) (hC : ClassOK) : EitherOK (f + 1) := by
  intro b s i v P w h5 hi hfl hPl h
  have hml : s.size ≤ maxLen := by unfold maxLen; omega
  have hlen : s.data.toList.length = s.size := len_eq s
  obtain ⟨Res, hRes⟩ : ∃ Res, altP (choiceP s.data.toList f) s.data.toList (s.data.toList.length + 1) i [] = Res := ⟨_, rfl⟩
  show Calls _ _ _ _ (RRPost b s i v P (altP (choiceP s.data.toList f) s.data.toList (s.data.toList.length + 1) i []) w)
  rw [hRes]
  have HR := hide h
  have HF := hide hf
  have HC := hide hC
  have HRes := hide hRes
  clear h hf hC hRes
  go_enter Tryz.func54, Tryz.ntmps54
  go_wp2_with fail
  refine (rrow_any f HF.out HC.out b s h5 i hi (by omega) v P hPl w HR.out).mono ?_
  rintro e w1 ⟨z1, i1, v1, Q1, rfl, hr1, hg1, hres1⟩
  have HI0 : Hid (AltI f b s i v P Res w i1 v1 Q1 (rowP (choiceP s.data.toList f) s.data.toList (s.data.toList.length + 1) i []).isNone (.int .i64 z1) w1) := by
    refine ⟨hr1, hg1, ?_⟩
    cases hc : rowP (choiceP s.data.toList f) s.data.toList (s.data.toList.length + 1) i [] with
    | none => exact Or.inl ⟨rfl, by rw [← HRes.out, altP_row_none hc], z1, rfl⟩
    | some p =>
      obtain ⟨R, j⟩ := p
      obtain ⟨e1, hql, d, hpc⟩ := hres1 R j hc
      subst e1
      have hpg := rowP_prog (choice_prog _ f) hc (by rw [len_eq]; exact hi)
      rw [len_eq] at hpg
      have hlt := hpg.2.2 rfl
      exact Or.inr ⟨rfl, hlt, hpg.2.1, s.data.toList.length, [R], z1, d, by omega, by rw [← HRes.out, altP_row hc]; rfl, rfl, by rw [altR_one]; exact hpc, hql⟩
  generalize (rowP (choiceP s.data.toList f) s.data.toList (s.data.toList.length + 1) i []).isNone = bad1 at HI0
  clear hr1 hg1 hres1 HRes HR
  go_wp2_with fail
  go_loopg [3] (if bad1 then 0 else s.size + 1 - i1) (fun g s3 wr => ∃ (j : Nat) (v' : Value) (Q : List Pc) (bad : Bool), g = (if bad then 0 else s.size + 1 - j) ∧ AltI f b s i v P Res w j v' Q bad s3 wr)
  case atStart => exact ⟨i1, v1, Q1, bad1, rfl, HI0.out⟩
  case round =>
    clear HI0
    obtain ⟨j, v', Q, bad, hg, hr, hgr, hcase⟩ := hrel
    have c0 : wr.cell? ⟨b, 0, none⟩ = some (.string s) := cell_of hr.rd rfl
    have c1 : wr.cell? ⟨b, 1, none⟩ = some (.int .i64 j) := cell_of hr.rd rfl
    have c2 : wr.cell? ⟨b, 2, none⟩ = some (.bool bad) := cell_of hr.rd rfl
    have c1' : ∀ n, (wr.drewN n).cell? ⟨b, 1, none⟩ = some (.int .i64 j) := fun n => cell_of (hr.rd.drewN n) rfl
    have f1' : ∀ n, (wr.drewN n).frozen? ⟨b, 1, none⟩ = false := fun n => free_of (hr.rd.drewN n) 1
    have HR := hide hr
    have HGr := hide hgr
    have Hg := hide hg
    clear hr hgr hg
    rcases hcase with ⟨e1, hres, z, e2⟩ | ⟨e1, hij, hjs, m, acc, z, d, hm, hres, e2, hpc, hql⟩
    · subst e1
      subst e2
      have HRes := hide hres
      clear hres
      go_wp2_with fail
      go_ret
      rw [HRes.out]
      exact ⟨z, j, v', Q, rfl, HR.out, HGr.out, fun R j' h => by cases h⟩
    · subst e1
      subst e2
      have HPc := hide hpc
      clear hpc
      cases hb : hasB s.data.toList j 124 with
      | false =>
        rw [hb] at hres
        have HRn : Hid (Res = some (altR acc, j)) := by
          show Res = _
          rw [← hres]; rfl
        have HB := hide hb
        clear hres hb
        go_wp2_with fail
        refine (rat_is b s j hml 124 false HB.out _ c0 c1).mono ?_
        rintro e w3 ⟨rfl, n3, rfl⟩
        go_wp2_with fail
        go_ret
        rw [HRn.out]
        exact ⟨z, j, v', Q, rfl, HR.out.drewN _, HGr.out.drewN _, fun R' j' h => by
          cases h
          exact ⟨rfl, hql, d, HPc.out⟩⟩
      | true =>
        rw [hb] at hres
        have hjl := hasB_lt hb
        rw [hlen] at hjl
        have hres2 : altP (choiceP s.data.toList f) s.data.toList m (j + 1) acc = Res := by rw [← hres]; rfl
        obtain ⟨m, rfl⟩ : ∃ m', m = m' + 1 := ⟨m - 1, by omega⟩
        have HRes := hide hres2
        have HB := hide hb
        clear hres hb hres2
        go_wp2_with fail
        refine (rat_is b s j hml 124 true HB.out _ c0 c1).mono ?_
        rintro e w3 ⟨rfl, n3, rfl⟩
        have c1n := c1' n3
        have f1n := f1' n3
        go_wp2_with fail
        refine (rrow_any f HF.out HC.out b s h5 (j + 1) (by omega) (by omega) v' (P ++ Q) (by rw [List.length_append]; omega) _ ((HR.out.drewN n3).setI (j + 1))).mono ?_
        rintro e w2 ⟨z2, i2, v2, Q2, rfl, hr2, hg2, hres2⟩
        have HG2 : Hid (Grew w w2 b v v2) := (HGr.out.drewN n3).trans ((Grew.of_moved (Only.setCell (D := fun k => k = b) (p := ⟨b, 1, none⟩) (Only.refl _ _) (fun _ => rfl) _)).trans hg2)
        cases hc : rowP (choiceP s.data.toList f) s.data.toList (s.data.toList.length + 1) (j + 1) [] with
        | none =>
          rw [hc] at hr2
          have HRn : Hid (Res = none) := by
            show Res = none
            rw [← HRes.out, altP_row_none hc]
          have d2 : w2.cell? ⟨b, 2, none⟩ = some (.bool true) := cell_of hr2.rd rfl
          have HR2 : Hid (RefP w2 b s i2 true v2 (P ++ (Q ++ Q2))) := by
            show RefP _ _ _ _ _ _ _
            rw [← List.append_assoc]; exact hr2
          clear hr2 hg2 hres2 hc c0 c1 c2 c1' f1' c1n f1n
          go_wp2_with fail
          go_roundg 0
          case measure => have := Hg.out; simp only [Bool.false_eq_true, if_false] at this; omega
          case rel => exact ⟨i2, v2, Q ++ Q2, true, rfl, HR2.out, HG2.out, Or.inl ⟨rfl, HRn.out, z, rfl⟩⟩
        | some p =>
          obtain ⟨R, j2⟩ := p
          rw [hc] at hr2
          obtain ⟨e1, hql2, d2, hpc2⟩ := hres2 R j2 hc
          subst e1
          have hpg := rowP_prog (choice_prog _ f) hc (by rw [len_eq]; omega)
          rw [len_eq] at hpg
          have hlt2 := hpg.2.2 rfl
          have HRn : Hid ((if hasB s.data.toList i2 124 then altP (choiceP s.data.toList f) s.data.toList m (i2 + 1) (acc ++ [R]) else some (altR (acc ++ [R]), i2)) = Res) := by
            show _ = Res
            rw [← HRes.out, altP_row hc]
          have d2' : w2.cell? ⟨b, 2, none⟩ = some (.bool false) := cell_of hr2.rd rfl
          have HA : Hid (Calls Tryz.prog 53 #[.pointer (some ⟨b, 0, none⟩), .agg #[.int .u8 124, .int .u8 0, .slice none 0 0, .int .i64 z, .int .i64 z2]] w2 (RAddPost b s i2 false v2 (P ++ Q ++ Q2) ⟨124, 0, fun _ => false, z, z2⟩ w2)) :=
            radd_any b s i2 false v2 (P ++ Q ++ Q2) ⟨124, 0, fun _ => false, z, z2⟩ none 0 0 w2 ⟨⟨_, _, _, rfl⟩, fun e => absurd e (show ¬ (124 : Nat) = 91 by decide)⟩ (by rw [List.length_append, List.length_append]; omega) hr2
          have HPa : Hid (PcIs (P ++ Q ++ Q2) d z (altR acc)) := HPc.out.push
          have HPb := hide hpc2
          clear hr2 hg2 hres2 hc hpc2 c0 c1 c2 c1' f1' c1n f1n
          go_wp2_with fail
          refine HA.out.mono ?_
          rintro e w4 ⟨rfl, v4, hr4, hg4⟩
          have HR4 := hide hr4
          have HG4 := hide hg4
          clear hr4 hg4
          go_wp2_with fail
          go_roundg (s.size + 1 - i2)
          case measure => have := Hg.out; simp only [Bool.false_eq_true, if_false] at this; omega
          case rel => exact ⟨i2, v4, Q ++ (Q2 ++ [⟨124, 0, fun _ => false, z, z2⟩]), false, rfl, by rw [← List.append_assoc Q, ← List.append_assoc P, ← List.append_assoc P]; exact HR4.out, HG2.out.trans HG4.out, Or.inr ⟨rfl, by omega, hpg.2.1, m, acc ++ [R], (P ++ Q ++ Q2).length, max d d2 + 1, by omega, HRn.out, by first | rfl | simp, by rw [← List.append_assoc Q, ← List.append_assoc P, ← List.append_assoc P, altR_append]; exact HPa.out.or HPb.out, by rw [List.length_append, List.length_append, List.length_singleton]; omega⟩⟩
theorem either_all (hC : ClassOK) : ∀ f, EitherOK f
  | 0 => fun _b _s _i _v _P _w _ _ hfl _ _ => absurd hfl (Nat.not_lt_zero _)
  | f + 1 => either_step f (either_all hC f) hC
end Go.Proofs.YthhiofppbpgipaaGreatDoor
