import Derived.Test.YthhiofppbpgipaaGreatDoorMRUnit
import Derived.Deep.LoopGhost
import Derived.Deep.DeepCutAuto
import Derived.Deep.CutBlock
import Derived.Deep.RegionWith
namespace Go.Proofs.YthhiofppbpgipaaGreatDoor
open Go.RowKit
theorem RefP.drewN {w b s i bad v P} (h : RefP w b s i bad v P) (n : Nat) : RefP (w.drewN n) b s i bad v P := h.only (D := fun _ => False) ((Only.refl _ w).drewN n) (fun _ _ e => e)
theorem Grew.drewN {w w' b v v'} (h : Grew w w' b v v') (n : Nat) : Grew w (w'.drewN n) b v v' := ⟨h.1.drewN n, h.2⟩
/-- The state of the reading of a row: what has been read means acc, and the number of its piece is k. -/
def RowI (f : Nat) (b : Nat) (s : ByteArray) (i : Nat) (v : Value) (P : List Pc) (Res : Option (Pat × Nat)) (w : World) (j : Nat) (v' : Value) (Q : List Pc) (bad : Bool) (s3 : Value) (wr : World) : Prop :=
  RefP wr b s j bad v' (P ++ Q) ∧ Grew w wr b v v' ∧ ((bad = true ∧ Res = none ∧ ∃ z : Nat, s3 = .int .i64 z) ∨ (bad = false ∧ i ≤ j ∧ j ≤ s.size ∧ ∃ (m : Nat) (acc : List Pat), s.size - j < m ∧ rowP (choiceP s.data.toList f) s.data.toList m j acc = Res ∧ ((acc = [] ∧ s3 = .int .i64 (-1) ∧ Q = []) ∨ (acc ≠ [] ∧ ∃ z d : Nat, s3 = .int .i64 z ∧ PcIs (P ++ Q) d z (rowR acc) ∧ Q.length + 1 ≤ 2 * (j - i)))))
/-- The state of the reading of the signs behind a unit. -/
def SignI (b : Nat) (s : ByteArray) (v : Value) (P Q : List Pc) (w : World) (j : Nat) (R1 : Pat) (j2 : Nat) (jj : Nat) (s4 : Value) (wx : World) : Prop :=
  ∃ (mm z d : Nat) (R' : Pat) (v'' : Value) (X : List Pc), s4 = .int .i64 z ∧ signsP mm s.data.toList jj R' = (R1, j2) ∧ s.size - jj < mm ∧ jj ≤ s.size ∧ j < jj ∧ RefP wx b s jj false v'' (P ++ (Q ++ X)) ∧ Grew w wx b v v'' ∧ PcIs (P ++ (Q ++ X)) d z R' ∧ X.length + 1 ≤ 2 * (jj - j)
theorem not_isSign {c : UInt8} (h1 : c.toNat ≠ 42) (h2 : c.toNat ≠ 43) (h3 : c.toNat ≠ 63) : isSign c = false := by
  unfold isSign
  simp [h1, h2, h3]
theorem signsP_go {n : Nat} {l : List UInt8} {i : Nat} {R : Pat} {c : UInt8} (h : l[i]? = some c) (hc : isSign c = true) : signsP (n + 1) l i R = signsP n l (i + 1) (signR c.toNat R) := by
  conv => lhs; unfold signsP
  rw [h]
  simp only
  rw [if_pos hc]
theorem hasB_at {l : List UInt8} {i c : Nat} {x : UInt8} (h : l[i]? = some x) : hasB l i c = (x.toNat == c) := by unfold hasB; rw [h]
theorem repP_of {sub : Nat → Option (Pat × Nat)} {l : List UInt8} {i : Nat} {R : Pat} {j : Nat} (h : unitP sub l i = some (R, j)) : repP sub l i = some (signsP (l.length + 1) l j R) := by unfold repP; rw [h]
theorem repP_no {sub : Nat → Option (Pat × Nat)} {l : List UInt8} {i : Nat} (h : unitP sub l i = none) : repP sub l i = none := by unfold repP; rw [h]
theorem rowP_on {sub : Nat → Option (Pat × Nat)} {l : List UInt8} {n i : Nat} {acc : List Pat} (h : i < l.length ∧ hasB l i 124 = false ∧ hasB l i 41 = false) : rowP sub l (n + 1) i acc = (match repP sub l i with | none => none | some (R, j) => rowP sub l n j (acc ++ [R])) := by
  conv => lhs; unfold rowP
  rw [if_pos h]
  cases repP sub l i with
  | none => rfl
  | some p => rfl
theorem rowP_end {sub : Nat → Option (Pat × Nat)} {l : List UInt8} {n i : Nat} {acc : List Pat} (h : ¬ (i < l.length ∧ hasB l i 124 = false ∧ hasB l i 41 = false)) : rowP sub l (n + 1) i acc = if acc.length = 0 then none else some (rowR acc, i) := by
  conv => lhs; unfold rowP
  rw [if_neg h]
set_option maxRecDepth 100000 in
set_option maxHeartbeats 4000000 in
theorem rrow_any (f : Nat) (hf : EitherOK f) (hC : ClassOK) (b : Nat) (s : ByteArray) (h5 : s.size ≤ 500) (i : Nat) (hi : i ≤ s.size) (hfl : s.size - i ≤ f) (v : Value) (P : List Pc) (hPl : P.length ≤ 2 * i) (w : World) (h : RefP w b s i false v P) :
    Calls Tryz.prog 111 #[.pointer (some ⟨b, 0, none⟩)] w (RRPost b s i v P (rowP (choiceP s.data.toList f) s.data.toList (s.data.toList.length + 1) i []) w) := by
  have hml : s.size ≤ maxLen := by unfold maxLen; omega
  have hlen : s.data.toList.length = s.size := len_eq s
  obtain ⟨Res, hRes⟩ : ∃ Res, rowP (choiceP s.data.toList f) s.data.toList (s.data.toList.length + 1) i [] = Res := ⟨_, rfl⟩
  rw [hRes]
  have HI0 : Hid (RowI f b s i v P Res w i v [] false (.int .i64 (-1)) w) := ⟨by rw [List.append_nil]; exact h, Grew.refl _ _ _, Or.inr ⟨rfl, Nat.le_refl _, hi, _, [], by omega, hRes, Or.inl ⟨rfl, rfl, rfl⟩⟩⟩
  have HF := hide hf
  have HC := hide hC
  clear h hf hC hRes
  go_enter Tryz.func111, Tryz.ntmps111
  go_wp2_with fail
  go_loopg [3] (s.size + 1 - i) (fun g s3 wr => ∃ (j : Nat) (v' : Value) (Q : List Pc) (bad : Bool), g = (if bad then 0 else s.size + 1 - j) ∧ RowI f b s i v P Res w j v' Q bad s3 wr)
  case atStart => exact ⟨i, v, [], false, rfl, HI0.out⟩
  case round =>
    clear HI0
    obtain ⟨j, v', Q, bad, hg, hr, hgr, hcase⟩ := hrel
    have c0 : wr.cell? ⟨b, 0, none⟩ = some (.string s) := cell_of hr.rd rfl
    have c1 : wr.cell? ⟨b, 1, none⟩ = some (.int .i64 j) := cell_of hr.rd rfl
    have c2 : wr.cell? ⟨b, 2, none⟩ = some (.bool bad) := cell_of hr.rd rfl
    have HR := hide hr
    have HGr := hide hgr
    have Hg := hide hg
    clear hr hgr hg
    rcases hcase with ⟨e1, hres, z, e2⟩ | ⟨e1, hij, hjs, m, acc, hm, hres, hk⟩
    · subst e1
      subst e2
      have HRes := hide hres
      have hz : ¬ (z : Int) < 0 := by omega
      clear hres
      go_wp2_with fail
      go_quiet (fail)
      go_wp2_with fail
      go_ret
      rw [HRes.out]
      exact ⟨z, j, v', Q, rfl, HR.out.drewN _, HGr.out.drewN _, fun R j' h => by cases h⟩
    · subst e1
      obtain ⟨m, rfl⟩ : ∃ m', m = m' + 1 := ⟨m - 1, by omega⟩
      by_cases hgo : j < s.data.toList.length ∧ hasB s.data.toList j 124 = false ∧ hasB s.data.toList j 41 = false
      · have hgo' := hgo
        obtain ⟨hl1, hb124, hb41⟩ := hgo'
        have hlt : j < s.size := by omega
        have hli : (j : Int) < (s.size : Int) := by omega
        have hGt := get_of_lt s j hlt
        have k41 : ((s[j].toNat : Int) != 41) = true := by
          rw [bne_iff_ne]
          rw [hasB_at hGt, beq_eq_false_iff_ne] at hb41
          omega
        have k124 : ((s[j].toNat : Int) != 124) = true := by
          rw [bne_iff_ne]
          rw [hasB_at hGt, beq_eq_false_iff_ne] at hb124
          omega
        rw [rowP_on hgo] at hres
        have HRes := hide hres
        have Hk := hide hk
        clear hres hk hgo hl1 hb124 hb41 hGt
        have hQl : (P ++ Q).length ≤ 2 * j := by
          rw [List.length_append]
          rcases Hk.out with ⟨_, _, hQ⟩ | ⟨_, z, d, _, _, hql⟩
          · rw [hQ, List.length_nil]; omega
          · omega
        go_upto_region 2 with fail
        go_cut [45] (fun s45 wx => s45 = .bool true ∧ ∃ n, wx = wr.drewN n)
        case first =>
          go_wp2_with fail
          go_quiet (fail)
          go_wp2_with fail
          go_meet
          case rel => exact ⟨by first | rfl | rw [k124], _, rfl⟩
        clear c0 c1 c2 k41 k124 hli
        obtain ⟨e45, n, e2⟩ := hcut
        subst e45
        subst e2
        go_wp2_with fail
        refine (runit_any f HF.out HC.out b s h5 j hlt (by omega) v' (P ++ Q) hQl _ (HR.out.drewN n)).mono ?_
        rintro e w2 ⟨z1, i2, v2, Q1, rfl, hr2, hg2, hres2⟩
        have HG2 : Hid (Grew w w2 b v v2) := (HGr.out.drewN n).trans hg2
        cases hu : unitP (choiceP s.data.toList f) s.data.toList j with
        | none =>
          rw [hu] at hr2
          have HRn : Hid (Res = none) := by
            show Res = none
            rw [← HRes.out, repP_no hu]
          have HR2 : Hid (RefP w2 b s i2 true v2 (P ++ (Q ++ Q1))) := by
            show RefP _ _ _ _ _ _ _
            rw [← List.append_assoc]; exact hr2
          have c2 : w2.cell? ⟨b, 2, none⟩ = some (.bool true) := cell_of hr2.rd rfl
          clear hr2 hg2 hres2 hu
          go_wp2_with fail
          go_loopg [4] 1 (fun g s4 wx => g = 1 ∧ s4 = .int .i64 z1 ∧ wx = w2)
          case atStart => exact ⟨rfl, rfl, rfl⟩
          case round =>
            obtain ⟨eg, e4, ew⟩ := hrel
            subst e4
            subst ew
            rcases Hk.out with ⟨ha, e3, hQ⟩ | ⟨ha, z, d, e3, hpc, hql⟩
            · subst e3
              clear ha hQ eg
              go_wp2_with fail
              go_roundg 0
              case measure => have := Hg.out; simp only [Bool.false_eq_true, if_false] at this; omega
              case rel => exact ⟨i2, v2, Q ++ Q1, true, rfl, HR2.out, HG2.out, Or.inl ⟨rfl, HRn.out, z1, rfl⟩⟩
            · subst e3
              have hz : ¬ (z : Int) < 0 := by omega
              clear ha hpc hql eg
              go_wp2_with fail
              go_roundg 0
              case measure => have := Hg.out; simp only [Bool.false_eq_true, if_false] at this; omega
              case rel => exact ⟨i2, v2, Q ++ Q1, true, rfl, HR2.out, HG2.out, Or.inl ⟨rfl, HRn.out, z, rfl⟩⟩
        | some p =>
          obtain ⟨R0, j1⟩ := p
          rw [hu] at hr2
          obtain ⟨e1, hql1, d1, hpc1⟩ := hres2 R0 j1 hu
          subst e1
          have hup := unitP_prog (choice_prog _ f) hu
          rw [len_eq] at hup
          obtain ⟨⟨R1, j2⟩, hsR⟩ : ∃ q, signsP (s.data.toList.length + 1) s.data.toList i2 R0 = q := ⟨_, rfl⟩
          have HRn : Hid (rowP (choiceP s.data.toList f) s.data.toList m j2 (acc ++ [R1]) = Res) := by
            show _ = Res
            rw [← HRes.out, repP_of hu, hsR]
          have HS0 : Hid (SignI b s v P Q w j R1 j2 i2 (.int .i64 z1) w2) := ⟨_, z1, d1, R0, v2, Q1, rfl, hsR, by omega, hup.2, hup.1, by rw [← List.append_assoc]; exact hr2, HG2.out, by rw [← List.append_assoc]; exact hpc1, hql1⟩
          clear hr2 hg2 hres2 hu hpc1 hsR HRes
          go_wp2_with fail
          go_loopg [4] (s.size + 1 - i2) (fun g s4 wx => ∃ jj, g = s.size + 1 - jj ∧ SignI b s v P Q w j R1 j2 jj s4 wx)
          case atStart => exact ⟨i2, rfl, HS0.out⟩
          case round =>
            clear HS0 HR HGr HG2
            obtain ⟨jj, hgi, mm, z', d', R', v3, X, e4, hsg, hmm, hjj, hjlt, hr3, hg3, hpc3, hX⟩ := hrel
            subst e4
            obtain ⟨mm, rfl⟩ : ∃ m', mm = m' + 1 := ⟨mm - 1, by omega⟩
            have c0 : wr.cell? ⟨b, 0, none⟩ = some (.string s) := cell_of hr3.rd rfl
            have c1 : wr.cell? ⟨b, 1, none⟩ = some (.int .i64 jj) := cell_of hr3.rd rfl
            have c2 : wr.cell? ⟨b, 2, none⟩ = some (.bool false) := cell_of hr3.rd rfl
            have c0' : ∀ n, (wr.drewN n).cell? ⟨b, 0, none⟩ = some (.string s) := fun n => cell_of (hr3.rd.drewN n) rfl
            have c1' : ∀ n, (wr.drewN n).cell? ⟨b, 1, none⟩ = some (.int .i64 jj) := fun n => cell_of (hr3.rd.drewN n) rfl
            have HR3 := hide hr3
            have HG3 := hide hg3
            have HP3 := hide hpc3
            have Hgi := hide hgi
            have Hsg := hide hsg
            have hXl : (P ++ (Q ++ X)).length ≤ 1000000 := by
              rw [List.length_append] at hQl
              rw [List.length_append, List.length_append]; omega
            clear hr3 hg3 hpc3 hgi hsg
            by_cases hsn : ∃ h : jj < s.size, isSign s[jj] = true
            · obtain ⟨hl3, hs3⟩ := hsn
              have hGt := get_of_lt s jj hl3
              have HSg : Hid (signsP mm s.data.toList (jj + 1) (signR s[jj].toNat R') = (R1, j2)) := by
                show _ = _
                rw [← signsP_go hGt hs3]; exact Hsg.out
              have h3 : s[jj].toNat = 42 ∨ s[jj].toNat = 43 ∨ s[jj].toNat = 63 := by
                unfold isSign at hs3
                simp only [Bool.or_eq_true, beq_iff_eq] at hs3
                omega
              have H3 := hide hs3
              have HGt := hide hGt
              clear hs3 hGt Hsg
              go_upto_region 4 with fail
              go_cut [64] (fun s64 wx => s64 = .bool true ∧ ∃ n, wx = wr.drewN n)
              case first =>
                by_cases a42 : s[jj].toNat = 42
                · have HA1 : Hid (hasB s.data.toList jj 42 = true) := by
                    show _ = _
                    rw [hasB_at HGt.out]; exact beq_iff_eq.2 a42
                  clear h3 a42
                  go_wp2_with fail
                  refine (rat_is b s jj hml 42 true HA1.out _ c0 c1).mono ?_
                  rintro e w3 ⟨rfl, n3, rfl⟩
                  go_wp2_with fail
                  go_meet
                  case rel => exact ⟨rfl, _, rfl⟩
                · have HA1 : Hid (hasB s.data.toList jj 42 = false) := by
                    show _ = _
                    rw [hasB_at HGt.out, beq_eq_false_iff_ne]; exact a42
                  by_cases a43 : s[jj].toNat = 43
                  · have HA2 : Hid (hasB s.data.toList jj 43 = true) := by
                      show _ = _
                      rw [hasB_at HGt.out]; exact beq_iff_eq.2 a43
                    clear h3 a42 a43
                    go_wp2_with fail
                    refine (rat_is b s jj hml 42 false HA1.out _ c0 c1).mono ?_
                    rintro e w3 ⟨rfl, n3, rfl⟩
                    go_wp2_with fail
                    refine (rat_is b s jj hml 43 true HA2.out _ (c0' _) (c1' _)).mono ?_
                    rintro e w3 ⟨rfl, n4, rfl⟩
                    go_wp2_with fail
                    go_meet
                    case rel => exact ⟨rfl, _, rfl⟩
                  · have HA2 : Hid (hasB s.data.toList jj 43 = false) := by
                      show _ = _
                      rw [hasB_at HGt.out, beq_eq_false_iff_ne]; exact a43
                    have HA3 : Hid (hasB s.data.toList jj 63 = true) := by
                      show _ = _
                      rw [hasB_at HGt.out]; exact beq_iff_eq.2 (by omega)
                    clear h3 a42 a43
                    go_wp2_with fail
                    refine (rat_is b s jj hml 42 false HA1.out _ c0 c1).mono ?_
                    rintro e w3 ⟨rfl, n3, rfl⟩
                    go_wp2_with fail
                    refine (rat_is b s jj hml 43 false HA2.out _ (c0' _) (c1' _)).mono ?_
                    rintro e w3 ⟨rfl, n4, rfl⟩
                    go_wp2_with fail
                    refine (rat_is b s jj hml 63 true HA3.out _ (c0' _) (c1' _)).mono ?_
                    rintro e w3 ⟨rfl, n5, rfl⟩
                    go_wp2_with fail
                    go_meet
                    case rel => exact ⟨rfl, _, rfl⟩
              obtain ⟨e64, n4, e5⟩ := hcut
              subst e64
              subst e5
              have HA : ∀ n, Hid (Calls Tryz.prog 53 #[.pointer (some ⟨b, 0, none⟩), .agg #[.int .u8 (s[jj].toNat : Int), .int .u8 0, .slice none 0 0, .int .i64 z', .int .i64 0]] (wr.drewN n) (RAddPost b s jj false v3 (P ++ (Q ++ X)) ⟨s[jj].toNat, 0, fun _ => false, z', 0⟩ (wr.drewN n))) := fun n =>
                radd_any b s jj false v3 (P ++ (Q ++ X)) ⟨s[jj].toNat, 0, fun _ => false, z', 0⟩ none 0 0 (wr.drewN n) ⟨⟨_, _, _, rfl⟩, fun e => by
                  have e2 : s[jj].toNat = 91 := e
                  omega⟩ hXl (HR3.out.drewN n)
              have hli3 : (jj : Int) < (s.size : Int) := by omega
              clear h3
              go_wp2_with fail
              go_region_with (go_at_call 53; refine (HA _).out.mono ?_; rintro e w4 ⟨rfl, v4, hr4, hg4⟩; have d1 : w4.cell? ⟨b, 1, none⟩ = some (.int .i64 jj) := cell_of hr4.rd rfl; have g1 : w4.frozen? ⟨b, 1, none⟩ = false := free_of hr4.rd 1; have HR4 := hide hr4; have HG4 := hide hg4; clear hr4 hg4)
              all_goals
                go_wp2_with fail
                go_roundg (s.size + 1 - (jj + 1))
                case measure => have := Hgi.out; omega
                case rel => exact ⟨jj + 1, rfl, mm, (P ++ (Q ++ X)).length, d' + 1, signR s[jj].toNat R', v4, X ++ [⟨s[jj].toNat, 0, fun _ => false, z', 0⟩], by first | rfl | simp, HSg.out, by omega, by omega, by omega, by rw [← List.append_assoc Q, ← List.append_assoc P]; exact HR4.out.setI (jj + 1), (HG3.out.drewN _).trans (HG4.out.trans (Grew.of_moved (Only.setCell (D := fun k => k = b) (p := ⟨b, 1, none⟩) (Only.refl _ _) (fun _ => rfl) _))), by rw [← List.append_assoc Q, ← List.append_assoc P]; exact HP3.out.sign H3.out, by rw [List.length_append, List.length_singleton]; omega⟩
            · have hno : ∀ c, s.data.toList[jj]? = some c → isSign c = false := fun c hc => by
                have hl : jj < s.size := by rw [← hlen]; exact some_lt hc
                rw [get_of_lt s jj hl] at hc
                cases hc
                cases hx : isSign s[jj] with
                | true => exact absurd ⟨hl, hx⟩ hsn
                | false => rfl
              have hsg2 := Hsg.out
              rw [signsP_stop hno] at hsg2
              have eR : R' = R1 := congrArg Prod.fst hsg2
              have ej : jj = j2 := congrArg Prod.snd hsg2
              have hnb : ∀ c : Nat, c = 42 ∨ c = 43 ∨ c = 63 → hasB s.data.toList jj c = false := fun c hc => by
                cases hx : s.data.toList[jj]? with
                | none => unfold hasB; rw [hx]
                | some y =>
                  rw [hasB_at hx, beq_eq_false_iff_ne]
                  intro e
                  have := hno y hx
                  unfold isSign at this
                  simp only [Bool.or_eq_false_iff, beq_eq_false_iff_ne] at this
                  omega
              have HN := hide hnb
              have HRn2 : Hid (rowP (choiceP s.data.toList f) s.data.toList m jj (acc ++ [R']) = Res) := by
                show _ = Res
                rw [eR, ej]; exact HRn.out
              clear hsn hno hsg2 hnb Hsg eR ej
              go_upto_region 4 with fail
              go_cut [64] (fun s64 wx => s64 = .bool false ∧ ∃ n, wx = wr.drewN n)
              case first =>
                go_wp2_with fail
                refine (rat_is b s jj hml 42 false (HN.out 42 (Or.inl rfl)) _ c0 c1).mono ?_
                rintro e w3 ⟨rfl, n3, rfl⟩
                go_wp2_with fail
                refine (rat_is b s jj hml 43 false (HN.out 43 (Or.inr (Or.inl rfl))) _ (c0' _) (c1' _)).mono ?_
                rintro e w3 ⟨rfl, n4, rfl⟩
                go_wp2_with fail
                refine (rat_is b s jj hml 63 false (HN.out 63 (Or.inr (Or.inr rfl))) _ (c0' _) (c1' _)).mono ?_
                rintro e w3 ⟨rfl, n5, rfl⟩
                go_wp2_with fail
                go_meet
                case rel => exact ⟨rfl, _, rfl⟩
              obtain ⟨e64, n4, e5⟩ := hcut
              subst e64
              subst e5
              have c2' : (wr.drewN n4).cell? ⟨b, 2, none⟩ = some (.bool false) := c2
              rcases Hk.out with ⟨ha, e3, hQ⟩ | ⟨ha, z, d, e3, hpc, hql⟩
              · subst e3
                have HPx : Hid (PcIs (P ++ (Q ++ X)) d' z' (rowR (acc ++ [R']))) := by
                  show PcIs _ _ _ _
                  rw [ha, List.nil_append, rowR_one]; exact HP3.out
                have hXQ : (Q ++ X).length + 1 ≤ 2 * (jj - i) := by
                  rw [hQ, List.nil_append]; omega
                clear ha hQ
                go_wp2_with fail
                go_roundg (s.size + 1 - jj)
                case measure => have := Hg.out; simp only [Bool.false_eq_true, if_false] at this; omega
                case rel => exact ⟨jj, v3, Q ++ X, false, rfl, HR3.out.drewN _, HG3.out.drewN _, Or.inr ⟨rfl, by omega, hjj, m, acc ++ [R'], by omega, HRn2.out, Or.inr ⟨by simp, z', d', rfl, HPx.out, hXQ⟩⟩⟩
              · subst e3
                have hz : ¬ (z : Int) < 0 := by omega
                have HPa : Hid (PcIs (P ++ (Q ++ X)) d z (rowR acc)) := by
                  show PcIs _ _ _ _
                  rw [← List.append_assoc]; exact hpc.push
                have HA : Hid (Calls Tryz.prog 53 #[.pointer (some ⟨b, 0, none⟩), .agg #[.int .u8 38, .int .u8 0, .slice none 0 0, .int .i64 z, .int .i64 z']] (wr.drewN n4) (RAddPost b s jj false v3 (P ++ (Q ++ X)) ⟨38, 0, fun _ => false, z, z'⟩ (wr.drewN n4))) :=
                  radd_any b s jj false v3 (P ++ (Q ++ X)) ⟨38, 0, fun _ => false, z, z'⟩ none 0 0 (wr.drewN n4) ⟨⟨_, _, _, rfl⟩, fun e => absurd e (show ¬ (38 : Nat) = 91 by decide)⟩ hXl (HR3.out.drewN n4)
                clear ha hpc
                go_wp2_with fail
                refine HA.out.mono ?_
                rintro e w4 ⟨rfl, v4, hr4, hg4⟩
                have HR4 := hide hr4
                have HG4 := hide hg4
                clear hr4 hg4
                go_wp2_with fail
                go_roundg (s.size + 1 - jj)
                case measure => have := Hg.out; simp only [Bool.false_eq_true, if_false] at this; omega
                case rel => exact ⟨jj, v4, Q ++ X ++ [⟨38, 0, fun _ => false, z, z'⟩], false, rfl, by rw [← List.append_assoc P]; exact HR4.out, (HG3.out.drewN _).trans HG4.out, Or.inr ⟨rfl, by omega, hjj, m, acc ++ [R'], by omega, HRn2.out, Or.inr ⟨by simp, (P ++ (Q ++ X)).length, max d d' + 1, by first | rfl | simp, by rw [← List.append_assoc P, rowR_append]; exact HPa.out.and HP3.out, by rw [List.length_append, List.length_append, List.length_singleton]; omega⟩⟩⟩
      · rw [rowP_end hgo] at hres
        have HRes := hide hres
        have hk' := hide hk
        clear hres hk
        go_upto_region 2 with fail
        go_cut [45] (fun s45 wx => s45 = .bool false ∧ ∃ n, wx = wr.drewN n)
        case first =>
          by_cases hlt : j < s.size
          · have hli : (j : Int) < (s.size : Int) := by omega
            have hGt := get_of_lt s j hlt
            by_cases h41 : s[j].toNat = 41
            · have k41 : ((s[j].toNat : Int) != 41) = false := by rw [bne_eq_false_iff_eq]; omega
              clear hgo h41 hGt
              go_wp2_with fail
              go_quiet (fail)
              go_wp2_with fail
              go_meet
              case rel => exact ⟨by first | rfl | rw [k41], _, rfl⟩
            · have k41 : ((s[j].toNat : Int) != 41) = true := by rw [bne_iff_ne]; omega
              have k124 : ((s[j].toNat : Int) != 124) = false := by
                rw [bne_eq_false_iff_eq]
                by_cases h124 : s[j].toNat = 124
                · omega
                · exact absurd ⟨by omega, by rw [hasB_at hGt, beq_eq_false_iff_ne]; exact h124, by rw [hasB_at hGt, beq_eq_false_iff_ne]; exact h41⟩ hgo
              clear hgo h41 hGt
              go_wp2_with fail
              go_quiet (fail)
              go_wp2_with fail
              go_meet
              case rel => exact ⟨by first | rfl | rw [k124], _, rfl⟩
          · have hli : ¬ (j : Int) < (s.size : Int) := by omega
            have hge : (s.size : Int) ≤ (j : Int) := by omega
            clear hgo
            go_wp2_with fail
            go_quiet (fail)
            go_wp2_with fail
            go_meet
            case rel => exact ⟨rfl, _, rfl⟩
        clear c0 c1 hgo
        obtain ⟨e45, n, e2⟩ := hcut
        subst e45
        subst e2
        have f2 : (wr.drewN n).frozen? ⟨b, 2, none⟩ = false := free_of (HR.out.rd.drewN n) 2
        rcases hk'.out with ⟨ha, e3, hQ⟩ | ⟨ha, z, d, e3, hpc, hql⟩
        · subst e3
          have HRn : Hid (Res = none) := by
            show Res = none
            rw [← HRes.out, ha]; rfl
          clear hk'
          go_wp2_with fail
          go_ret
          rw [HRn.out]
          exact ⟨0, j, v', Q, rfl, (HR.out.drewN n).setBad, (HGr.out.drewN n).trans (Grew.of_moved (Only.setCell (D := fun k => k = b) (p := ⟨b, 2, none⟩) (Only.refl _ _) (fun _ => rfl) _)), fun R j' h => by cases h⟩
        · subst e3
          have HRn : Hid (Res = some (rowR acc, j)) := by
            show Res = _
            rw [← HRes.out, if_neg (fun h => ha (List.length_eq_zero_iff.1 h))]
          have HPc := hide hpc
          have hz : ¬ (z : Int) < 0 := by omega
          clear hk' ha hpc
          go_wp2_with fail
          go_ret
          rw [HRn.out]
          exact ⟨z, j, v', Q, rfl, HR.out.drewN n, HGr.out.drewN n, fun R' j' h => by
            cases h
            exact ⟨rfl, hql, d, HPc.out⟩⟩
end Go.Proofs.YthhiofppbpgipaaGreatDoor
