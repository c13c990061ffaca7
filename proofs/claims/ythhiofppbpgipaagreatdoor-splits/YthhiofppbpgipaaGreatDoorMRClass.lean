import Derived.Test.YthhiofppbpgipaaGreatDoorMRCls
import Derived.Deep.LoopGhost
import Derived.Deep.DeepCutAuto
import Derived.Deep.CutBlock
import Derived.Deep.CutRange
import Derived.BigQuiet
import Derived.Deep.QuietTactic
namespace Go.Proofs.YthhiofppbpgipaaGreatDoor
open Go.RowKit
set_option maxRecDepth 100000 in
set_option maxHeartbeats 4000000 in
theorem rclass_any (b : Nat) (s : ByteArray) (h5 : s.size ≤ 500) (i : Nat) (hi : i ≤ s.size) (v : Value) (P : List Pc) (hPl : P.length ≤ 2 * i) (w : World) (h : RefP w b s i false v P) :
    Calls Tryz.prog 260 #[.pointer (some ⟨b, 0, none⟩)] w (RRPost b s i v P ((classP s.data.toList i).map (fun p => (byteR p.1, p.2))) w) := by
  have hmk := run_make_row' (P := Tryz.prog) 117 4 (.bool false) 1 Tryz.underlying117 info4 rfl .i64 .i64 256 (by omega) (by omega)
  obtain ⟨o0, ho0⟩ : ∃ o0 : Obj, Obj.cells (madeCells #[.bool false] 256) 4 = o0 := ⟨_, rfl⟩
  have hmk' : ∀ W : World, (Instr.makeSlice 117 (.int .i64 256) (.int .i64 256)).run Tryz.prog W = .ok (.slice (some ⟨W.heap.size, 0, none⟩) 256 256) (W.alloc o0) := by rw [← ho0]; exact hmk
  have hml : s.size ≤ maxLen := by unfold maxLen; omega
  have hlen : s.data.toList.length = s.size := len_eq s
  obtain ⟨t0, ht0⟩ : ∃ t0, hasB s.data.toList i 94 = t0 := ⟨_, rfl⟩
  have hr0 := (h.rd).alloc o0
  have hg0 : SetG (w.alloc o0) w.heap.size (fun _ => false) := by
    unfold SetG
    rw [new0 w, ← ho0, made_bits, bools_none]
  have hbl := heap_lt h.rd
  have hgb : w.heap.size ≠ b := by omega
  have HT := hide ht0
  have HR := hide h
  have HR0 := hide hr0
  have HG0 := hide hg0
  clear hmk ho0 ht0 h hr0 hg0
  go_enter Tryz.func260, Tryz.ntmps260
  go_wp2_with fail
  refine (rat_is b s i hml 94 t0 HT.out _ (cell_of HR0.out rfl) (cell_of HR0.out rfl)).mono ?_
  rintro e w' ⟨rfl, n0, rfl⟩
  have c0 : ((w.alloc o0).drewN n0).cell? ⟨b, 1, none⟩ = some (.int .i64 i) := cell_of (HR0.out.drewN n0) rfl
  have f0 : ((w.alloc o0).drewN n0).frozen? ⟨b, 1, none⟩ = false := free_of (HR0.out.drewN n0) 1
  as_aux_lemma =>
    go_upto_if 13 with fail
    go_cut [4] (fun s4 wx => s4 = .bool t0 ∧ RdR wx b s (if t0 then i + 1 else i) false v ∧ SetG wx w.heap.size (fun _ => false) ∧ Only (fun k => k = b) w wx)
    case first =>
      as_aux_lemma =>
        cases t0 with
        | true =>
          as_aux_lemma =>
            go_wp2_with fail
            go_meet
            case rel => exact ⟨rfl, (HR0.out.drewN n0).setI _ (i + 1) (by go_num), (HG0.out).setNe (w := (w.alloc o0).drewN n0) hgb _, Only.setCell (D := fun k => k = b) (p := ⟨b, 1, none⟩) (((Only.refl _ w).alloc o0).drewN n0) (fun _ => rfl) _⟩
        | false =>
          as_aux_lemma =>
            go_wp2_with fail
            go_meet
            case rel => exact ⟨rfl, HR0.out.drewN n0, HG0.out, ((Only.refl _ w).alloc o0).drewN n0⟩
    case rest =>
      obtain ⟨e4, hr1, hg1, ho1⟩ := hcut
      subst e4
      obtain ⟨j0, hj0⟩ : ∃ j0, (if t0 then i + 1 else i) = j0 := ⟨_, rfl⟩
      rw [hj0] at hr1
      have hj0s : j0 ≤ s.size := by
        rw [← hj0]
        cases ht : t0 with
        | true =>
          as_aux_lemma =>
            have := hasB_lt (HT.out.trans ht)
            rw [if_pos rfl]; omega
        | false => rw [if_neg (by decide)]; exact hi
      have hij0 : i ≤ j0 := by rw [← hj0]; split <;> omega
      obtain ⟨Res, HRes⟩ : ∃ Res, Hid (membersP (s.data.toList.length + 1) s.data.toList j0 true (fun _ => false) = Res) := ⟨_, rfl⟩
      have HCl : Hid (classP s.data.toList i = (if t0 then Res.map (fun p => (notS p.1, p.2)) else Res)) := by
        show classP s.data.toList i = _
        unfold classP
        rw [HT.out]
        cases t0 with
        | true =>
          as_aux_lemma =>
            rw [if_pos rfl, if_pos rfl, ← HRes.out, ← hj0, if_pos rfl]
            cases membersP (s.data.toList.length + 1) s.data.toList (i + 1) true (fun _ => false) with
            | none => rfl
            | some p => rfl
        | false => rw [if_neg (by decide), if_neg (by decide), ← HRes.out, ← hj0, if_neg (by decide)]
      have HR1 := hide hr1
      have HG1 := hide hg1
      have HO1 := hide ho1
      clear hr1 hg1 ho1 c0 f0 HG0 HR0 hmk' hj0
      go_wp2_with fail
      go_loopg [5] (s.size + 1 - j0) (fun g s5 wr => ∃ (j m : Nat) (fst : Bool) (S : UInt8 → Bool), s5 = .bool fst ∧ g = s.size + 1 - j ∧ j0 ≤ j ∧ j ≤ s.size ∧ s.size - j < m ∧ membersP m s.data.toList j fst S = Res ∧ RdR wr b s j false v ∧ SetG wr w.heap.size S ∧ Only (fun k => k = b) w wr)
      case atStart => exact ⟨j0, s.data.toList.length + 1, true, _, rfl, rfl, Nat.le_refl _, hj0s, by omega, HRes.out, HR1.out, HG1.out, HO1.out⟩
      case round =>
        as_aux_lemma =>
          clear HR1 HG1 HO1 HRes
          obtain ⟨j, m, fst, S, e5, hg, hjj, hjs, hm, hres, hr, hgs, ho⟩ := hrel
          subst e5
          obtain ⟨m, rfl⟩ : ∃ m', m = m' + 1 := ⟨m - 1, by omega⟩
          have Hg := hide hg
          have HR1 := hide hr
          have HG1 := hide hgs
          have HO1 := hide ho
          have c0 : wr.cell? ⟨b, 0, none⟩ = some (.string s) := cell_of hr rfl
          have c1 : wr.cell? ⟨b, 1, none⟩ = some (.int .i64 j) := cell_of hr rfl
          have c2 : wr.cell? ⟨b, 2, none⟩ = some (.bool false) := cell_of hr rfl
          have f2 : wr.frozen? ⟨b, 2, none⟩ = false := free_of hr 2
          have f1 : wr.frozen? ⟨b, 1, none⟩ = false := free_of hr 1
          clear hg hr hgs ho
          by_cases hlt : j < s.size
          · have HGt := hide (get_of_lt s j hlt)
            have hli : (j : Int) < (s.size : Int) := by omega
            by_cases hgo : fst = true ∨ s[j].toNat ≠ 93
            · have Hmem : Hid ((match memberP s.data.toList j with | none => none | some (T, j') => membersP m s.data.toList j' false (orS S T)) = Res) := by
                show _ = Res
                rw [← hres]
                conv => rhs; unfold membersP
                rw [if_neg (by
                  rintro ⟨h1, h2⟩
                  rcases hgo with h3 | h3
                  · rw [h1] at h3; cases h3
                  · unfold hasB at h2
                    rw [HGt.out] at h2
                    exact h3 (beq_iff_eq.1 h2))]
                cases memberP s.data.toList j with
                | none => rfl
                | some p => rfl
              clear hres
              as_aux_lemma =>
                go_upto_region 6 with fail
                go_cut [45] (fun s45 wx => s45 = .bool true ∧ RdR wx b s j false v ∧ SetG wx w.heap.size S ∧ Only (fun k => k = b) w wx)
                case first =>
                  as_aux_lemma =>
                    cases fst with
                    | true =>
                      as_aux_lemma =>
                        clear hgo
                        go_wp2_with fail
                        go_quiet (fail)
                        go_wp2_with fail
                        go_meet
                        case rel => exact ⟨rfl, HR1.out.drewN _, HG1.out, HO1.out.drewN _⟩
                    | false =>
                      as_aux_lemma =>
                        have hne : ((s[j].toNat : Int) == 93) = false := by
                          rw [beq_eq_false_iff_ne]
                          rcases hgo with h | h
                          · cases h
                          · omega
                        clear hgo
                        go_wp2_with fail
                        go_quiet (fail)
                        go_wp2_with fail
                        go_meet
                        case rel => exact ⟨by rw [bne, hne]; rfl, HR1.out.drewN _, HG1.out, HO1.out.drewN _⟩
                case rest =>
                  clear HR1 HG1 HO1 c0 c1 c2 f1 f2
                  obtain ⟨e45, hr2, hg2, ho2⟩ := hcut
                  subst e45
                  have c0 : wc.cell? ⟨b, 0, none⟩ = some (.string s) := cell_of hr2 rfl
                  have c1 : wc.cell? ⟨b, 1, none⟩ = some (.int .i64 j) := cell_of hr2 rfl
                  have c2 : wc.cell? ⟨b, 2, none⟩ = some (.bool false) := cell_of hr2 rfl
                  have f2 : wc.frozen? ⟨b, 2, none⟩ = false := free_of hr2 2
                  have f1 : wc.frozen? ⟨b, 1, none⟩ = false := free_of hr2 1
                  have HR2 := hide hr2
                  have HG2 := hide hg2
                  have HO2 := hide ho2
                  clear hr2 hg2 ho2
                  cases hlow : lowP s.data.toList j with
                  | none =>
                    as_aux_lemma =>
                      have h92 : ((s[j].toNat : Int) == 92) = true ∧ ¬ j + 1 < s.size := by
                        unfold lowP at hlow
                        rw [HGt.out] at hlow
                        simp only at hlow
                        by_cases h : s[j].toNat = 92
                        · rw [if_pos h] at hlow
                          refine ⟨by rw [beq_iff_eq]; omega, fun h2 => ?_⟩
                          rw [get_of_lt s (j + 1) h2] at hlow
                          cases hlow
                        · rw [if_neg h] at hlow
                          cases hlow
                      obtain ⟨h92, hn1⟩ := h92
                      have hge : (s.size : Int) ≤ (j : Int) + 1 := by omega
                      have HRs : Hid (Res = none) := by
                        show Res = none
                        rw [← Hmem.out]
                        unfold memberP
                        rw [hlow]
                      clear hlow hn1 Hmem
                      go_wp2_with fail
                      go_quiet (fail)
                      go_wp2_with fail
                      go_quiet (fail)
                      go_wp2_with fail
                      refine bodyPost_ret (v := .int .i64 0) (by simp [results, Tryz.results260, go_sem]) rfl ?_
                      have hcl : (Option.map (fun p : (UInt8 → Bool) × Nat => (byteR p.1, p.2)) (classP s.data.toList i)) = none := by
                        rw [HCl.out, HRs.out]
                        cases t0 <;> rfl
                      rw [hcl]
                      exact ⟨0, _, v, [], rfl, by rw [List.append_nil]; exact HR.out.moved (Only.setCell (D := fun k => k = b) (p := ⟨b, 2, none⟩) ((Only.setCell (D := fun k => k = b) (p := ⟨b, 1, none⟩) (HO2.out.drewN _) (fun _ => rfl) _).drewN _) (fun _ => rfl) _) ((((HR2.out.drewN _).setI _ (j + 1) (by go_num)).drewN _).setBad), Grew.of_moved (Only.setCell (D := fun k => k = b) (p := ⟨b, 2, none⟩) ((Only.setCell (D := fun k => k = b) (p := ⟨b, 1, none⟩) (HO2.out.drewN _) (fun _ => rfl) _).drewN _) (fun _ => rfl) _), fun R j h => by cases h⟩
                  | some pl =>
                    as_aux_lemma =>
                      obtain ⟨lo, j1⟩ := pl
                      obtain ⟨jm, hjm, hlo⟩ : ∃ jm, j1 = jm + 1 ∧ ((((s[j].toNat : Int) == 92) = true ∧ jm = j + 1 ∧ ∃ h : j + 1 < s.size, lo = s[j + 1]) ∨ (((s[j].toNat : Int) == 92) = false ∧ jm = j ∧ lo = s[j])) := by
                        unfold lowP at hlow
                        rw [HGt.out] at hlow
                        simp only at hlow
                        by_cases h : s[j].toNat = 92
                        · rw [if_pos h] at hlow
                          by_cases h2 : j + 1 < s.size
                          · rw [get_of_lt s (j + 1) h2] at hlow
                            cases hlow
                            exact ⟨j + 1, rfl, Or.inl ⟨by rw [beq_iff_eq]; omega, rfl, h2, rfl⟩⟩
                          · rw [get_none s (j + 1) (by omega)] at hlow
                            cases hlow
                        · rw [if_neg h] at hlow
                          cases hlow
                          exact ⟨j, rfl, Or.inr ⟨by rw [beq_eq_false_iff_ne]; omega, rfl, rfl⟩⟩
                      have hlp := lowP_prog hlow
                      rw [len_eq] at hlp
                      have HLow := hide hlow
                      subst hjm
                      clear hlow
                      as_aux_lemma =>
                        go_upto_region 8 with fail
                        go_cut [6] (fun s6 wx => s6 = .int .u8 s[j].toNat ∧ RdR wx b s j false v ∧ SetG wx w.heap.size S ∧ Only (fun k => k = b) w wx)
                        case first =>
                          as_aux_lemma =>
                            go_wp2_with fail
                            go_quiet (fail)
                            go_wp2_with fail
                            go_meet
                            case rel => exact ⟨rfl, HR2.out.drewN _, HG2.out, HO2.out.drewN _⟩
                        clear HR2 HG2 HO2 c0 c1 c2 f1 f2
                        obtain ⟨e6, hr2, hg2, ho2⟩ := hcut
                        subst e6
                        have c0 : wc.cell? ⟨b, 0, none⟩ = some (.string s) := cell_of hr2 rfl
                        have c1 : wc.cell? ⟨b, 1, none⟩ = some (.int .i64 j) := cell_of hr2 rfl
                        have c2 : wc.cell? ⟨b, 2, none⟩ = some (.bool false) := cell_of hr2 rfl
                        have f2 : wc.frozen? ⟨b, 2, none⟩ = false := free_of hr2 2
                        have f1 : wc.frozen? ⟨b, 1, none⟩ = false := free_of hr2 1
                        have HR2 := hide hr2
                        have HG2 := hide hg2
                        have HO2 := hide ho2
                        clear hr2 hg2 ho2
                        as_aux_lemma =>
                          go_upto_if 56 with fail
                          go_cut [6] (fun s6 wx => s6 = .int .u8 lo.toNat ∧ RdR wx b s jm false v ∧ SetG wx w.heap.size S ∧ Only (fun k => k = b) w wx)
                          case first =>
                            as_aux_lemma =>
                              rcases hlo with ⟨h92, e1, h2, e2⟩ | ⟨h92, e1, e2⟩
                              · subst e1
                                subst e2
                                have hp1 : 0 ≤ (j : Int) + 1 := by omega
                                have hli2 : (j : Int) + 1 < (s.size : Int) := by omega
                                have hge : ¬ (s.size : Int) ≤ (j : Int) + 1 := by omega
                                go_wp2_with fail
                                go_quiet (fail)
                                go_wp2_with fail
                                go_quiet (fail)
                                go_wp2_with fail
                                go_meet
                                case rel => exact ⟨rfl, ((HR2.out.setI _ (j + 1) (by go_num)).drewN _).drewN _, ((HG2.out.setNe hgb _).drewN _).drewN _, ((Only.setCell (D := fun k => k = b) (p := ⟨b, 1, none⟩) HO2.out (fun _ => rfl) _).drewN _).drewN _⟩
                              · subst e1
                                subst e2
                                go_wp2_with fail
                                go_meet
                                case rel => exact ⟨rfl, HR2.out, HG2.out, HO2.out⟩
                          case rest =>
                            clear HR2 HG2 HO2 c0 c1 c2 f1 f2 hlo
                            obtain ⟨e6, hr2, hg2, ho2⟩ := hcut
                            subst e6
                            have c0 : wc.cell? ⟨b, 0, none⟩ = some (.string s) := cell_of hr2 rfl
                            have c1 : wc.cell? ⟨b, 1, none⟩ = some (.int .i64 jm) := cell_of hr2 rfl
                            have c2 : wc.cell? ⟨b, 2, none⟩ = some (.bool false) := cell_of hr2 rfl
                            have f2 : wc.frozen? ⟨b, 2, none⟩ = false := free_of hr2 2
                            have f1 : wc.frozen? ⟨b, 1, none⟩ = false := free_of hr2 1
                            have HR2 := hide hr2
                            have HG2 := hide hg2
                            have HO2 := hide ho2
                            clear hr2 hg2 ho2
                            obtain ⟨j1, hj1⟩ : ∃ j1, jm + 1 = j1 := ⟨_, rfl⟩
                            as_aux_lemma =>
                              go_upto_region 15 with fail
                              go_cut [6] (fun s6 wx => s6 = .int .u8 lo.toNat ∧ RdR wx b s j1 false v ∧ SetG wx w.heap.size S ∧ Only (fun k => k = b) w wx)
                              case first =>
                                as_aux_lemma =>
                                  go_wp2_with fail
                                  go_meet
                                  case rel => exact ⟨rfl, HR2.out.setI _ j1 (by omega), HG2.out.setNe hgb _, Only.setCell (D := fun k => k = b) (p := ⟨b, 1, none⟩) HO2.out (fun _ => rfl) _⟩
                              clear HR2 HG2 HO2 c0 c1 c2 f1 f2
                              obtain ⟨e6, hr2, hg2, ho2⟩ := hcut
                              subst e6
                              rw [hj1] at hlp
                              have HLow1 : Hid (lowP s.data.toList j = some (lo, j1)) := by rw [← hj1]; exact HLow.out
                              clear HLow hj1
                              have c0 : wc.cell? ⟨b, 0, none⟩ = some (.string s) := cell_of hr2 rfl
                              have c1 : wc.cell? ⟨b, 1, none⟩ = some (.int .i64 j1) := cell_of hr2 rfl
                              have c2 : wc.cell? ⟨b, 2, none⟩ = some (.bool false) := cell_of hr2 rfl
                              have f2 : wc.frozen? ⟨b, 2, none⟩ = false := free_of hr2 2
                              have f1 : wc.frozen? ⟨b, 1, none⟩ = false := free_of hr2 1
                              have HR2 := hide hr2
                              have HG2 := hide hg2
                              have HO2 := hide ho2
                              clear hr2 hg2 ho2
                              have hgt1 : ∀ k (h : k < s.size), s.data.toList[k]? = some s[k] := fun k h => get_of_lt s k h
                              have HGk := hide hgt1
                              clear hgt1
                              cases hmb : memberP s.data.toList j with
                              | none =>
                                as_aux_lemma =>
                                  obtain ⟨hx, h45, h93, hbadr⟩ : ∃ hx : j1 + 1 < s.size, s[j1].toNat = 45 ∧ s[j1 + 1].toNat ≠ 93 ∧ (s[j1 + 1].toNat = 92 ∨ s[j1 + 1].toNat < lo.toNat) := by
                                    unfold memberP at hmb
                                    rw [HLow1.out] at hmb
                                    simp only at hmb
                                    split at hmb
                                    · rename_i h hb hh
                                      have hx : j1 + 1 < s.size := by rw [← hlen]; exact some_lt hh
                                      rw [HGk.out _ hx] at hh
                                      cases hh
                                      have h45 : s[j1].toNat = 45 := by
                                        unfold hasB at hb
                                        rw [HGk.out j1 (by omega)] at hb
                                        exact beq_iff_eq.1 hb
                                      by_cases h1 : s[j1 + 1].toNat = 93
                                      · rw [if_pos h1] at hmb; cases hmb
                                      · rw [if_neg h1] at hmb
                                        by_cases h2 : s[j1 + 1].toNat = 92 ∨ s[j1 + 1].toNat < lo.toNat
                                        · exact ⟨hx, h45, h1, h2⟩
                                        · rw [if_neg h2] at hmb; cases hmb
                                    · cases hmb
                                  have HRs : Hid (Res = none) := by
                                    show Res = none
                                    rw [← Hmem.out, hmb]
                                  have hp1 : 0 ≤ (j1 : Int) + 1 := by omega
                                  have hli1 : (j1 : Int) < (s.size : Int) := by omega
                                  have hli2 : (j1 : Int) + 1 < (s.size : Int) := by omega
                                  have k45 : ((s[j1].toNat : Int) == 45) = true := by rw [beq_iff_eq]; omega
                                  have k93 : ((s[j1 + 1].toNat : Int) == 93) = false := by rw [beq_eq_false_iff_ne]; omega
                                  clear hmb Hmem h45 h93
                                  by_cases hlw : s[j1 + 1].toNat < lo.toNat
                                  · have klw : (s[j1 + 1].toNat : Int) < (lo.toNat : Int) := by omega
                                    clear hbadr
                                    go_wp2_with fail
                                    go_quiet (fail)
                                    go_wp2_with fail
                                    go_quiet (fail)
                                    go_wp2_with fail
                                    refine bodyPost_ret (v := .int .i64 0) (by simp [results, Tryz.results260, go_sem]) rfl ?_
                                    have hcl : (Option.map (fun p : (UInt8 → Bool) × Nat => (byteR p.1, p.2)) (classP s.data.toList i)) = none := by
                                      rw [HCl.out, HRs.out]
                                      cases t0 <;> rfl
                                    rw [hcl]
                                    exact ⟨0, _, v, [], rfl, by rw [List.append_nil]; exact HR.out.moved (Only.setCell (D := fun k => k = b) (p := ⟨b, 2, none⟩) (Only.setCell (D := fun k => k = b) (p := ⟨b, 1, none⟩) (HO2.out.drewN _) (fun _ => rfl) _) (fun _ => rfl) _) (((((HR2.out.drewN _).setI _ (j1 + 2) (by go_num))).setBad)), Grew.of_moved (Only.setCell (D := fun k => k = b) (p := ⟨b, 2, none⟩) (Only.setCell (D := fun k => k = b) (p := ⟨b, 1, none⟩) (HO2.out.drewN _) (fun _ => rfl) _) (fun _ => rfl) _), fun R j h => by cases h⟩
                                  · have klw : ¬ (s[j1 + 1].toNat : Int) < (lo.toNat : Int) := by omega
                                    have k92 : ((s[j1 + 1].toNat : Int) == 92) = true := by
                                      rw [beq_iff_eq]
                                      rcases hbadr with h | h
                                      · omega
                                      · exact absurd h hlw
                                    clear hbadr
                                    go_wp2_with fail
                                    go_quiet (fail)
                                    go_wp2_with fail
                                    go_quiet (fail)
                                    go_wp2_with fail
                                    refine bodyPost_ret (v := .int .i64 0) (by simp [results, Tryz.results260, go_sem]) rfl ?_
                                    have hcl : (Option.map (fun p : (UInt8 → Bool) × Nat => (byteR p.1, p.2)) (classP s.data.toList i)) = none := by
                                      rw [HCl.out, HRs.out]
                                      cases t0 <;> rfl
                                    rw [hcl]
                                    exact ⟨0, _, v, [], rfl, by rw [List.append_nil]; exact HR.out.moved (Only.setCell (D := fun k => k = b) (p := ⟨b, 2, none⟩) (Only.setCell (D := fun k => k = b) (p := ⟨b, 1, none⟩) (HO2.out.drewN _) (fun _ => rfl) _) (fun _ => rfl) _) (((((HR2.out.drewN _).setI _ (j1 + 2) (by go_num))).setBad)), Grew.of_moved (Only.setCell (D := fun k => k = b) (p := ⟨b, 2, none⟩) (Only.setCell (D := fun k => k = b) (p := ⟨b, 1, none⟩) (HO2.out.drewN _) (fun _ => rfl) _) (fun _ => rfl) _), fun R j h => by cases h⟩
                              | some pm =>
                                as_aux_lemma =>
                                  obtain ⟨T, j2⟩ := pm
                                  have hmp := memberP_prog hmb
                                  rw [len_eq] at hmp
                                  obtain ⟨hiB, tt, hT, hle, hcase⟩ : ∃ (hiB : UInt8) (tt : Bool), T = rangeS lo hiB ∧ lo.toNat ≤ hiB.toNat ∧ ((tt = true ∧ j2 = j1 + 2 ∧ ∃ hx : j1 + 1 < s.size, s[j1].toNat = 45 ∧ s[j1 + 1].toNat ≠ 93 ∧ s[j1 + 1].toNat ≠ 92 ∧ hiB = s[j1 + 1]) ∨ (tt = false ∧ hiB = lo ∧ j2 = j1 ∧ (¬ j1 + 1 < s.size ∨ ∃ hx : j1 + 1 < s.size, s[j1].toNat ≠ 45 ∨ (s[j1].toNat = 45 ∧ s[j1 + 1].toNat = 93)))) := by
                                    unfold memberP at hmb
                                    rw [HLow1.out] at hmb
                                    simp only at hmb
                                    by_cases hx : j1 + 1 < s.size
                                    · rw [HGk.out _ hx] at hmb
                                      have hb : hasB s.data.toList j1 45 = (s[j1].toNat == 45) := by unfold hasB; rw [HGk.out j1 (by omega)]
                                      rw [hb] at hmb
                                      by_cases h45 : s[j1].toNat = 45
                                      · rw [show (s[j1].toNat == 45) = true from beq_iff_eq.2 h45] at hmb
                                        simp only at hmb
                                        by_cases h1 : s[j1 + 1].toNat = 93
                                        · rw [if_pos h1] at hmb
                                          cases hmb
                                          exact ⟨lo, false, rfl, Nat.le_refl _, Or.inr ⟨rfl, rfl, rfl, Or.inr ⟨hx, Or.inr ⟨h45, h1⟩⟩⟩⟩
                                        · rw [if_neg h1] at hmb
                                          by_cases h2 : s[j1 + 1].toNat = 92 ∨ s[j1 + 1].toNat < lo.toNat
                                          · rw [if_pos h2] at hmb; cases hmb
                                          · rw [if_neg h2] at hmb
                                            cases hmb
                                            exact ⟨s[j1 + 1], true, rfl, by omega, Or.inl ⟨rfl, rfl, hx, h45, h1, fun h => h2 (Or.inl h), rfl⟩⟩
                                      · rw [show (s[j1].toNat == 45) = false from by rw [beq_eq_false_iff_ne]; exact h45] at hmb
                                        simp only at hmb
                                        cases hmb
                                        exact ⟨lo, false, rfl, Nat.le_refl _, Or.inr ⟨rfl, rfl, rfl, Or.inr ⟨hx, Or.inl h45⟩⟩⟩
                                    · rw [get_none s (j1 + 1) (by omega)] at hmb
                                      have h3 : some (rangeS lo lo, j1) = some (T, j2) := by
                                        rw [← hmb]; cases hasB s.data.toList j1 45 <;> rfl
                                      cases h3
                                      exact ⟨lo, false, rfl, Nat.le_refl _, Or.inr ⟨rfl, rfl, rfl, Or.inl hx⟩⟩
                                  have HRs : Hid (membersP m s.data.toList j2 false (orS S (rangeS lo hiB)) = Res) := by
                                    have := Hmem.out
                                    rw [hmb, hT] at this
                                    exact this
                                  clear hmb Hmem hT
                                  have hp1 : 0 ≤ (j1 : Int) + 1 := by omega
                                  as_aux_lemma =>
                                    go_upto_region 17 with fail
                                    go_cut [129] (fun s129 wx => s129 = .bool tt ∧ RdR wx b s j1 false v ∧ SetG wx w.heap.size S ∧ Only (fun k => k = b) w wx)
                                    case first =>
                                      as_aux_lemma =>
                                        rcases hcase with ⟨e1, e2, hx, h45, h93, h92, e3⟩ | ⟨e1, e2, e3, hx | ⟨hx, h45 | ⟨h45, h93⟩⟩⟩
                                        · subst e1
                                          clear e2 e3
                                          have hj1l : j1 < s.size := by omega
                                          have hli1 : (j1 : Int) < (s.size : Int) := by omega
                                          have hli2 : (j1 : Int) + 1 < (s.size : Int) := by omega
                                          have k45 : ((s[j1].toNat : Int) == 45) = true := by rw [beq_iff_eq]; omega
                                          have k93 : ((s[j1 + 1].toNat : Int) == 93) = false := by rw [beq_eq_false_iff_ne]; omega
                                          clear h45 h93 h92
                                          go_wp2_with fail
                                          go_quiet (fail)
                                          go_wp2_with fail
                                          go_meet
                                          case rel => exact ⟨by first | rfl | rw [bne, k93]; rfl, HR2.out.drewN _, HG2.out, HO2.out.drewN _⟩
                                        · subst e1
                                          have hli2 : ¬ (j1 : Int) + 1 < (s.size : Int) := by omega
                                          have hge1 : (s.size : Int) ≤ (j1 : Int) + 1 := by omega
                                          have hdd : decide ((j1 : Int) + 1 < (s.size : Int)) = false := decide_eq_false hli2
                                          clear hx e2 e3
                                          go_wp2_with fail
                                          go_quiet (fail)
                                          go_wp2_with fail
                                          go_meet
                                          case rel => exact ⟨rfl, HR2.out.drewN _, HG2.out, HO2.out.drewN _⟩
                                        · subst e1
                                          clear e2 e3
                                          have hj1l : j1 < s.size := by omega
                                          have hli1 : (j1 : Int) < (s.size : Int) := by omega
                                          have hli2 : (j1 : Int) + 1 < (s.size : Int) := by omega
                                          have k45 : ((s[j1].toNat : Int) == 45) = false := by rw [beq_eq_false_iff_ne]; omega
                                          clear h45
                                          go_wp2_with fail
                                          go_quiet (fail)
                                          go_wp2_with fail
                                          go_meet
                                          case rel => exact ⟨rfl, HR2.out.drewN _, HG2.out, HO2.out.drewN _⟩
                                        · subst e1
                                          clear e2 e3
                                          have hj1l : j1 < s.size := by omega
                                          have hli1 : (j1 : Int) < (s.size : Int) := by omega
                                          have hli2 : (j1 : Int) + 1 < (s.size : Int) := by omega
                                          have k45 : ((s[j1].toNat : Int) == 45) = true := by rw [beq_iff_eq]; omega
                                          have k93 : ((s[j1 + 1].toNat : Int) == 93) = true := by rw [beq_iff_eq]; omega
                                          clear h45 h93
                                          go_wp2_with fail
                                          go_quiet (fail)
                                          go_wp2_with fail
                                          go_meet
                                          case rel => exact ⟨by first | rfl | rw [bne, k93]; rfl, HR2.out.drewN _, HG2.out, HO2.out.drewN _⟩
                                    clear HR2 HG2 HO2 c0 c1 c2 f1 f2
                                    obtain ⟨e129, hr2, hg2, ho2⟩ := hcut
                                    subst e129
                                    have c0 : wc.cell? ⟨b, 0, none⟩ = some (.string s) := cell_of hr2 rfl
                                    have c1 : wc.cell? ⟨b, 1, none⟩ = some (.int .i64 j1) := cell_of hr2 rfl
                                    have c2 : wc.cell? ⟨b, 2, none⟩ = some (.bool false) := cell_of hr2 rfl
                                    have f2 : wc.frozen? ⟨b, 2, none⟩ = false := free_of hr2 2
                                    have f1 : wc.frozen? ⟨b, 1, none⟩ = false := free_of hr2 1
                                    have HR2 := hide hr2
                                    have HG2 := hide hg2
                                    have HO2 := hide ho2
                                    clear hr2 hg2 ho2
                                    as_aux_lemma =>
                                      go_upto_if 129 with fail
                                      go_cut [7] (fun s7 wx => s7 = .int .u8 hiB.toNat ∧ RdR wx b s j2 false v ∧ SetG wx w.heap.size S ∧ Only (fun k => k = b) w wx)
                                      case first =>
                                        as_aux_lemma =>
                                          rcases hcase with ⟨e1, e2, hx, h45, h93, h92, e3⟩ | ⟨e1, e2, e3, hx⟩
                                          · subst e1
                                            subst e2
                                            have hli2 : (j1 : Int) + 1 < (s.size : Int) := by omega
                                            have klw : ¬ (s[j1 + 1].toNat : Int) < (lo.toNat : Int) := by
                                              rw [← e3]; omega
                                            have k92 : ((s[j1 + 1].toNat : Int) == 92) = false := by rw [beq_eq_false_iff_ne]; omega
                                            clear h45 h93 h92
                                            go_wp2_with fail
                                            go_quiet (fail)
                                            go_wp2_with fail
                                            go_meet
                                            case rel => exact ⟨by rw [e3], ((HR2.out.drewN _).setI _ (j1 + 2) (by go_num)), HG2.out.setNe (w := wc.drewN _) hgb _, Only.setCell (D := fun k => k = b) (p := ⟨b, 1, none⟩) (HO2.out.drewN _) (fun _ => rfl) _⟩
                                          · subst e1
                                            subst e3
                                            subst e2
                                            clear hx
                                            go_wp2_with fail
                                            go_meet
                                            case rel => exact ⟨rfl, HR2.out, HG2.out, HO2.out⟩
                                      clear HR2 HG2 HO2 c0 c1 c2 f1 f2 hcase
                                      obtain ⟨e7, hr2, hg2, ho2⟩ := hcut
                                      subst e7
                                      have HR2 := hide hr2
                                      have HG2 := hide hg2
                                      have HO2 := hide ho2
                                      have hhi := hiB.toNat_lt
                                      clear hr2 hg2 ho2
                                      go_wp2_with fail
                                      go_loopg [8] (hiB.toNat + 1 - lo.toNat) (fun g s8 wx => ∃ c : Nat, s8 = .int .i64 c ∧ g = hiB.toNat + 1 - c ∧ lo.toNat ≤ c ∧ c ≤ hiB.toNat + 1 ∧ RdR wx b s j2 false v ∧ SetG wx w.heap.size (upS S lo.toNat c) ∧ Only (fun k => k = b) w wx)
                                      case atStart => exact ⟨lo.toNat, by go_num, rfl, Nat.le_refl _, by omega, HR2.out, by rw [upS_begin]; exact HG2.out, HO2.out⟩
                                      case round =>
                                        as_aux_lemma =>
                                          clear HR2 HG2 HO2
                                          obtain ⟨c, e8, hg, hlc, hch, hr2, hg2, ho2⟩ := hrel
                                          subst e8
                                          have HR2 := hide hr2
                                          have HG2 := hide hg2
                                          have HO2 := hide ho2
                                          have Hgi := hide hg
                                          clear hr2 hg
                                          by_cases hcc : c ≤ hiB.toNat
                                          · have hci : (c : Int) ≤ (hiB.toNat : Int) := by omega
                                            have hc6 : (c : Int) < 256 := by omega
                                            have k1 : wr.cell? ⟨w.heap.size, c, none⟩ = some (.bool (upS S lo.toNat c (UInt8.ofNat c))) := hg2.cell (by omega)
                                            have z1 : wr.frozen? ⟨w.heap.size, c, none⟩ = false := free_of hg2 c
                                            clear hg2 ho2
                                            go_wp2_with fail
                                            go_roundg (hiB.toNat + 1 - (c + 1))
                                            case measure => have := Hgi.out; omega
                                            case rel => exact ⟨c + 1, by go_num, rfl, by omega, by omega, HR2.out.setNe (Ne.symm hgb) _, by rw [← upS_put S lo.toNat c hlc]; exact HG2.out.put c true, Only.setCell (D := fun k => k = b) (p := ⟨w.heap.size, c, none⟩) HO2.out (fun h => absurd h (Nat.lt_irrefl _)) _⟩
                                          · have hci : ¬ (c : Int) ≤ (hiB.toNat : Int) := by omega
                                            have hce : c = hiB.toNat + 1 := by omega
                                            have HG3 : Hid (SetG wr w.heap.size (orS S (rangeS lo hiB))) := by
                                              show SetG _ _ _
                                              rw [← upS_end, ← hce]; exact hg2
                                            clear hg2 ho2 hce
                                            go_wp2_with fail
                                            go_roundg (s.size + 1 - j2)
                                            case measure => have := Hg.out; omega
                                            case rel => exact ⟨j2, m, false, _, rfl, rfl, by omega, hmp.2, by omega, HRs.out, HR2.out, HG3.out, HO2.out⟩
            · have hf : fst = false := by
                cases fst with
                | true => exact absurd (Or.inl rfl) hgo
                | false => rfl
              subst hf
              have h93 : ((s[j].toNat : Int) == 93) = true := by
                rw [beq_iff_eq]
                by_cases h : s[j].toNat = 93
                · omega
                · exact absurd (Or.inr h) hgo
              have HRs : Hid (Res = some (S, j + 1)) := by
                show Res = _
                rw [← hres]
                unfold membersP
                rw [if_pos ⟨rfl, by unfold hasB; rw [HGt.out]; exact beq_iff_eq.2 (by have := beq_iff_eq.1 h93; omega)⟩]
              clear hgo hres
              as_aux_lemma =>
                go_upto_region 6 with fail
                go_cut [45] (fun s45 wx => s45 = .bool false ∧ RdR wx b s j false v ∧ SetG wx w.heap.size S ∧ Only (fun k => k = b) w wx)
                case first =>
                  as_aux_lemma =>
                    go_wp2_with fail
                    go_quiet (fail)
                    go_wp2_with fail
                    go_meet
                    case rel => exact ⟨by rw [bne, h93]; rfl, HR1.out.drewN _, HG1.out, HO1.out.drewN _⟩
                clear HR1 HG1 HO1 c0 c1 c2 f1 f2 h93
                obtain ⟨e45, hr2, hg2, ho2⟩ := hcut
                subst e45
                have c0 : wc.cell? ⟨b, 0, none⟩ = some (.string s) := cell_of hr2 rfl
                have c1 : wc.cell? ⟨b, 1, none⟩ = some (.int .i64 j) := cell_of hr2 rfl
                have f1 : wc.frozen? ⟨b, 1, none⟩ = false := free_of hr2 1
                have HR1 := hide hr2
                have HG1 := hide hg2
                have HO1 := hide ho2
                clear hr2 hg2 ho2
                have hge : ¬ (s.size : Int) ≤ (j : Int) := by omega
                as_aux_lemma =>
                  go_upto_region 27 with fail
                  go_cut [178] (fun s178 wx => s178 = .bool false ∧ RdR wx b s j false v ∧ SetG wx w.heap.size S ∧ Only (fun k => k = b) w wx)
                  case first =>
                    as_aux_lemma =>
                      go_wp2_with fail
                      go_quiet (fail)
                      go_wp2_with fail
                      go_meet
                      case rel => exact ⟨by rw [decide_eq_false (by omega)], HR1.out.drewN _, HG1.out, HO1.out.drewN _⟩
                  clear HR1 HG1 HO1 c0 c1 f1 hge
                  obtain ⟨e178, hr2, hg2, ho2⟩ := hcut
                  subst e178
                  have c1 : wc.cell? ⟨b, 1, none⟩ = some (.int .i64 j) := cell_of hr2 rfl
                  have f1 : wc.frozen? ⟨b, 1, none⟩ = false := free_of hr2 1
                  have HR1 := hide hr2
                  have HG1 := hide hg2
                  have HO1 := hide ho2
                  clear hr2 hg2 ho2
                  as_aux_lemma =>
                    go_upto_region 30 with fail
                    go_cut [178] (fun s178 wx => s178 = .bool false ∧ RdR wx b s (j + 1) false v ∧ SetG wx w.heap.size S ∧ Only (fun k => k = b) w wx)
                    case first =>
                      as_aux_lemma =>
                        go_wp2_with fail
                        go_meet
                        case rel => exact ⟨rfl, HR1.out.setI _ (j + 1) (by go_num), HG1.out.setNe hgb _, Only.setCell (D := fun k => k = b) (p := ⟨b, 1, none⟩) HO1.out (fun _ => rfl) _⟩
                    clear HR1 HG1 HO1 c1 f1
                    obtain ⟨e178, hr2, hg2, ho2⟩ := hcut
                    subst e178
                    have HR1 := hide hr2
                    have HG1 := hide hg2
                    have HO1 := hide ho2
                    clear hr2 hg2 ho2
                    go_wp2_with fail
                    cases t0 with
                    | true =>
                      as_aux_lemma =>
                        go_loopg [9] 256 (fun g s9 wx => ∃ c : Nat, s9 = .int .i64 c ∧ g = 256 - c ∧ c ≤ 256 ∧ RdR wx b s (j + 1) false v ∧ SetG wx w.heap.size (negS S c) ∧ Only (fun k => k = b) w wx)
                        case atStart => exact ⟨0, rfl, rfl, by omega, HR1.out, by rw [negS_begin]; exact HG1.out, HO1.out⟩
                        case round =>
                          as_aux_lemma =>
                            clear HR1 HG1 HO1
                            obtain ⟨c, e9, hg, hc, hr2, hg2, ho2⟩ := hrel
                            subst e9
                            have HR2 := hide hr2
                            have HO2 := hide ho2
                            have Hgi := hide hg
                            clear hr2 ho2 hg
                            by_cases hc3 : c < 256
                            · have hci : (c : Int) < 256 := by omega
                              have k1 : wr.cell? ⟨w.heap.size, c, none⟩ = some (.bool (negS S c (UInt8.ofNat c))) := hg2.cell hc3
                              have z1 : wr.frozen? ⟨w.heap.size, c, none⟩ = false := free_of hg2 c
                              have HG2 := hide hg2
                              clear hg2
                              go_wp2_with fail
                              go_roundg (256 - (c + 1))
                              case measure => have := Hgi.out; omega
                              case rel => exact ⟨c + 1, by go_num, rfl, by omega, HR2.out.setNe (Ne.symm hgb) _, by rw [← negS_put S c hc3]; exact HG2.out.put c _, Only.setCell (D := fun k => k = b) (p := ⟨w.heap.size, c, none⟩) HO2.out (fun h => absurd h (Nat.lt_irrefl _)) _⟩
                            · have hce : c = 256 := by omega
                              have HG2 : Hid (SetG wr w.heap.size (notS S)) := by
                                show SetG _ _ _
                                rw [← negS_end, ← hce]; exact hg2
                              have hci : ¬ (c : Int) < 256 := by omega
                              clear hg2 hce
                              have HCL : Hid (Option.map (fun p : (UInt8 → Bool) × Nat => (byteR p.1, p.2)) (classP s.data.toList i) = some (byteR (notS S), j + 1)) := by
                                show _ = _
                                rw [HCl.out, HRs.out]
                                rfl
                              have HA : Hid (Calls Tryz.prog 53 #[.pointer (some ⟨b, 0, none⟩), .agg #[.int .u8 91, .int .u8 0, .slice (some ⟨w.heap.size, 0, none⟩) 256 256, .int .i64 0, .int .i64 0]] wr (RAddPost b s (j + 1) false v P ⟨91, 0, (notS S), 0, 0⟩ wr)) :=
                                radd_any b s (j + 1) false v P ⟨91, 0, (notS S), 0, 0⟩ (some ⟨w.heap.size, 0, none⟩) 256 256 wr ⟨⟨_, _, _, rfl⟩, fun _ => ⟨w.heap.size, rfl, HG2.out⟩⟩ (by omega) (HR.out.moved HO2.out HR2.out)
                              go_wp2_with fail
                              refine HA.out.mono ?_
                              rintro e w9 ⟨rfl, v', hr9, hg9⟩
                              have HR9 := hide hr9
                              have HG9 := hide hg9
                              clear hr9 hg9
                              go_wp2
                              go_ret
                              rw [HCL.out]
                              exact ⟨P.length, j + 1, v', [⟨91, 0, (notS S), 0, 0⟩], rfl, HR9.out, (Grew.of_moved HO2.out).trans HG9.out, fun R jj h => by
                                cases h
                                exact ⟨rfl, by rw [List.length_singleton]; omega, 1, PcIs.leaf (Or.inr (Or.inr (Or.inr (Or.inr (Or.inr rfl))))) (fun t i' j' _ => one_byte (Or.inr (Or.inr rfl)) (fun c => by simp) t i' j')⟩⟩
                    | false =>
                      as_aux_lemma =>
                        go_loopg [9] 1 (fun g s9 wx => s9 = .int .i64 0 ∧ g = 1 ∧ RdR wx b s (j + 1) false v ∧ SetG wx w.heap.size S ∧ Only (fun k => k = b) w wx)
                        case atStart => exact ⟨rfl, rfl, HR1.out, HG1.out, HO1.out⟩
                        case round =>
                          as_aux_lemma =>
                            clear HR1 HG1 HO1
                            obtain ⟨e9, hg, hr2, hg2, ho2⟩ := hrel
                            subst e9
                            have HR2 := hide hr2
                            have HO2 := hide ho2
                            have HG2 := hide hg2
                            clear hr2 ho2 hg hg2
                            have HCL : Hid (Option.map (fun p : (UInt8 → Bool) × Nat => (byteR p.1, p.2)) (classP s.data.toList i) = some (byteR S, j + 1)) := by
                              show _ = _
                              rw [HCl.out, HRs.out]
                              rfl
                            have HA : Hid (Calls Tryz.prog 53 #[.pointer (some ⟨b, 0, none⟩), .agg #[.int .u8 91, .int .u8 0, .slice (some ⟨w.heap.size, 0, none⟩) 256 256, .int .i64 0, .int .i64 0]] wr (RAddPost b s (j + 1) false v P ⟨91, 0, S, 0, 0⟩ wr)) :=
                              radd_any b s (j + 1) false v P ⟨91, 0, S, 0, 0⟩ (some ⟨w.heap.size, 0, none⟩) 256 256 wr ⟨⟨_, _, _, rfl⟩, fun _ => ⟨w.heap.size, rfl, HG2.out⟩⟩ (by omega) (HR.out.moved HO2.out HR2.out)
                            go_wp2_with fail
                            refine HA.out.mono ?_
                            rintro e w9 ⟨rfl, v', hr9, hg9⟩
                            have HR9 := hide hr9
                            have HG9 := hide hg9
                            clear hr9 hg9
                            go_wp2
                            go_ret
                            rw [HCL.out]
                            exact ⟨P.length, j + 1, v', [⟨91, 0, S, 0, 0⟩], rfl, HR9.out, (Grew.of_moved HO2.out).trans HG9.out, fun R jj h => by
                              cases h
                              exact ⟨rfl, by rw [List.length_singleton]; omega, 1, PcIs.leaf (Or.inr (Or.inr (Or.inr (Or.inr (Or.inr rfl))))) (fun t i' j' _ => one_byte (Or.inr (Or.inr rfl)) (fun c => by simp) t i' j')⟩⟩
          · have hje : j = s.size := by omega
            have hli : ¬ (j : Int) < (s.size : Int) := by omega
            have hge : (s.size : Int) ≤ (j : Int) := by omega
            have HRs : Hid (Res = none) := by
              show Res = none
              rw [← hres]
              unfold membersP
              rw [if_neg (fun h => by have := hasB_lt h.2; omega)]
              unfold memberP lowP
              rw [get_none s j (by omega)]
            clear hres hlt
            go_wp2_with fail
            go_quiet (fail)
            go_wp2_with fail
            go_quiet (fail)
            go_wp2_with fail
            refine bodyPost_ret (v := .int .i64 0) (by simp [results, Tryz.results260, go_sem]) rfl ?_
            have hcl : (Option.map (fun p : (UInt8 → Bool) × Nat => (byteR p.1, p.2)) (classP s.data.toList i)) = none := by
              rw [HCl.out, HRs.out]
              cases t0 <;> rfl
            rw [hcl]
            exact ⟨0, _, v, [], rfl, by rw [List.append_nil]; exact HR.out.moved (Only.setCell (D := fun k => k = b) (p := ⟨b, 2, none⟩) (HO1.out.drewN _) (fun _ => rfl) _) ((HR1.out.drewN _).setBad), Grew.of_moved (Only.setCell (D := fun k => k = b) (p := ⟨b, 2, none⟩) (HO1.out.drewN _) (fun _ => rfl) _), fun R j h => by cases h⟩
end Go.Proofs.YthhiofppbpgipaaGreatDoor
