import Derived.Test.YtdbdbaepmdmnfaaGreatDoorZ03
namespace Go.Proofs.YtdbdbaepmdmnfaaGreatDoor
open Go.RowKit
theorem rngB_true {l : List UInt8} {j : Nat} (h : rngB l j = true) : hasB l j 45 = true ∧ j + 1 < l.length ∧ hasB l (j + 1) 93 = false := by
  unfold rngB at h
  simp only [Bool.and_eq_true, decide_eq_true_iff, Bool.not_eq_true'] at h
  exact ⟨h.1.1, h.1.2, h.2⟩
theorem memberP_one {l : List UInt8} {i j : Nat} {lo : UInt8} (h : lowP l i = some (lo, j)) (hr : rngB l j = false) : memberP l i = some (rangeS lo lo, j) := by
  unfold memberP
  rw [h]
  simp only
  split
  · rename_i c hd hb hc
    split
    · rfl
    · rename_i h93
      have : rngB l j = true := by
        unfold rngB
        rw [hb, decide_eq_true (some_lt hc)]
        unfold hasB
        rw [hc]
        simp [h93]
      rw [hr] at this; cases this
  · rfl
theorem memberP_two {l : List UInt8} {i j : Nat} {lo h : UInt8} (hl : lowP l i = some (lo, j)) (hr : rngB l j = true) (hh : l[j + 1]? = some h) :
    memberP l i = if h.toNat = 92 ∨ h.toNat < lo.toNat then none else some (rangeS lo h, j + 2) := by
  obtain ⟨h1, h2, h3⟩ := rngB_true hr
  unfold memberP
  rw [hl]
  simp only
  rw [h1, hh]
  simp only
  rw [if_neg]
  unfold hasB at h3
  rw [hh] at h3
  simpa using h3
set_option maxHeartbeats 2000000 in
theorem member_any (b g : Nat) (hgb : ¬ b = g) (s : ByteArray) (hs : s.size ≤ maxLen) (i : Nat) (hi : i ≤ s.size) (xs : Nat → Nat) (S : UInt8 → Bool) (hS : SetIs xs S) (w : World) (h : RdB w b s i) (hg : SetB w g xs) :
    Calls Tryz.prog 368 #[.pointer (some ⟨b, 0, none⟩), .pointer (some ⟨g, 0, none⟩)] w fun e w' => e = .returned (.bool (memberP s.data.toList i).isSome) ∧ Only (fun k => k = b ∨ k = g) w w' ∧
      ∀ T j, memberP s.data.toList i = some (T, j) → RdB w' b s j ∧ ∃ ys, SetIs ys (orS S T) ∧ SetB w' g ys := by
  have HS := hide hS
  have HR0 := hide h
  have HG0 := hide hg
  have hml : s.size ≤ 9223372036854775807 := hs
  clear h hg hS
  by_cases hlt : i < s.size
  · have HG1 := hide (get_of_lt s i hlt)
    go_enter Tryz.func368, Tryz.ntmps368
    go_wp2_with fail
    refine (take_some b s hs i hlt _ HR0.out).mono ?_
    rintro e w1 ⟨rfl, hr1, ho1⟩
    have HR1 := hide hr1
    have HG2 : Hid (SetB w1 g xs) := (ho1.block g (heap_lt HG0.out) (fun e => hgb e.symm)).trans HG0.out
    have HO1 := hide (ho1.mono (E := fun k => k = b ∨ k = g) (fun k _ e => Or.inl e))
    clear hr1 ho1
    by_cases hc : s[i].toNat = 92
    · by_cases hl2 : i + 1 < s.size
      · have HG3 := hide (get_of_lt s (i + 1) hl2)
        have HLow : Hid (lowP s.data.toList i = some (s[i + 1], i + 2)) := by
          show lowP _ _ = _
          unfold lowP; rw [HG1.out]; simp only; rw [if_pos hc, HG3.out]
        have hci : (s[i].toNat : Int) = 92 := by omega
        go_wp2_with fail
        refine (take_some b s hs (i + 1) hl2 _ HR1.out).mono ?_
        rintro e w2 ⟨rfl, hr2, ho2⟩
        obtain ⟨J, hJ⟩ : ∃ J, J = i + 2 := ⟨_, rfl⟩
        have hJs : J ≤ s.size := by omega
        have HRd : Hid (RdB w2 b s J) := by rw [hJ]; exact hr2
        rw [← hJ] at HLow
        generalize s[i + 1] = LW at *
        have HSt : Hid (SetB w2 g xs) := (ho2.block g (heap_lt HG2.out) (fun e => hgb e.symm)).trans HG2.out
        have HOn : Hid (Only (fun k => k = b ∨ k = g) w w2) := HO1.out.trans ho2 (fun k _ e => Or.inl e)
        clear hr2 ho2 hJ
        have c0 : w2.cell? ⟨b, 0, none⟩ = some (.string s) := HRd.out.at.1
        have c1 : w2.cell? ⟨b, 1, none⟩ = some (.int .i64 J) := HRd.out.at.2
        have f1 : w2.frozen? ⟨b, 1, none⟩ = false := HRd.out.free 1
        cases hr : rngB s.data.toList J
        · have HRng := hide hr
          have HM : Hid (memberP s.data.toList i = some (rangeS LW LW, J)) := memberP_one HLow.out hr
          clear hr
          go_wp2_with fail
          refine (range_any b s hs J hJs _ HRd.out).mono ?_
          rintro e w' ⟨rfl, n3, rfl⟩
          rw [HRng.out]
          go_wp2_with fail
          refine (add_any g xs S HS.out LW LW _ ?hset).mono ?_
          case hset => exact HSt.out
          rintro e w4 ⟨rfl, ⟨ys, hy, hb⟩, ho⟩
          have H1 := hide (RdB.only (HRd.out.drewN n3) ho hgb)
          have H2 := hide hy
          have H3 := hide hb
          have H4 := hide ((HOn.out.drewN n3).trans ho (fun k _ e => Or.inr e))
          clear hy hb ho
          go_wp2
          go_ret
          exact ⟨ret_bool (by rw [HM.out]; rfl), H4.out, fun T k h => by rw [HM.out] at h; cases h; exact ⟨H1.out, ys, H2.out, H3.out⟩⟩
        · have HRng := hide hr
          obtain ⟨_, hk2, _⟩ := rngB_true hr
          rw [len_eq] at hk2
          obtain ⟨k, hk⟩ : ∃ k, k = J + 1 := ⟨_, rfl⟩
          have hks : k < s.size := by omega
          have hwr : IntKind.i64.wrap ((J : Int) + 1) = (k : Int) := by rw [IntKind.wrap_i64]; omega
          obtain ⟨m, hm⟩ : ∃ m, m = J + 2 := ⟨_, rfl⟩
          have hwm : IntKind.i64.wrap ((J : Int) + 2) = (m : Int) := by rw [IntKind.wrap_i64]; omega
          have HG := hide (get_of_lt s k hks)
          have HM : Hid (memberP s.data.toList i = if s[k].toNat = 92 ∨ s[k].toNat < LW.toNat then none else some (rangeS LW s[k], m)) := by
            have h7 := memberP_two HLow.out hr (by rw [← hk]; exact HG.out)
            rw [← hm] at h7
            exact h7
          clear hr hk hm hk2
          go_wp2_with fail
          refine (range_any b s hs J hJs _ HRd.out).mono ?_
          rintro e w' ⟨rfl, n3, rfl⟩
          rw [HRng.out]
          go_wp2_with fail
          go_quiet (fail)
          by_cases h92 : (s[k].toNat : Int) = 92
          · go_wp2
            go_ret
            exact ⟨ret_bool (by rw [HM.out, if_pos (Or.inl (by omega))]; rfl), (HOn.out.drewN _).setCell (p := ⟨b, 1, none⟩) (fun _ => Or.inl rfl) _, fun T k h => by rw [HM.out, if_pos (Or.inl (by omega))] at h; cases h⟩
          · by_cases hlo : (s[k].toNat : Int) < (LW.toNat : Int)
            · go_wp2
              go_ret
              exact ⟨ret_bool (by rw [HM.out, if_pos (Or.inr (by omega))]; rfl), (HOn.out.drewN _).setCell (p := ⟨b, 1, none⟩) (fun _ => Or.inl rfl) _, fun T k h => by rw [HM.out, if_pos (Or.inr (by omega))] at h; cases h⟩
            · go_wp2_with fail
              refine (add_any g xs S HS.out LW s[k] _ ?hset).mono ?_
              case hset =>
                unfold SetB
                rw [Below.heap_setCell _ _ _ _ (fun e => hgb e.symm)]
                exact HSt.out
              rintro e w4 ⟨rfl, ⟨ys, hy, hb⟩, ho⟩
              have H1 : Hid (RdB w4 b s m) := RdB.only ((HRd.out.drewN _).set m) ho hgb
              have H2 := hide hy
              have H3 := hide hb
              have H4 := hide (((HOn.out.drewN _).setCell (p := ⟨b, 1, none⟩) (fun _ => Or.inl rfl) _).trans ho (fun k _ e => Or.inr e))
              have HN : Hid (¬ (s[k].toNat = 92 ∨ s[k].toNat < LW.toNat)) := by
                intro h
                omega
              clear hy hb ho
              go_wp2
              go_ret
              exact ⟨ret_bool (by rw [HM.out, if_neg HN.out]; rfl), H4.out, fun T k h => by rw [HM.out, if_neg HN.out] at h; cases h; exact ⟨H1.out, ys, H2.out, H3.out⟩⟩
      · have HM : Hid (memberP s.data.toList i = none) := by
          show memberP _ _ = _
          unfold memberP lowP
          rw [HG1.out]
          simp only
          rw [if_pos hc, get_none s (i + 1) (by omega)]
        have hci : (s[i].toNat : Int) = 92 := by omega
        have HR2 : Hid (RdB w1 b s s.size) := by
          have h7 : i + 1 = s.size := by omega
          rw [← h7]; exact HR1.out
        go_wp2_with fail
        refine (take_none b s _ HR2.out).mono ?_
        rintro e w2 ⟨rfl, hr2, ho2⟩
        have HOn : Hid (Only (fun k => k = b ∨ k = g) w w2) := HO1.out.trans ho2 (fun k _ e => Or.inl e)
        clear hr2 ho2
        go_wp2
        go_ret
        exact ⟨ret_bool (by rw [HM.out]; rfl), HOn.out, fun T k h => by rw [HM.out] at h; cases h⟩
    · have HLow : Hid (lowP s.data.toList i = some (s[i], i + 1)) := by
        show lowP _ _ = _
        unfold lowP; rw [HG1.out]; simp only; rw [if_neg hc]
      have hci : ¬ (s[i].toNat : Int) = 92 := by omega
      obtain ⟨J, hJ⟩ : ∃ J, J = i + 1 := ⟨_, rfl⟩
      have hJs : J ≤ s.size := by omega
      have HRd : Hid (RdB w1 b s J) := by rw [hJ]; exact HR1.out
      rw [← hJ] at HLow
      clear hJ
      have HSt := HG2
      have HOn := HO1
      have c0 : w1.cell? ⟨b, 0, none⟩ = some (.string s) := HRd.out.at.1
      have c1 : w1.cell? ⟨b, 1, none⟩ = some (.int .i64 J) := HRd.out.at.2
      have f1 : w1.frozen? ⟨b, 1, none⟩ = false := HRd.out.free 1
      cases hr : rngB s.data.toList J
      · have HRng := hide hr
        have HM : Hid (memberP s.data.toList i = some (rangeS s[i] s[i], J)) := memberP_one HLow.out hr
        clear hr
        go_wp2_with fail
        refine (range_any b s hs J hJs _ HRd.out).mono ?_
        rintro e w' ⟨rfl, n3, rfl⟩
        rw [HRng.out]
        go_wp2_with fail
        refine (add_any g xs S HS.out s[i] s[i] _ ?hset).mono ?_
        case hset => exact HSt.out
        rintro e w4 ⟨rfl, ⟨ys, hy, hb⟩, ho⟩
        have H1 := hide (RdB.only (HRd.out.drewN n3) ho hgb)
        have H2 := hide hy
        have H3 := hide hb
        have H4 := hide ((HOn.out.drewN n3).trans ho (fun k _ e => Or.inr e))
        clear hy hb ho
        go_wp2
        go_ret
        exact ⟨ret_bool (by rw [HM.out]; rfl), H4.out, fun T k h => by rw [HM.out] at h; cases h; exact ⟨H1.out, ys, H2.out, H3.out⟩⟩
      · have HRng := hide hr
        obtain ⟨_, hk2, _⟩ := rngB_true hr
        rw [len_eq] at hk2
        obtain ⟨k, hk⟩ : ∃ k, k = J + 1 := ⟨_, rfl⟩
        have hks : k < s.size := by omega
        have hwr : IntKind.i64.wrap ((J : Int) + 1) = (k : Int) := by rw [IntKind.wrap_i64]; omega
        obtain ⟨m, hm⟩ : ∃ m, m = J + 2 := ⟨_, rfl⟩
        have hwm : IntKind.i64.wrap ((J : Int) + 2) = (m : Int) := by rw [IntKind.wrap_i64]; omega
        have HG := hide (get_of_lt s k hks)
        have HM : Hid (memberP s.data.toList i = if s[k].toNat = 92 ∨ s[k].toNat < s[i].toNat then none else some (rangeS s[i] s[k], m)) := by
          have h7 := memberP_two HLow.out hr (by rw [← hk]; exact HG.out)
          rw [← hm] at h7
          exact h7
        clear hr hk hm hk2
        go_wp2_with fail
        refine (range_any b s hs J hJs _ HRd.out).mono ?_
        rintro e w' ⟨rfl, n3, rfl⟩
        rw [HRng.out]
        go_wp2_with fail
        go_quiet (fail)
        by_cases h92 : (s[k].toNat : Int) = 92
        · go_wp2
          go_ret
          exact ⟨ret_bool (by rw [HM.out, if_pos (Or.inl (by omega))]; rfl), (HOn.out.drewN _).setCell (p := ⟨b, 1, none⟩) (fun _ => Or.inl rfl) _, fun T k h => by rw [HM.out, if_pos (Or.inl (by omega))] at h; cases h⟩
        · by_cases hlo : (s[k].toNat : Int) < (s[i].toNat : Int)
          · go_wp2
            go_ret
            exact ⟨ret_bool (by rw [HM.out, if_pos (Or.inr (by omega))]; rfl), (HOn.out.drewN _).setCell (p := ⟨b, 1, none⟩) (fun _ => Or.inl rfl) _, fun T k h => by rw [HM.out, if_pos (Or.inr (by omega))] at h; cases h⟩
          · go_wp2_with fail
            refine (add_any g xs S HS.out s[i] s[k] _ ?hset).mono ?_
            case hset =>
              unfold SetB
              rw [Below.heap_setCell _ _ _ _ (fun e => hgb e.symm)]
              exact HSt.out
            rintro e w4 ⟨rfl, ⟨ys, hy, hb⟩, ho⟩
            have H1 : Hid (RdB w4 b s m) := RdB.only ((HRd.out.drewN _).set m) ho hgb
            have H2 := hide hy
            have H3 := hide hb
            have H4 := hide (((HOn.out.drewN _).setCell (p := ⟨b, 1, none⟩) (fun _ => Or.inl rfl) _).trans ho (fun k _ e => Or.inr e))
            have HN : Hid (¬ (s[k].toNat = 92 ∨ s[k].toNat < s[i].toNat)) := by
              intro h
              omega
            clear hy hb ho
            go_wp2
            go_ret
            exact ⟨ret_bool (by rw [HM.out, if_neg HN.out]; rfl), H4.out, fun T k h => by rw [HM.out, if_neg HN.out] at h; cases h; exact ⟨H1.out, ys, H2.out, H3.out⟩⟩
  · obtain rfl : i = s.size := by omega
    have HM : Hid (memberP s.data.toList s.size = none) := by
      show memberP _ _ = _
      unfold memberP lowP
      rw [get_none s s.size (Nat.le_refl _)]
    go_enter Tryz.func368, Tryz.ntmps368
    go_wp2_with fail
    refine (take_none b s _ HR0.out).mono ?_
    rintro e w2 ⟨rfl, hr2, ho2⟩
    have HOn : Hid (Only (fun k => k = b ∨ k = g) w w2) := ho2.mono (fun k _ e => Or.inl e)
    clear hr2 ho2
    go_wp2
    go_ret
    exact ⟨ret_bool (by rw [HM.out]; rfl), HOn.out, fun T k h => by rw [HM.out] at h; cases h⟩
end Go.Proofs.YtdbdbaepmdmnfaaGreatDoor

