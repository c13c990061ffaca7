import Derived.Test.YthhiofppbpgipaaGreatDoorFWalkC
namespace Go.Proofs.YthhiofppbpgipaaGreatDoor
open Go.RowKit

set_option maxHeartbeats 2000000 in
theorem refItem_nodot_end (s : ByteArray) (i : Nat) (w : World) (hs : s.size ≤ 65536) (hk : i + 1 ≤ s.size) (hd : itDot s.data.toList (i + 1) = false) (hp : pE s.data.toList (i + 1) = s.size) :
    Calls Tryz.prog 71 #[.string s, .int .i64 i] w fun e w' => e = .returned (.agg #[.bool false, .bool false, .int .i64 0, .int .i64 0, .int .i64 0, .int .u8 0]) ∧ Below w.heap.size w w' := by
  have HWE : Hid (wE s.data.toList (i + 1) = fE s.data.toList (i + 1) + d2m s.data.toList (fE s.data.toList (i + 1))) := rfl
  have HWD : Hid (itWidth s.data.toList (i + 1) = numN s.data.toList (fE s.data.toList (i + 1)) (d2m s.data.toList (fE s.data.toList (i + 1)))) := rfl
  have HLf : Hid (itLeft s.data.toList (i + 1) = hasIn 45 s.data.toList (i + 1) (fE s.data.toList (i + 1))) := rfl
  have HZr : Hid (itZero s.data.toList (i + 1) = hasIn 48 s.data.toList (i + 1) (fE s.data.toList (i + 1))) := rfl
  have HP := hide (pE_nodot hd)
  rw [HP.out] at hp
  rw [hp] at HWE
  clear hd
  clear hp
  have hfi : i + 1 ≤ fE s.data.toList (i + 1) := runTo_ge _ _ _
  go_enter Tryz.func71, Tryz.ntmps71
  go_wp2
  go_loopw [1] (fun t wr => ∃ j : Nat, i + 1 ≤ j ∧ j ≤ s.size ∧ t = .int .i64 j ∧ wr = (w.alloc (.cells #[.bool false, .bool false, .int .i64 0, .int .i64 0, .int .i64 0, .int .u8 0] 175)).alloc (.cells #[.bool (hasIn 45 s.data.toList (i + 1) j), .bool (hasIn 48 s.data.toList (i + 1) j), .int .i64 0, .int .i64 (-1), .int .i64 0, .int .u8 0] 175) ∧ runTo flagB s.data.toList j = fE s.data.toList (i + 1)) (fun t _ => s.size - (intOf t).toNat)
  case atStart => exact ⟨i + 1, by omega, hk, by go_num, by rw [hasIn_self, hasIn_self], rfl⟩
  case round =>
    obtain ⟨j, hj0, hj, rfl, rfl, hr⟩ := hrel
    have HR : Hid (runTo flagB s.data.toList j = fE s.data.toList (i + 1)) := hr
    clear hr
    by_cases hl : j < s.size
    · have HG : Hid (s.data.toList[j]? = some s[j]) := get_of_lt s j hl
      have HF := hide (flagB_eq s[j])
      have H5 := hide (hasIn_step 45 HG.out hj0)
      have H8 := hide (hasIn_step 48 HG.out hj0)
      cases hx45 : ((s[j].toNat : Int) == 45)
      · cases hx48 : ((s[j].toNat : Int) == 48)
        · have HE : Hid (fE s.data.toList (i + 1) = j) := by
            show fE s.data.toList (i + 1) = j
            rw [← HR.out, runTo_stop (fun c hc => ?_)]
            rw [HG.out] at hc; cases hc; rw [HF.out, hx45, hx48]; rfl
          rw [HE.out] at HWE HWD HLf HZr
          go_wp2_with (first | (go_at_call_of 134 (Value.int IntKind.i64 (j : Int)); refine (refDigits_any s _ _ hs hj).mono ?_; rintro e w' ⟨rfl, rfl⟩; rw [← HWE.out, ← HWD.out, ← HLf.out, ← HZr.out]))
          refine bodyPost_ret (v := .agg #[.bool false, .bool false, .int .i64 0, .int .i64 0, .int .i64 0, .int .u8 0]) (by simp [results, Tryz.results71, go_sem]) rfl ⟨rfl, ?_⟩
          repeat (first | exact Below.refl _ _ | refine Below.drew ?_ | refine Below.alloc ?_ (by simp <;> omega) _)
        · go_wp2
          go_roundw
          case rel => exact ⟨j + 1, by omega, by omega, by go_num, by rw [H5.out, H8.out, hx45, hx48, Bool.or_false, Bool.or_true], by rw [runTo_step HG.out (by rw [HF.out, hx45, hx48]; rfl)]; exact HR.out⟩
          case measure => simp [intOf]; omega
      · have hx48 : ((s[j].toNat : Int) == 48) = false := by
          rw [beq_iff_eq] at hx45; rw [beq_eq_false_iff_ne]; omega
        go_wp2
        go_roundw
        case rel => exact ⟨j + 1, by omega, by omega, by go_num, by rw [H5.out, H8.out, hx45, hx48, Bool.or_false, Bool.or_true], by rw [runTo_step HG.out (by rw [HF.out, hx45]; rfl)]; exact HR.out⟩
        case measure => simp [intOf]; omega
    · have HE : Hid (fE s.data.toList (i + 1) = j) := by
        show fE s.data.toList (i + 1) = j
        rw [← HR.out, runTo_stop (fun c hc => ?_)]
        rw [get_none s j (by omega)] at hc; cases hc
      rw [HE.out] at HWE HWD HLf HZr
      go_wp2_with (first | (go_at_call_of 134 (Value.int IntKind.i64 (j : Int)); refine (refDigits_any s _ _ hs hj).mono ?_; rintro e w' ⟨rfl, rfl⟩; rw [← HWE.out, ← HWD.out, ← HLf.out, ← HZr.out]))
      refine bodyPost_ret (v := .agg #[.bool false, .bool false, .int .i64 0, .int .i64 0, .int .i64 0, .int .u8 0]) (by simp [results, Tryz.results71, go_sem]) rfl ⟨rfl, ?_⟩
      repeat (first | exact Below.refl _ _ | refine Below.drew ?_ | refine Below.alloc ?_ (by simp <;> omega) _)

set_option maxHeartbeats 2000000 in
theorem refItem_pct (s : ByteArray) (i : Nat) (w : World) (hs : s.size ≤ 65536) (hk : i + 1 ≤ s.size) (hd : itDot s.data.toList (i + 1) = false) (hp : pE s.data.toList (i + 1) < s.size) (h37 : (((itLetter s.data.toList (i + 1)).toNat : Int) == 37) = true) (hlen : pE s.data.toList (i + 1) = i + 1) :
    Calls Tryz.prog 71 #[.string s, .int .i64 i] w fun e w' => e = .returned (.agg #[.bool (itLeft s.data.toList (i + 1)), .bool (itZero s.data.toList (i + 1)), .int .i64 (itWidth s.data.toList (i + 1)), .int .i64 (-1), .int .i64 (pE s.data.toList (i + 1) + 1 - i), .int .u8 (itLetter s.data.toList (i + 1)).toNat]) ∧ Below w.heap.size w w' := by
  have HWE : Hid (wE s.data.toList (i + 1) = fE s.data.toList (i + 1) + d2m s.data.toList (fE s.data.toList (i + 1))) := rfl
  have HWD : Hid (itWidth s.data.toList (i + 1) = numN s.data.toList (fE s.data.toList (i + 1)) (d2m s.data.toList (fE s.data.toList (i + 1)))) := rfl
  have HLf : Hid (itLeft s.data.toList (i + 1) = hasIn 45 s.data.toList (i + 1) (fE s.data.toList (i + 1))) := rfl
  have HZr : Hid (itZero s.data.toList (i + 1) = hasIn 48 s.data.toList (i + 1) (fE s.data.toList (i + 1))) := rfl
  have HP := hide (pE_nodot hd)
  rw [HP.out] at hp
  rw [HP.out] at hlen
  rw [HP.out]
  have HL := hide (itLetter_lt s (i + 1) _ HP.out hp)
  have h46 : ((s[wE s.data.toList (i + 1)].toNat : Int) == 46) = false := by rw [← isAt_lt s _ 46 hp]; exact hd
  rw [HL.out] at h37
  rw [HL.out]
  clear HL
  clear hd HP
  generalize wE s.data.toList (i + 1) = pp at *
  have hge : ¬ ((s.size : Int) ≤ pp) := by omega
  have hl2 : ((pp : Int) + 1 - i == 2) = true := by rw [beq_iff_eq]; omega
  clear hlen
  have hfi : i + 1 ≤ fE s.data.toList (i + 1) := runTo_ge _ _ _
  go_enter Tryz.func71, Tryz.ntmps71
  go_wp2
  go_loopw [1] (fun t wr => ∃ j : Nat, i + 1 ≤ j ∧ j ≤ s.size ∧ t = .int .i64 j ∧ wr = (w.alloc (.cells #[.bool false, .bool false, .int .i64 0, .int .i64 0, .int .i64 0, .int .u8 0] 175)).alloc (.cells #[.bool (hasIn 45 s.data.toList (i + 1) j), .bool (hasIn 48 s.data.toList (i + 1) j), .int .i64 0, .int .i64 (-1), .int .i64 0, .int .u8 0] 175) ∧ runTo flagB s.data.toList j = fE s.data.toList (i + 1)) (fun t _ => s.size - (intOf t).toNat)
  case atStart => exact ⟨i + 1, by omega, hk, by go_num, by rw [hasIn_self, hasIn_self], rfl⟩
  case round =>
    obtain ⟨j, hj0, hj, rfl, rfl, hr⟩ := hrel
    have HR : Hid (runTo flagB s.data.toList j = fE s.data.toList (i + 1)) := hr
    clear hr
    by_cases hl : j < s.size
    · have HG : Hid (s.data.toList[j]? = some s[j]) := get_of_lt s j hl
      have HF := hide (flagB_eq s[j])
      have H5 := hide (hasIn_step 45 HG.out hj0)
      have H8 := hide (hasIn_step 48 HG.out hj0)
      cases hx45 : ((s[j].toNat : Int) == 45)
      · cases hx48 : ((s[j].toNat : Int) == 48)
        · have HE : Hid (fE s.data.toList (i + 1) = j) := by
            show fE s.data.toList (i + 1) = j
            rw [← HR.out, runTo_stop (fun c hc => ?_)]
            rw [HG.out] at hc; cases hc; rw [HF.out, hx45, hx48]; rfl
          rw [HE.out] at HWE HWD HLf HZr
          go_wp2_with (first | (go_at_call_of 134 (Value.int IntKind.i64 (j : Int)); refine (refDigits_any s _ _ hs hj).mono ?_; rintro e w' ⟨rfl, rfl⟩; rw [← HWE.out, ← HWD.out, ← HLf.out, ← HZr.out]))
          refine bodyPost_ret (v := .agg #[.bool (itLeft s.data.toList (i + 1)), .bool (itZero s.data.toList (i + 1)), .int .i64 (itWidth s.data.toList (i + 1)), .int .i64 (-1), .int .i64 (pp + 1 - i), .int .u8 s[pp].toNat]) (by simp [results, Tryz.results71, go_sem]) rfl ⟨rfl, ?_⟩
          repeat (first | exact Below.refl _ _ | refine Below.drew ?_ | refine Below.alloc ?_ (by simp <;> omega) _)
        · go_wp2
          go_roundw
          case rel => exact ⟨j + 1, by omega, by omega, by go_num, by rw [H5.out, H8.out, hx45, hx48, Bool.or_false, Bool.or_true], by rw [runTo_step HG.out (by rw [HF.out, hx45, hx48]; rfl)]; exact HR.out⟩
          case measure => simp [intOf]; omega
      · have hx48 : ((s[j].toNat : Int) == 48) = false := by
          rw [beq_iff_eq] at hx45; rw [beq_eq_false_iff_ne]; omega
        go_wp2
        go_roundw
        case rel => exact ⟨j + 1, by omega, by omega, by go_num, by rw [H5.out, H8.out, hx45, hx48, Bool.or_false, Bool.or_true], by rw [runTo_step HG.out (by rw [HF.out, hx45]; rfl)]; exact HR.out⟩
        case measure => simp [intOf]; omega
    · have HE : Hid (fE s.data.toList (i + 1) = j) := by
        show fE s.data.toList (i + 1) = j
        rw [← HR.out, runTo_stop (fun c hc => ?_)]
        rw [get_none s j (by omega)] at hc; cases hc
      have h9 := HWE.out
      rw [HE.out] at h9
      omega

set_option maxHeartbeats 2000000 in
theorem refItem_s (s : ByteArray) (i : Nat) (w : World) (hs : s.size ≤ 65536) (hk : i + 1 ≤ s.size) (hd : itDot s.data.toList (i + 1) = false) (hp : pE s.data.toList (i + 1) < s.size) (h37 : (((itLetter s.data.toList (i + 1)).toNat : Int) == 37) = false) (h115 : (((itLetter s.data.toList (i + 1)).toNat : Int) == 115) = true) :
    Calls Tryz.prog 71 #[.string s, .int .i64 i] w fun e w' => e = .returned (.agg #[.bool (itLeft s.data.toList (i + 1)), .bool (itZero s.data.toList (i + 1)), .int .i64 (itWidth s.data.toList (i + 1)), .int .i64 (-1), .int .i64 (pE s.data.toList (i + 1) + 1 - i), .int .u8 (itLetter s.data.toList (i + 1)).toNat]) ∧ Below w.heap.size w w' := by
  have HWE : Hid (wE s.data.toList (i + 1) = fE s.data.toList (i + 1) + d2m s.data.toList (fE s.data.toList (i + 1))) := rfl
  have HWD : Hid (itWidth s.data.toList (i + 1) = numN s.data.toList (fE s.data.toList (i + 1)) (d2m s.data.toList (fE s.data.toList (i + 1)))) := rfl
  have HLf : Hid (itLeft s.data.toList (i + 1) = hasIn 45 s.data.toList (i + 1) (fE s.data.toList (i + 1))) := rfl
  have HZr : Hid (itZero s.data.toList (i + 1) = hasIn 48 s.data.toList (i + 1) (fE s.data.toList (i + 1))) := rfl
  have HP := hide (pE_nodot hd)
  rw [HP.out] at hp
  rw [HP.out]
  have HL := hide (itLetter_lt s (i + 1) _ HP.out hp)
  have h46 : ((s[wE s.data.toList (i + 1)].toNat : Int) == 46) = false := by rw [← isAt_lt s _ 46 hp]; exact hd
  rw [HL.out] at h37 h115
  rw [HL.out]
  clear HL
  clear hd HP
  generalize wE s.data.toList (i + 1) = pp at *
  have hge : ¬ ((s.size : Int) ≤ pp) := by omega
  have hfi : i + 1 ≤ fE s.data.toList (i + 1) := runTo_ge _ _ _
  go_enter Tryz.func71, Tryz.ntmps71
  go_wp2
  go_loopw [1] (fun t wr => ∃ j : Nat, i + 1 ≤ j ∧ j ≤ s.size ∧ t = .int .i64 j ∧ wr = (w.alloc (.cells #[.bool false, .bool false, .int .i64 0, .int .i64 0, .int .i64 0, .int .u8 0] 175)).alloc (.cells #[.bool (hasIn 45 s.data.toList (i + 1) j), .bool (hasIn 48 s.data.toList (i + 1) j), .int .i64 0, .int .i64 (-1), .int .i64 0, .int .u8 0] 175) ∧ runTo flagB s.data.toList j = fE s.data.toList (i + 1)) (fun t _ => s.size - (intOf t).toNat)
  case atStart => exact ⟨i + 1, by omega, hk, by go_num, by rw [hasIn_self, hasIn_self], rfl⟩
  case round =>
    obtain ⟨j, hj0, hj, rfl, rfl, hr⟩ := hrel
    have HR : Hid (runTo flagB s.data.toList j = fE s.data.toList (i + 1)) := hr
    clear hr
    by_cases hl : j < s.size
    · have HG : Hid (s.data.toList[j]? = some s[j]) := get_of_lt s j hl
      have HF := hide (flagB_eq s[j])
      have H5 := hide (hasIn_step 45 HG.out hj0)
      have H8 := hide (hasIn_step 48 HG.out hj0)
      cases hx45 : ((s[j].toNat : Int) == 45)
      · cases hx48 : ((s[j].toNat : Int) == 48)
        · have HE : Hid (fE s.data.toList (i + 1) = j) := by
            show fE s.data.toList (i + 1) = j
            rw [← HR.out, runTo_stop (fun c hc => ?_)]
            rw [HG.out] at hc; cases hc; rw [HF.out, hx45, hx48]; rfl
          rw [HE.out] at HWE HWD HLf HZr
          go_wp2_with (first | (go_at_call_of 134 (Value.int IntKind.i64 (j : Int)); refine (refDigits_any s _ _ hs hj).mono ?_; rintro e w' ⟨rfl, rfl⟩; rw [← HWE.out, ← HWD.out, ← HLf.out, ← HZr.out]))
          refine bodyPost_ret (v := .agg #[.bool (itLeft s.data.toList (i + 1)), .bool (itZero s.data.toList (i + 1)), .int .i64 (itWidth s.data.toList (i + 1)), .int .i64 (-1), .int .i64 (pp + 1 - i), .int .u8 s[pp].toNat]) (by simp [results, Tryz.results71, go_sem]) rfl ⟨rfl, ?_⟩
          repeat (first | exact Below.refl _ _ | refine Below.drew ?_ | refine Below.alloc ?_ (by simp <;> omega) _)
        · go_wp2
          go_roundw
          case rel => exact ⟨j + 1, by omega, by omega, by go_num, by rw [H5.out, H8.out, hx45, hx48, Bool.or_false, Bool.or_true], by rw [runTo_step HG.out (by rw [HF.out, hx45, hx48]; rfl)]; exact HR.out⟩
          case measure => simp [intOf]; omega
      · have hx48 : ((s[j].toNat : Int) == 48) = false := by
          rw [beq_iff_eq] at hx45; rw [beq_eq_false_iff_ne]; omega
        go_wp2
        go_roundw
        case rel => exact ⟨j + 1, by omega, by omega, by go_num, by rw [H5.out, H8.out, hx45, hx48, Bool.or_false, Bool.or_true], by rw [runTo_step HG.out (by rw [HF.out, hx45]; rfl)]; exact HR.out⟩
        case measure => simp [intOf]; omega
    · have HE : Hid (fE s.data.toList (i + 1) = j) := by
        show fE s.data.toList (i + 1) = j
        rw [← HR.out, runTo_stop (fun c hc => ?_)]
        rw [get_none s j (by omega)] at hc; cases hc
      have h9 := HWE.out
      rw [HE.out] at h9
      omega

set_option maxHeartbeats 2000000 in
theorem refItem_d (s : ByteArray) (i : Nat) (w : World) (hs : s.size ≤ 65536) (hk : i + 1 ≤ s.size) (hd : itDot s.data.toList (i + 1) = false) (hp : pE s.data.toList (i + 1) < s.size) (h37 : (((itLetter s.data.toList (i + 1)).toNat : Int) == 37) = false) (h115 : (((itLetter s.data.toList (i + 1)).toNat : Int) == 115) = false) (h100 : (((itLetter s.data.toList (i + 1)).toNat : Int) == 100) = true) :
    Calls Tryz.prog 71 #[.string s, .int .i64 i] w fun e w' => e = .returned (.agg #[.bool (itLeft s.data.toList (i + 1)), .bool (itZero s.data.toList (i + 1)), .int .i64 (itWidth s.data.toList (i + 1)), .int .i64 (-1), .int .i64 (pE s.data.toList (i + 1) + 1 - i), .int .u8 (itLetter s.data.toList (i + 1)).toNat]) ∧ Below w.heap.size w w' := by
  have HWE : Hid (wE s.data.toList (i + 1) = fE s.data.toList (i + 1) + d2m s.data.toList (fE s.data.toList (i + 1))) := rfl
  have HWD : Hid (itWidth s.data.toList (i + 1) = numN s.data.toList (fE s.data.toList (i + 1)) (d2m s.data.toList (fE s.data.toList (i + 1)))) := rfl
  have HLf : Hid (itLeft s.data.toList (i + 1) = hasIn 45 s.data.toList (i + 1) (fE s.data.toList (i + 1))) := rfl
  have HZr : Hid (itZero s.data.toList (i + 1) = hasIn 48 s.data.toList (i + 1) (fE s.data.toList (i + 1))) := rfl
  have HP := hide (pE_nodot hd)
  rw [HP.out] at hp
  rw [HP.out]
  have HL := hide (itLetter_lt s (i + 1) _ HP.out hp)
  have h46 : ((s[wE s.data.toList (i + 1)].toNat : Int) == 46) = false := by rw [← isAt_lt s _ 46 hp]; exact hd
  rw [HL.out] at h37 h115 h100
  rw [HL.out]
  clear HL
  clear hd HP
  generalize wE s.data.toList (i + 1) = pp at *
  have hge : ¬ ((s.size : Int) ≤ pp) := by omega
  have hfi : i + 1 ≤ fE s.data.toList (i + 1) := runTo_ge _ _ _
  go_enter Tryz.func71, Tryz.ntmps71
  go_wp2
  go_loopw [1] (fun t wr => ∃ j : Nat, i + 1 ≤ j ∧ j ≤ s.size ∧ t = .int .i64 j ∧ wr = (w.alloc (.cells #[.bool false, .bool false, .int .i64 0, .int .i64 0, .int .i64 0, .int .u8 0] 175)).alloc (.cells #[.bool (hasIn 45 s.data.toList (i + 1) j), .bool (hasIn 48 s.data.toList (i + 1) j), .int .i64 0, .int .i64 (-1), .int .i64 0, .int .u8 0] 175) ∧ runTo flagB s.data.toList j = fE s.data.toList (i + 1)) (fun t _ => s.size - (intOf t).toNat)
  case atStart => exact ⟨i + 1, by omega, hk, by go_num, by rw [hasIn_self, hasIn_self], rfl⟩
  case round =>
    obtain ⟨j, hj0, hj, rfl, rfl, hr⟩ := hrel
    have HR : Hid (runTo flagB s.data.toList j = fE s.data.toList (i + 1)) := hr
    clear hr
    by_cases hl : j < s.size
    · have HG : Hid (s.data.toList[j]? = some s[j]) := get_of_lt s j hl
      have HF := hide (flagB_eq s[j])
      have H5 := hide (hasIn_step 45 HG.out hj0)
      have H8 := hide (hasIn_step 48 HG.out hj0)
      cases hx45 : ((s[j].toNat : Int) == 45)
      · cases hx48 : ((s[j].toNat : Int) == 48)
        · have HE : Hid (fE s.data.toList (i + 1) = j) := by
            show fE s.data.toList (i + 1) = j
            rw [← HR.out, runTo_stop (fun c hc => ?_)]
            rw [HG.out] at hc; cases hc; rw [HF.out, hx45, hx48]; rfl
          rw [HE.out] at HWE HWD HLf HZr
          go_wp2_with (first | (go_at_call_of 134 (Value.int IntKind.i64 (j : Int)); refine (refDigits_any s _ _ hs hj).mono ?_; rintro e w' ⟨rfl, rfl⟩; rw [← HWE.out, ← HWD.out, ← HLf.out, ← HZr.out]))
          refine bodyPost_ret (v := .agg #[.bool (itLeft s.data.toList (i + 1)), .bool (itZero s.data.toList (i + 1)), .int .i64 (itWidth s.data.toList (i + 1)), .int .i64 (-1), .int .i64 (pp + 1 - i), .int .u8 s[pp].toNat]) (by simp [results, Tryz.results71, go_sem]) rfl ⟨rfl, ?_⟩
          repeat (first | exact Below.refl _ _ | refine Below.drew ?_ | refine Below.alloc ?_ (by simp <;> omega) _)
        · go_wp2
          go_roundw
          case rel => exact ⟨j + 1, by omega, by omega, by go_num, by rw [H5.out, H8.out, hx45, hx48, Bool.or_false, Bool.or_true], by rw [runTo_step HG.out (by rw [HF.out, hx45, hx48]; rfl)]; exact HR.out⟩
          case measure => simp [intOf]; omega
      · have hx48 : ((s[j].toNat : Int) == 48) = false := by
          rw [beq_iff_eq] at hx45; rw [beq_eq_false_iff_ne]; omega
        go_wp2
        go_roundw
        case rel => exact ⟨j + 1, by omega, by omega, by go_num, by rw [H5.out, H8.out, hx45, hx48, Bool.or_false, Bool.or_true], by rw [runTo_step HG.out (by rw [HF.out, hx45]; rfl)]; exact HR.out⟩
        case measure => simp [intOf]; omega
    · have HE : Hid (fE s.data.toList (i + 1) = j) := by
        show fE s.data.toList (i + 1) = j
        rw [← HR.out, runTo_stop (fun c hc => ?_)]
        rw [get_none s j (by omega)] at hc; cases hc
      have h9 := HWE.out
      rw [HE.out] at h9
      omega

set_option maxHeartbeats 2000000 in
theorem refItem_x (s : ByteArray) (i : Nat) (w : World) (hs : s.size ≤ 65536) (hk : i + 1 ≤ s.size) (hd : itDot s.data.toList (i + 1) = false) (hp : pE s.data.toList (i + 1) < s.size) (h37 : (((itLetter s.data.toList (i + 1)).toNat : Int) == 37) = false) (h115 : (((itLetter s.data.toList (i + 1)).toNat : Int) == 115) = false) (h100 : (((itLetter s.data.toList (i + 1)).toNat : Int) == 100) = false) (h120 : (((itLetter s.data.toList (i + 1)).toNat : Int) == 120) = true) :
    Calls Tryz.prog 71 #[.string s, .int .i64 i] w fun e w' => e = .returned (.agg #[.bool (itLeft s.data.toList (i + 1)), .bool (itZero s.data.toList (i + 1)), .int .i64 (itWidth s.data.toList (i + 1)), .int .i64 (-1), .int .i64 (pE s.data.toList (i + 1) + 1 - i), .int .u8 (itLetter s.data.toList (i + 1)).toNat]) ∧ Below w.heap.size w w' := by
  have HWE : Hid (wE s.data.toList (i + 1) = fE s.data.toList (i + 1) + d2m s.data.toList (fE s.data.toList (i + 1))) := rfl
  have HWD : Hid (itWidth s.data.toList (i + 1) = numN s.data.toList (fE s.data.toList (i + 1)) (d2m s.data.toList (fE s.data.toList (i + 1)))) := rfl
  have HLf : Hid (itLeft s.data.toList (i + 1) = hasIn 45 s.data.toList (i + 1) (fE s.data.toList (i + 1))) := rfl
  have HZr : Hid (itZero s.data.toList (i + 1) = hasIn 48 s.data.toList (i + 1) (fE s.data.toList (i + 1))) := rfl
  have HP := hide (pE_nodot hd)
  rw [HP.out] at hp
  rw [HP.out]
  have HL := hide (itLetter_lt s (i + 1) _ HP.out hp)
  have h46 : ((s[wE s.data.toList (i + 1)].toNat : Int) == 46) = false := by rw [← isAt_lt s _ 46 hp]; exact hd
  rw [HL.out] at h37 h115 h100 h120
  rw [HL.out]
  clear HL
  clear hd HP
  generalize wE s.data.toList (i + 1) = pp at *
  have hge : ¬ ((s.size : Int) ≤ pp) := by omega
  have hfi : i + 1 ≤ fE s.data.toList (i + 1) := runTo_ge _ _ _
  go_enter Tryz.func71, Tryz.ntmps71
  go_wp2
  go_loopw [1] (fun t wr => ∃ j : Nat, i + 1 ≤ j ∧ j ≤ s.size ∧ t = .int .i64 j ∧ wr = (w.alloc (.cells #[.bool false, .bool false, .int .i64 0, .int .i64 0, .int .i64 0, .int .u8 0] 175)).alloc (.cells #[.bool (hasIn 45 s.data.toList (i + 1) j), .bool (hasIn 48 s.data.toList (i + 1) j), .int .i64 0, .int .i64 (-1), .int .i64 0, .int .u8 0] 175) ∧ runTo flagB s.data.toList j = fE s.data.toList (i + 1)) (fun t _ => s.size - (intOf t).toNat)
  case atStart => exact ⟨i + 1, by omega, hk, by go_num, by rw [hasIn_self, hasIn_self], rfl⟩
  case round =>
    obtain ⟨j, hj0, hj, rfl, rfl, hr⟩ := hrel
    have HR : Hid (runTo flagB s.data.toList j = fE s.data.toList (i + 1)) := hr
    clear hr
    by_cases hl : j < s.size
    · have HG : Hid (s.data.toList[j]? = some s[j]) := get_of_lt s j hl
      have HF := hide (flagB_eq s[j])
      have H5 := hide (hasIn_step 45 HG.out hj0)
      have H8 := hide (hasIn_step 48 HG.out hj0)
      cases hx45 : ((s[j].toNat : Int) == 45)
      · cases hx48 : ((s[j].toNat : Int) == 48)
        · have HE : Hid (fE s.data.toList (i + 1) = j) := by
            show fE s.data.toList (i + 1) = j
            rw [← HR.out, runTo_stop (fun c hc => ?_)]
            rw [HG.out] at hc; cases hc; rw [HF.out, hx45, hx48]; rfl
          rw [HE.out] at HWE HWD HLf HZr
          go_wp2_with (first | (go_at_call_of 134 (Value.int IntKind.i64 (j : Int)); refine (refDigits_any s _ _ hs hj).mono ?_; rintro e w' ⟨rfl, rfl⟩; rw [← HWE.out, ← HWD.out, ← HLf.out, ← HZr.out]))
          refine bodyPost_ret (v := .agg #[.bool (itLeft s.data.toList (i + 1)), .bool (itZero s.data.toList (i + 1)), .int .i64 (itWidth s.data.toList (i + 1)), .int .i64 (-1), .int .i64 (pp + 1 - i), .int .u8 s[pp].toNat]) (by simp [results, Tryz.results71, go_sem]) rfl ⟨rfl, ?_⟩
          repeat (first | exact Below.refl _ _ | refine Below.drew ?_ | refine Below.alloc ?_ (by simp <;> omega) _)
        · go_wp2
          go_roundw
          case rel => exact ⟨j + 1, by omega, by omega, by go_num, by rw [H5.out, H8.out, hx45, hx48, Bool.or_false, Bool.or_true], by rw [runTo_step HG.out (by rw [HF.out, hx45, hx48]; rfl)]; exact HR.out⟩
          case measure => simp [intOf]; omega
      · have hx48 : ((s[j].toNat : Int) == 48) = false := by
          rw [beq_iff_eq] at hx45; rw [beq_eq_false_iff_ne]; omega
        go_wp2
        go_roundw
        case rel => exact ⟨j + 1, by omega, by omega, by go_num, by rw [H5.out, H8.out, hx45, hx48, Bool.or_false, Bool.or_true], by rw [runTo_step HG.out (by rw [HF.out, hx45]; rfl)]; exact HR.out⟩
        case measure => simp [intOf]; omega
    · have HE : Hid (fE s.data.toList (i + 1) = j) := by
        show fE s.data.toList (i + 1) = j
        rw [← HR.out, runTo_stop (fun c hc => ?_)]
        rw [get_none s j (by omega)] at hc; cases hc
      have h9 := HWE.out
      rw [HE.out] at h9
      omega

set_option maxHeartbeats 2000000 in
theorem refItem_c (s : ByteArray) (i : Nat) (w : World) (hs : s.size ≤ 65536) (hk : i + 1 ≤ s.size) (hd : itDot s.data.toList (i + 1) = false) (hp : pE s.data.toList (i + 1) < s.size) (h37 : (((itLetter s.data.toList (i + 1)).toNat : Int) == 37) = false) (h115 : (((itLetter s.data.toList (i + 1)).toNat : Int) == 115) = false) (h100 : (((itLetter s.data.toList (i + 1)).toNat : Int) == 100) = false) (h120 : (((itLetter s.data.toList (i + 1)).toNat : Int) == 120) = false) (h99 : (((itLetter s.data.toList (i + 1)).toNat : Int) == 99) = true) :
    Calls Tryz.prog 71 #[.string s, .int .i64 i] w fun e w' => e = .returned (.agg #[.bool (itLeft s.data.toList (i + 1)), .bool (itZero s.data.toList (i + 1)), .int .i64 (itWidth s.data.toList (i + 1)), .int .i64 (-1), .int .i64 (pE s.data.toList (i + 1) + 1 - i), .int .u8 (itLetter s.data.toList (i + 1)).toNat]) ∧ Below w.heap.size w w' := by
  have HWE : Hid (wE s.data.toList (i + 1) = fE s.data.toList (i + 1) + d2m s.data.toList (fE s.data.toList (i + 1))) := rfl
  have HWD : Hid (itWidth s.data.toList (i + 1) = numN s.data.toList (fE s.data.toList (i + 1)) (d2m s.data.toList (fE s.data.toList (i + 1)))) := rfl
  have HLf : Hid (itLeft s.data.toList (i + 1) = hasIn 45 s.data.toList (i + 1) (fE s.data.toList (i + 1))) := rfl
  have HZr : Hid (itZero s.data.toList (i + 1) = hasIn 48 s.data.toList (i + 1) (fE s.data.toList (i + 1))) := rfl
  have HP := hide (pE_nodot hd)
  rw [HP.out] at hp
  rw [HP.out]
  have HL := hide (itLetter_lt s (i + 1) _ HP.out hp)
  have h46 : ((s[wE s.data.toList (i + 1)].toNat : Int) == 46) = false := by rw [← isAt_lt s _ 46 hp]; exact hd
  rw [HL.out] at h37 h115 h100 h120 h99
  rw [HL.out]
  clear HL
  clear hd HP
  generalize wE s.data.toList (i + 1) = pp at *
  have hge : ¬ ((s.size : Int) ≤ pp) := by omega
  have hfi : i + 1 ≤ fE s.data.toList (i + 1) := runTo_ge _ _ _
  go_enter Tryz.func71, Tryz.ntmps71
  go_wp2
  go_loopw [1] (fun t wr => ∃ j : Nat, i + 1 ≤ j ∧ j ≤ s.size ∧ t = .int .i64 j ∧ wr = (w.alloc (.cells #[.bool false, .bool false, .int .i64 0, .int .i64 0, .int .i64 0, .int .u8 0] 175)).alloc (.cells #[.bool (hasIn 45 s.data.toList (i + 1) j), .bool (hasIn 48 s.data.toList (i + 1) j), .int .i64 0, .int .i64 (-1), .int .i64 0, .int .u8 0] 175) ∧ runTo flagB s.data.toList j = fE s.data.toList (i + 1)) (fun t _ => s.size - (intOf t).toNat)
  case atStart => exact ⟨i + 1, by omega, hk, by go_num, by rw [hasIn_self, hasIn_self], rfl⟩
  case round =>
    obtain ⟨j, hj0, hj, rfl, rfl, hr⟩ := hrel
    have HR : Hid (runTo flagB s.data.toList j = fE s.data.toList (i + 1)) := hr
    clear hr
    by_cases hl : j < s.size
    · have HG : Hid (s.data.toList[j]? = some s[j]) := get_of_lt s j hl
      have HF := hide (flagB_eq s[j])
      have H5 := hide (hasIn_step 45 HG.out hj0)
      have H8 := hide (hasIn_step 48 HG.out hj0)
      cases hx45 : ((s[j].toNat : Int) == 45)
      · cases hx48 : ((s[j].toNat : Int) == 48)
        · have HE : Hid (fE s.data.toList (i + 1) = j) := by
            show fE s.data.toList (i + 1) = j
            rw [← HR.out, runTo_stop (fun c hc => ?_)]
            rw [HG.out] at hc; cases hc; rw [HF.out, hx45, hx48]; rfl
          rw [HE.out] at HWE HWD HLf HZr
          go_wp2_with (first | (go_at_call_of 134 (Value.int IntKind.i64 (j : Int)); refine (refDigits_any s _ _ hs hj).mono ?_; rintro e w' ⟨rfl, rfl⟩; rw [← HWE.out, ← HWD.out, ← HLf.out, ← HZr.out]))
          refine bodyPost_ret (v := .agg #[.bool (itLeft s.data.toList (i + 1)), .bool (itZero s.data.toList (i + 1)), .int .i64 (itWidth s.data.toList (i + 1)), .int .i64 (-1), .int .i64 (pp + 1 - i), .int .u8 s[pp].toNat]) (by simp [results, Tryz.results71, go_sem]) rfl ⟨rfl, ?_⟩
          repeat (first | exact Below.refl _ _ | refine Below.drew ?_ | refine Below.alloc ?_ (by simp <;> omega) _)
        · go_wp2
          go_roundw
          case rel => exact ⟨j + 1, by omega, by omega, by go_num, by rw [H5.out, H8.out, hx45, hx48, Bool.or_false, Bool.or_true], by rw [runTo_step HG.out (by rw [HF.out, hx45, hx48]; rfl)]; exact HR.out⟩
          case measure => simp [intOf]; omega
      · have hx48 : ((s[j].toNat : Int) == 48) = false := by
          rw [beq_iff_eq] at hx45; rw [beq_eq_false_iff_ne]; omega
        go_wp2
        go_roundw
        case rel => exact ⟨j + 1, by omega, by omega, by go_num, by rw [H5.out, H8.out, hx45, hx48, Bool.or_false, Bool.or_true], by rw [runTo_step HG.out (by rw [HF.out, hx45]; rfl)]; exact HR.out⟩
        case measure => simp [intOf]; omega
    · have HE : Hid (fE s.data.toList (i + 1) = j) := by
        show fE s.data.toList (i + 1) = j
        rw [← HR.out, runTo_stop (fun c hc => ?_)]
        rw [get_none s j (by omega)] at hc; cases hc
      have h9 := HWE.out
      rw [HE.out] at h9
      omega

set_option maxHeartbeats 2000000 in
theorem refItem_none37 (s : ByteArray) (i : Nat) (w : World) (hs : s.size ≤ 65536) (hk : i + 1 ≤ s.size) (hd : itDot s.data.toList (i + 1) = false) (hp : pE s.data.toList (i + 1) < s.size) (h37 : (((itLetter s.data.toList (i + 1)).toNat : Int) == 37) = true) (hlen : pE s.data.toList (i + 1) ≠ i + 1) (h115 : (((itLetter s.data.toList (i + 1)).toNat : Int) == 115) = false) (h100 : (((itLetter s.data.toList (i + 1)).toNat : Int) == 100) = false) (h120 : (((itLetter s.data.toList (i + 1)).toNat : Int) == 120) = false) (h99 : (((itLetter s.data.toList (i + 1)).toNat : Int) == 99) = false) :
    Calls Tryz.prog 71 #[.string s, .int .i64 i] w fun e w' => e = .returned (.agg #[.bool false, .bool false, .int .i64 0, .int .i64 0, .int .i64 0, .int .u8 0]) ∧ Below w.heap.size w w' := by
  have HWE : Hid (wE s.data.toList (i + 1) = fE s.data.toList (i + 1) + d2m s.data.toList (fE s.data.toList (i + 1))) := rfl
  have HWD : Hid (itWidth s.data.toList (i + 1) = numN s.data.toList (fE s.data.toList (i + 1)) (d2m s.data.toList (fE s.data.toList (i + 1)))) := rfl
  have HLf : Hid (itLeft s.data.toList (i + 1) = hasIn 45 s.data.toList (i + 1) (fE s.data.toList (i + 1))) := rfl
  have HZr : Hid (itZero s.data.toList (i + 1) = hasIn 48 s.data.toList (i + 1) (fE s.data.toList (i + 1))) := rfl
  have HP := hide (pE_nodot hd)
  rw [HP.out] at hp
  rw [HP.out] at hlen
  have HL := hide (itLetter_lt s (i + 1) _ HP.out hp)
  have h46 : ((s[wE s.data.toList (i + 1)].toNat : Int) == 46) = false := by rw [← isAt_lt s _ 46 hp]; exact hd
  rw [HL.out] at h37 h115 h100 h120 h99
  clear HL
  clear hd HP
  generalize wE s.data.toList (i + 1) = pp at *
  have hge : ¬ ((s.size : Int) ≤ pp) := by omega
  have hl2 : ((pp : Int) + 1 - i == 2) = false := by rw [beq_eq_false_iff_ne]; omega
  clear hlen
  have hfi : i + 1 ≤ fE s.data.toList (i + 1) := runTo_ge _ _ _
  go_enter Tryz.func71, Tryz.ntmps71
  go_wp2
  go_loopw [1] (fun t wr => ∃ j : Nat, i + 1 ≤ j ∧ j ≤ s.size ∧ t = .int .i64 j ∧ wr = (w.alloc (.cells #[.bool false, .bool false, .int .i64 0, .int .i64 0, .int .i64 0, .int .u8 0] 175)).alloc (.cells #[.bool (hasIn 45 s.data.toList (i + 1) j), .bool (hasIn 48 s.data.toList (i + 1) j), .int .i64 0, .int .i64 (-1), .int .i64 0, .int .u8 0] 175) ∧ runTo flagB s.data.toList j = fE s.data.toList (i + 1)) (fun t _ => s.size - (intOf t).toNat)
  case atStart => exact ⟨i + 1, by omega, hk, by go_num, by rw [hasIn_self, hasIn_self], rfl⟩
  case round =>
    obtain ⟨j, hj0, hj, rfl, rfl, hr⟩ := hrel
    have HR : Hid (runTo flagB s.data.toList j = fE s.data.toList (i + 1)) := hr
    clear hr
    by_cases hl : j < s.size
    · have HG : Hid (s.data.toList[j]? = some s[j]) := get_of_lt s j hl
      have HF := hide (flagB_eq s[j])
      have H5 := hide (hasIn_step 45 HG.out hj0)
      have H8 := hide (hasIn_step 48 HG.out hj0)
      cases hx45 : ((s[j].toNat : Int) == 45)
      · cases hx48 : ((s[j].toNat : Int) == 48)
        · have HE : Hid (fE s.data.toList (i + 1) = j) := by
            show fE s.data.toList (i + 1) = j
            rw [← HR.out, runTo_stop (fun c hc => ?_)]
            rw [HG.out] at hc; cases hc; rw [HF.out, hx45, hx48]; rfl
          rw [HE.out] at HWE HWD HLf HZr
          go_wp2_with (first | (go_at_call_of 134 (Value.int IntKind.i64 (j : Int)); refine (refDigits_any s _ _ hs hj).mono ?_; rintro e w' ⟨rfl, rfl⟩; rw [← HWE.out, ← HWD.out, ← HLf.out, ← HZr.out]))
          refine bodyPost_ret (v := .agg #[.bool false, .bool false, .int .i64 0, .int .i64 0, .int .i64 0, .int .u8 0]) (by simp [results, Tryz.results71, go_sem]) rfl ⟨rfl, ?_⟩
          repeat (first | exact Below.refl _ _ | refine Below.drew ?_ | refine Below.alloc ?_ (by simp <;> omega) _)
        · go_wp2
          go_roundw
          case rel => exact ⟨j + 1, by omega, by omega, by go_num, by rw [H5.out, H8.out, hx45, hx48, Bool.or_false, Bool.or_true], by rw [runTo_step HG.out (by rw [HF.out, hx45, hx48]; rfl)]; exact HR.out⟩
          case measure => simp [intOf]; omega
      · have hx48 : ((s[j].toNat : Int) == 48) = false := by
          rw [beq_iff_eq] at hx45; rw [beq_eq_false_iff_ne]; omega
        go_wp2
        go_roundw
        case rel => exact ⟨j + 1, by omega, by omega, by go_num, by rw [H5.out, H8.out, hx45, hx48, Bool.or_false, Bool.or_true], by rw [runTo_step HG.out (by rw [HF.out, hx45]; rfl)]; exact HR.out⟩
        case measure => simp [intOf]; omega
    · have HE : Hid (fE s.data.toList (i + 1) = j) := by
        show fE s.data.toList (i + 1) = j
        rw [← HR.out, runTo_stop (fun c hc => ?_)]
        rw [get_none s j (by omega)] at hc; cases hc
      have h9 := HWE.out
      rw [HE.out] at h9
      omega

set_option maxHeartbeats 2000000 in
theorem refItem_none (s : ByteArray) (i : Nat) (w : World) (hs : s.size ≤ 65536) (hk : i + 1 ≤ s.size) (hd : itDot s.data.toList (i + 1) = false) (hp : pE s.data.toList (i + 1) < s.size) (h37 : (((itLetter s.data.toList (i + 1)).toNat : Int) == 37) = false) (h115 : (((itLetter s.data.toList (i + 1)).toNat : Int) == 115) = false) (h100 : (((itLetter s.data.toList (i + 1)).toNat : Int) == 100) = false) (h120 : (((itLetter s.data.toList (i + 1)).toNat : Int) == 120) = false) (h99 : (((itLetter s.data.toList (i + 1)).toNat : Int) == 99) = false) :
    Calls Tryz.prog 71 #[.string s, .int .i64 i] w fun e w' => e = .returned (.agg #[.bool false, .bool false, .int .i64 0, .int .i64 0, .int .i64 0, .int .u8 0]) ∧ Below w.heap.size w w' := by
  have HWE : Hid (wE s.data.toList (i + 1) = fE s.data.toList (i + 1) + d2m s.data.toList (fE s.data.toList (i + 1))) := rfl
  have HWD : Hid (itWidth s.data.toList (i + 1) = numN s.data.toList (fE s.data.toList (i + 1)) (d2m s.data.toList (fE s.data.toList (i + 1)))) := rfl
  have HLf : Hid (itLeft s.data.toList (i + 1) = hasIn 45 s.data.toList (i + 1) (fE s.data.toList (i + 1))) := rfl
  have HZr : Hid (itZero s.data.toList (i + 1) = hasIn 48 s.data.toList (i + 1) (fE s.data.toList (i + 1))) := rfl
  have HP := hide (pE_nodot hd)
  rw [HP.out] at hp
  have HL := hide (itLetter_lt s (i + 1) _ HP.out hp)
  have h46 : ((s[wE s.data.toList (i + 1)].toNat : Int) == 46) = false := by rw [← isAt_lt s _ 46 hp]; exact hd
  rw [HL.out] at h37 h115 h100 h120 h99
  clear HL
  clear hd HP
  generalize wE s.data.toList (i + 1) = pp at *
  have hge : ¬ ((s.size : Int) ≤ pp) := by omega
  have hfi : i + 1 ≤ fE s.data.toList (i + 1) := runTo_ge _ _ _
  go_enter Tryz.func71, Tryz.ntmps71
  go_wp2
  go_loopw [1] (fun t wr => ∃ j : Nat, i + 1 ≤ j ∧ j ≤ s.size ∧ t = .int .i64 j ∧ wr = (w.alloc (.cells #[.bool false, .bool false, .int .i64 0, .int .i64 0, .int .i64 0, .int .u8 0] 175)).alloc (.cells #[.bool (hasIn 45 s.data.toList (i + 1) j), .bool (hasIn 48 s.data.toList (i + 1) j), .int .i64 0, .int .i64 (-1), .int .i64 0, .int .u8 0] 175) ∧ runTo flagB s.data.toList j = fE s.data.toList (i + 1)) (fun t _ => s.size - (intOf t).toNat)
  case atStart => exact ⟨i + 1, by omega, hk, by go_num, by rw [hasIn_self, hasIn_self], rfl⟩
  case round =>
    obtain ⟨j, hj0, hj, rfl, rfl, hr⟩ := hrel
    have HR : Hid (runTo flagB s.data.toList j = fE s.data.toList (i + 1)) := hr
    clear hr
    by_cases hl : j < s.size
    · have HG : Hid (s.data.toList[j]? = some s[j]) := get_of_lt s j hl
      have HF := hide (flagB_eq s[j])
      have H5 := hide (hasIn_step 45 HG.out hj0)
      have H8 := hide (hasIn_step 48 HG.out hj0)
      cases hx45 : ((s[j].toNat : Int) == 45)
      · cases hx48 : ((s[j].toNat : Int) == 48)
        · have HE : Hid (fE s.data.toList (i + 1) = j) := by
            show fE s.data.toList (i + 1) = j
            rw [← HR.out, runTo_stop (fun c hc => ?_)]
            rw [HG.out] at hc; cases hc; rw [HF.out, hx45, hx48]; rfl
          rw [HE.out] at HWE HWD HLf HZr
          go_wp2_with (first | (go_at_call_of 134 (Value.int IntKind.i64 (j : Int)); refine (refDigits_any s _ _ hs hj).mono ?_; rintro e w' ⟨rfl, rfl⟩; rw [← HWE.out, ← HWD.out, ← HLf.out, ← HZr.out]))
          refine bodyPost_ret (v := .agg #[.bool false, .bool false, .int .i64 0, .int .i64 0, .int .i64 0, .int .u8 0]) (by simp [results, Tryz.results71, go_sem]) rfl ⟨rfl, ?_⟩
          repeat (first | exact Below.refl _ _ | refine Below.drew ?_ | refine Below.alloc ?_ (by simp <;> omega) _)
        · go_wp2
          go_roundw
          case rel => exact ⟨j + 1, by omega, by omega, by go_num, by rw [H5.out, H8.out, hx45, hx48, Bool.or_false, Bool.or_true], by rw [runTo_step HG.out (by rw [HF.out, hx45, hx48]; rfl)]; exact HR.out⟩
          case measure => simp [intOf]; omega
      · have hx48 : ((s[j].toNat : Int) == 48) = false := by
          rw [beq_iff_eq] at hx45; rw [beq_eq_false_iff_ne]; omega
        go_wp2
        go_roundw
        case rel => exact ⟨j + 1, by omega, by omega, by go_num, by rw [H5.out, H8.out, hx45, hx48, Bool.or_false, Bool.or_true], by rw [runTo_step HG.out (by rw [HF.out, hx45]; rfl)]; exact HR.out⟩
        case measure => simp [intOf]; omega
    · have HE : Hid (fE s.data.toList (i + 1) = j) := by
        show fE s.data.toList (i + 1) = j
        rw [← HR.out, runTo_stop (fun c hc => ?_)]
        rw [get_none s j (by omega)] at hc; cases hc
      have h9 := HWE.out
      rw [HE.out] at h9
      omega

set_option maxHeartbeats 2000000 in
theorem refItem_dot_end (s : ByteArray) (i : Nat) (w : World) (hs : s.size ≤ 65536) (hk : i + 1 ≤ s.size) (hd : itDot s.data.toList (i + 1) = true) (hp : pE s.data.toList (i + 1) = s.size) :
    Calls Tryz.prog 71 #[.string s, .int .i64 i] w fun e w' => e = .returned (.agg #[.bool false, .bool false, .int .i64 0, .int .i64 0, .int .i64 0, .int .u8 0]) ∧ Below w.heap.size w w' := by
  have HWE : Hid (wE s.data.toList (i + 1) = fE s.data.toList (i + 1) + d2m s.data.toList (fE s.data.toList (i + 1))) := rfl
  have HWD : Hid (itWidth s.data.toList (i + 1) = numN s.data.toList (fE s.data.toList (i + 1)) (d2m s.data.toList (fE s.data.toList (i + 1)))) := rfl
  have HLf : Hid (itLeft s.data.toList (i + 1) = hasIn 45 s.data.toList (i + 1) (fE s.data.toList (i + 1))) := rfl
  have HZr : Hid (itZero s.data.toList (i + 1) = hasIn 48 s.data.toList (i + 1) (fE s.data.toList (i + 1))) := rfl
  have hw46 : wE s.data.toList (i + 1) < s.size := by rw [← len_eq]; exact isAt_ltB hd
  have h46 : ((s[wE s.data.toList (i + 1)].toNat : Int) == 46) = true := by rw [← isAt_lt s _ 46 hw46]; exact hd
  have HP := hide (pE_dot hd)
  have HPr := hide (itPrec_dot hd)
  rw [hp] at HP
  clear hd
  clear hp
  generalize wE s.data.toList (i + 1) = wp at *
  have hfi : i + 1 ≤ fE s.data.toList (i + 1) := runTo_ge _ _ _
  go_enter Tryz.func71, Tryz.ntmps71
  go_wp2
  go_loopw [1] (fun t wr => ∃ j : Nat, i + 1 ≤ j ∧ j ≤ s.size ∧ t = .int .i64 j ∧ wr = (w.alloc (.cells #[.bool false, .bool false, .int .i64 0, .int .i64 0, .int .i64 0, .int .u8 0] 175)).alloc (.cells #[.bool (hasIn 45 s.data.toList (i + 1) j), .bool (hasIn 48 s.data.toList (i + 1) j), .int .i64 0, .int .i64 (-1), .int .i64 0, .int .u8 0] 175) ∧ runTo flagB s.data.toList j = fE s.data.toList (i + 1)) (fun t _ => s.size - (intOf t).toNat)
  case atStart => exact ⟨i + 1, by omega, hk, by go_num, by rw [hasIn_self, hasIn_self], rfl⟩
  case round =>
    obtain ⟨j, hj0, hj, rfl, rfl, hr⟩ := hrel
    have HR : Hid (runTo flagB s.data.toList j = fE s.data.toList (i + 1)) := hr
    clear hr
    by_cases hl : j < s.size
    · have HG : Hid (s.data.toList[j]? = some s[j]) := get_of_lt s j hl
      have HF := hide (flagB_eq s[j])
      have H5 := hide (hasIn_step 45 HG.out hj0)
      have H8 := hide (hasIn_step 48 HG.out hj0)
      cases hx45 : ((s[j].toNat : Int) == 45)
      · cases hx48 : ((s[j].toNat : Int) == 48)
        · have HE : Hid (fE s.data.toList (i + 1) = j) := by
            show fE s.data.toList (i + 1) = j
            rw [← HR.out, runTo_stop (fun c hc => ?_)]
            rw [HG.out] at hc; cases hc; rw [HF.out, hx45, hx48]; rfl
          rw [HE.out] at HWE HWD HLf HZr
          go_wp2_with (first | (go_at_call_of 134 (Value.int IntKind.i64 (j : Int)); refine (refDigits_any s _ _ hs hj).mono ?_; rintro e w' ⟨rfl, rfl⟩; rw [← HWE.out, ← HWD.out, ← HLf.out, ← HZr.out]) | (go_at_call 134; rw [show ((wp : Int) + 1) = ((wp + 1 : Nat) : Int) by omega]; refine (refDigits_any s _ _ hs (by omega)).mono ?_; rintro e w' ⟨rfl, rfl⟩; rw [← HP.out, ← HPr.out]))
          refine bodyPost_ret (v := .agg #[.bool false, .bool false, .int .i64 0, .int .i64 0, .int .i64 0, .int .u8 0]) (by simp [results, Tryz.results71, go_sem]) rfl ⟨rfl, ?_⟩
          repeat (first | exact Below.refl _ _ | refine Below.drew ?_ | refine Below.alloc ?_ (by simp <;> omega) _)
        · go_wp2
          go_roundw
          case rel => exact ⟨j + 1, by omega, by omega, by go_num, by rw [H5.out, H8.out, hx45, hx48, Bool.or_false, Bool.or_true], by rw [runTo_step HG.out (by rw [HF.out, hx45, hx48]; rfl)]; exact HR.out⟩
          case measure => simp [intOf]; omega
      · have hx48 : ((s[j].toNat : Int) == 48) = false := by
          rw [beq_iff_eq] at hx45; rw [beq_eq_false_iff_ne]; omega
        go_wp2
        go_roundw
        case rel => exact ⟨j + 1, by omega, by omega, by go_num, by rw [H5.out, H8.out, hx45, hx48, Bool.or_false, Bool.or_true], by rw [runTo_step HG.out (by rw [HF.out, hx45]; rfl)]; exact HR.out⟩
        case measure => simp [intOf]; omega
    · have HE : Hid (fE s.data.toList (i + 1) = j) := by
        show fE s.data.toList (i + 1) = j
        rw [← HR.out, runTo_stop (fun c hc => ?_)]
        rw [get_none s j (by omega)] at hc; cases hc
      have h9 := HWE.out
      rw [HE.out] at h9
      omega

set_option maxHeartbeats 2000000 in
theorem refItem_dot_s (s : ByteArray) (i : Nat) (w : World) (hs : s.size ≤ 65536) (hk : i + 1 ≤ s.size) (hd : itDot s.data.toList (i + 1) = true) (hp : pE s.data.toList (i + 1) < s.size) (h37 : (((itLetter s.data.toList (i + 1)).toNat : Int) == 37) = false) (h115 : (((itLetter s.data.toList (i + 1)).toNat : Int) == 115) = true) :
    Calls Tryz.prog 71 #[.string s, .int .i64 i] w fun e w' => e = .returned (.agg #[.bool (itLeft s.data.toList (i + 1)), .bool (itZero s.data.toList (i + 1)), .int .i64 (itWidth s.data.toList (i + 1)), .int .i64 (itPrec s.data.toList (i + 1)), .int .i64 (pE s.data.toList (i + 1) + 1 - i), .int .u8 (itLetter s.data.toList (i + 1)).toNat]) ∧ Below w.heap.size w w' := by
  have HWE : Hid (wE s.data.toList (i + 1) = fE s.data.toList (i + 1) + d2m s.data.toList (fE s.data.toList (i + 1))) := rfl
  have HWD : Hid (itWidth s.data.toList (i + 1) = numN s.data.toList (fE s.data.toList (i + 1)) (d2m s.data.toList (fE s.data.toList (i + 1)))) := rfl
  have HLf : Hid (itLeft s.data.toList (i + 1) = hasIn 45 s.data.toList (i + 1) (fE s.data.toList (i + 1))) := rfl
  have HZr : Hid (itZero s.data.toList (i + 1) = hasIn 48 s.data.toList (i + 1) (fE s.data.toList (i + 1))) := rfl
  have hw46 : wE s.data.toList (i + 1) < s.size := by rw [← len_eq]; exact isAt_ltB hd
  have h46 : ((s[wE s.data.toList (i + 1)].toNat : Int) == 46) = true := by rw [← isAt_lt s _ 46 hw46]; exact hd
  have HP := hide (pE_dot hd)
  have HPr := hide (itPrec_dot hd)
  have HL := hide (itLetter_lt s (i + 1) _ rfl hp)
  rw [HL.out] at h37 h115
  rw [HL.out]
  clear HL
  clear hd
  generalize pE s.data.toList (i + 1) = pp at *
  generalize wE s.data.toList (i + 1) = wp at *
  have hge : ¬ ((s.size : Int) ≤ pp) := by omega
  have hfi : i + 1 ≤ fE s.data.toList (i + 1) := runTo_ge _ _ _
  go_enter Tryz.func71, Tryz.ntmps71
  go_wp2
  go_loopw [1] (fun t wr => ∃ j : Nat, i + 1 ≤ j ∧ j ≤ s.size ∧ t = .int .i64 j ∧ wr = (w.alloc (.cells #[.bool false, .bool false, .int .i64 0, .int .i64 0, .int .i64 0, .int .u8 0] 175)).alloc (.cells #[.bool (hasIn 45 s.data.toList (i + 1) j), .bool (hasIn 48 s.data.toList (i + 1) j), .int .i64 0, .int .i64 (-1), .int .i64 0, .int .u8 0] 175) ∧ runTo flagB s.data.toList j = fE s.data.toList (i + 1)) (fun t _ => s.size - (intOf t).toNat)
  case atStart => exact ⟨i + 1, by omega, hk, by go_num, by rw [hasIn_self, hasIn_self], rfl⟩
  case round =>
    obtain ⟨j, hj0, hj, rfl, rfl, hr⟩ := hrel
    have HR : Hid (runTo flagB s.data.toList j = fE s.data.toList (i + 1)) := hr
    clear hr
    by_cases hl : j < s.size
    · have HG : Hid (s.data.toList[j]? = some s[j]) := get_of_lt s j hl
      have HF := hide (flagB_eq s[j])
      have H5 := hide (hasIn_step 45 HG.out hj0)
      have H8 := hide (hasIn_step 48 HG.out hj0)
      cases hx45 : ((s[j].toNat : Int) == 45)
      · cases hx48 : ((s[j].toNat : Int) == 48)
        · have HE : Hid (fE s.data.toList (i + 1) = j) := by
            show fE s.data.toList (i + 1) = j
            rw [← HR.out, runTo_stop (fun c hc => ?_)]
            rw [HG.out] at hc; cases hc; rw [HF.out, hx45, hx48]; rfl
          rw [HE.out] at HWE HWD HLf HZr
          go_wp2_with (first | (go_at_call_of 134 (Value.int IntKind.i64 (j : Int)); refine (refDigits_any s _ _ hs hj).mono ?_; rintro e w' ⟨rfl, rfl⟩; rw [← HWE.out, ← HWD.out, ← HLf.out, ← HZr.out]) | (go_at_call 134; rw [show ((wp : Int) + 1) = ((wp + 1 : Nat) : Int) by omega]; refine (refDigits_any s _ _ hs (by omega)).mono ?_; rintro e w' ⟨rfl, rfl⟩; rw [← HP.out, ← HPr.out]))
          refine bodyPost_ret (v := .agg #[.bool (itLeft s.data.toList (i + 1)), .bool (itZero s.data.toList (i + 1)), .int .i64 (itWidth s.data.toList (i + 1)), .int .i64 (itPrec s.data.toList (i + 1)), .int .i64 (pp + 1 - i), .int .u8 s[pp].toNat]) (by simp [results, Tryz.results71, go_sem]) rfl ⟨rfl, ?_⟩
          repeat (first | exact Below.refl _ _ | refine Below.drew ?_ | refine Below.alloc ?_ (by simp <;> omega) _)
        · go_wp2
          go_roundw
          case rel => exact ⟨j + 1, by omega, by omega, by go_num, by rw [H5.out, H8.out, hx45, hx48, Bool.or_false, Bool.or_true], by rw [runTo_step HG.out (by rw [HF.out, hx45, hx48]; rfl)]; exact HR.out⟩
          case measure => simp [intOf]; omega
      · have hx48 : ((s[j].toNat : Int) == 48) = false := by
          rw [beq_iff_eq] at hx45; rw [beq_eq_false_iff_ne]; omega
        go_wp2
        go_roundw
        case rel => exact ⟨j + 1, by omega, by omega, by go_num, by rw [H5.out, H8.out, hx45, hx48, Bool.or_false, Bool.or_true], by rw [runTo_step HG.out (by rw [HF.out, hx45]; rfl)]; exact HR.out⟩
        case measure => simp [intOf]; omega
    · have HE : Hid (fE s.data.toList (i + 1) = j) := by
        show fE s.data.toList (i + 1) = j
        rw [← HR.out, runTo_stop (fun c hc => ?_)]
        rw [get_none s j (by omega)] at hc; cases hc
      have h9 := HWE.out
      rw [HE.out] at h9
      omega

set_option maxHeartbeats 2000000 in
theorem refItem_dot_no37 (s : ByteArray) (i : Nat) (w : World) (hs : s.size ≤ 65536) (hk : i + 1 ≤ s.size) (hd : itDot s.data.toList (i + 1) = true) (hp : pE s.data.toList (i + 1) < s.size) (h37 : (((itLetter s.data.toList (i + 1)).toNat : Int) == 37) = true) (hlen : pE s.data.toList (i + 1) ≠ i + 1) (h115 : (((itLetter s.data.toList (i + 1)).toNat : Int) == 115) = false) :
    Calls Tryz.prog 71 #[.string s, .int .i64 i] w fun e w' => e = .returned (.agg #[.bool false, .bool false, .int .i64 0, .int .i64 0, .int .i64 0, .int .u8 0]) ∧ Below w.heap.size w w' := by
  have HWE : Hid (wE s.data.toList (i + 1) = fE s.data.toList (i + 1) + d2m s.data.toList (fE s.data.toList (i + 1))) := rfl
  have HWD : Hid (itWidth s.data.toList (i + 1) = numN s.data.toList (fE s.data.toList (i + 1)) (d2m s.data.toList (fE s.data.toList (i + 1)))) := rfl
  have HLf : Hid (itLeft s.data.toList (i + 1) = hasIn 45 s.data.toList (i + 1) (fE s.data.toList (i + 1))) := rfl
  have HZr : Hid (itZero s.data.toList (i + 1) = hasIn 48 s.data.toList (i + 1) (fE s.data.toList (i + 1))) := rfl
  have hw46 : wE s.data.toList (i + 1) < s.size := by rw [← len_eq]; exact isAt_ltB hd
  have h46 : ((s[wE s.data.toList (i + 1)].toNat : Int) == 46) = true := by rw [← isAt_lt s _ 46 hw46]; exact hd
  have HP := hide (pE_dot hd)
  have HPr := hide (itPrec_dot hd)
  have HL := hide (itLetter_lt s (i + 1) _ rfl hp)
  rw [HL.out] at h37 h115
  clear HL
  clear hd
  generalize pE s.data.toList (i + 1) = pp at *
  generalize wE s.data.toList (i + 1) = wp at *
  have hge : ¬ ((s.size : Int) ≤ pp) := by omega
  have hl2 : ((pp : Int) + 1 - i == 2) = false := by rw [beq_eq_false_iff_ne]; omega
  clear hlen
  have hfi : i + 1 ≤ fE s.data.toList (i + 1) := runTo_ge _ _ _
  go_enter Tryz.func71, Tryz.ntmps71
  go_wp2
  go_loopw [1] (fun t wr => ∃ j : Nat, i + 1 ≤ j ∧ j ≤ s.size ∧ t = .int .i64 j ∧ wr = (w.alloc (.cells #[.bool false, .bool false, .int .i64 0, .int .i64 0, .int .i64 0, .int .u8 0] 175)).alloc (.cells #[.bool (hasIn 45 s.data.toList (i + 1) j), .bool (hasIn 48 s.data.toList (i + 1) j), .int .i64 0, .int .i64 (-1), .int .i64 0, .int .u8 0] 175) ∧ runTo flagB s.data.toList j = fE s.data.toList (i + 1)) (fun t _ => s.size - (intOf t).toNat)
  case atStart => exact ⟨i + 1, by omega, hk, by go_num, by rw [hasIn_self, hasIn_self], rfl⟩
  case round =>
    obtain ⟨j, hj0, hj, rfl, rfl, hr⟩ := hrel
    have HR : Hid (runTo flagB s.data.toList j = fE s.data.toList (i + 1)) := hr
    clear hr
    by_cases hl : j < s.size
    · have HG : Hid (s.data.toList[j]? = some s[j]) := get_of_lt s j hl
      have HF := hide (flagB_eq s[j])
      have H5 := hide (hasIn_step 45 HG.out hj0)
      have H8 := hide (hasIn_step 48 HG.out hj0)
      cases hx45 : ((s[j].toNat : Int) == 45)
      · cases hx48 : ((s[j].toNat : Int) == 48)
        · have HE : Hid (fE s.data.toList (i + 1) = j) := by
            show fE s.data.toList (i + 1) = j
            rw [← HR.out, runTo_stop (fun c hc => ?_)]
            rw [HG.out] at hc; cases hc; rw [HF.out, hx45, hx48]; rfl
          rw [HE.out] at HWE HWD HLf HZr
          go_wp2_with (first | (go_at_call_of 134 (Value.int IntKind.i64 (j : Int)); refine (refDigits_any s _ _ hs hj).mono ?_; rintro e w' ⟨rfl, rfl⟩; rw [← HWE.out, ← HWD.out, ← HLf.out, ← HZr.out]) | (go_at_call 134; rw [show ((wp : Int) + 1) = ((wp + 1 : Nat) : Int) by omega]; refine (refDigits_any s _ _ hs (by omega)).mono ?_; rintro e w' ⟨rfl, rfl⟩; rw [← HP.out, ← HPr.out]))
          refine bodyPost_ret (v := .agg #[.bool false, .bool false, .int .i64 0, .int .i64 0, .int .i64 0, .int .u8 0]) (by simp [results, Tryz.results71, go_sem]) rfl ⟨rfl, ?_⟩
          repeat (first | exact Below.refl _ _ | refine Below.drew ?_ | refine Below.alloc ?_ (by simp <;> omega) _)
        · go_wp2
          go_roundw
          case rel => exact ⟨j + 1, by omega, by omega, by go_num, by rw [H5.out, H8.out, hx45, hx48, Bool.or_false, Bool.or_true], by rw [runTo_step HG.out (by rw [HF.out, hx45, hx48]; rfl)]; exact HR.out⟩
          case measure => simp [intOf]; omega
      · have hx48 : ((s[j].toNat : Int) == 48) = false := by
          rw [beq_iff_eq] at hx45; rw [beq_eq_false_iff_ne]; omega
        go_wp2
        go_roundw
        case rel => exact ⟨j + 1, by omega, by omega, by go_num, by rw [H5.out, H8.out, hx45, hx48, Bool.or_false, Bool.or_true], by rw [runTo_step HG.out (by rw [HF.out, hx45]; rfl)]; exact HR.out⟩
        case measure => simp [intOf]; omega
    · have HE : Hid (fE s.data.toList (i + 1) = j) := by
        show fE s.data.toList (i + 1) = j
        rw [← HR.out, runTo_stop (fun c hc => ?_)]
        rw [get_none s j (by omega)] at hc; cases hc
      have h9 := HWE.out
      rw [HE.out] at h9
      omega

set_option maxHeartbeats 2000000 in
theorem refItem_dot_no (s : ByteArray) (i : Nat) (w : World) (hs : s.size ≤ 65536) (hk : i + 1 ≤ s.size) (hd : itDot s.data.toList (i + 1) = true) (hp : pE s.data.toList (i + 1) < s.size) (h37 : (((itLetter s.data.toList (i + 1)).toNat : Int) == 37) = false) (h115 : (((itLetter s.data.toList (i + 1)).toNat : Int) == 115) = false) :
    Calls Tryz.prog 71 #[.string s, .int .i64 i] w fun e w' => e = .returned (.agg #[.bool false, .bool false, .int .i64 0, .int .i64 0, .int .i64 0, .int .u8 0]) ∧ Below w.heap.size w w' := by
  have HWE : Hid (wE s.data.toList (i + 1) = fE s.data.toList (i + 1) + d2m s.data.toList (fE s.data.toList (i + 1))) := rfl
  have HWD : Hid (itWidth s.data.toList (i + 1) = numN s.data.toList (fE s.data.toList (i + 1)) (d2m s.data.toList (fE s.data.toList (i + 1)))) := rfl
  have HLf : Hid (itLeft s.data.toList (i + 1) = hasIn 45 s.data.toList (i + 1) (fE s.data.toList (i + 1))) := rfl
  have HZr : Hid (itZero s.data.toList (i + 1) = hasIn 48 s.data.toList (i + 1) (fE s.data.toList (i + 1))) := rfl
  have hw46 : wE s.data.toList (i + 1) < s.size := by rw [← len_eq]; exact isAt_ltB hd
  have h46 : ((s[wE s.data.toList (i + 1)].toNat : Int) == 46) = true := by rw [← isAt_lt s _ 46 hw46]; exact hd
  have HP := hide (pE_dot hd)
  have HPr := hide (itPrec_dot hd)
  have HL := hide (itLetter_lt s (i + 1) _ rfl hp)
  rw [HL.out] at h37 h115
  clear HL
  clear hd
  generalize pE s.data.toList (i + 1) = pp at *
  generalize wE s.data.toList (i + 1) = wp at *
  have hge : ¬ ((s.size : Int) ≤ pp) := by omega
  have hfi : i + 1 ≤ fE s.data.toList (i + 1) := runTo_ge _ _ _
  go_enter Tryz.func71, Tryz.ntmps71
  go_wp2
  go_loopw [1] (fun t wr => ∃ j : Nat, i + 1 ≤ j ∧ j ≤ s.size ∧ t = .int .i64 j ∧ wr = (w.alloc (.cells #[.bool false, .bool false, .int .i64 0, .int .i64 0, .int .i64 0, .int .u8 0] 175)).alloc (.cells #[.bool (hasIn 45 s.data.toList (i + 1) j), .bool (hasIn 48 s.data.toList (i + 1) j), .int .i64 0, .int .i64 (-1), .int .i64 0, .int .u8 0] 175) ∧ runTo flagB s.data.toList j = fE s.data.toList (i + 1)) (fun t _ => s.size - (intOf t).toNat)
  case atStart => exact ⟨i + 1, by omega, hk, by go_num, by rw [hasIn_self, hasIn_self], rfl⟩
  case round =>
    obtain ⟨j, hj0, hj, rfl, rfl, hr⟩ := hrel
    have HR : Hid (runTo flagB s.data.toList j = fE s.data.toList (i + 1)) := hr
    clear hr
    by_cases hl : j < s.size
    · have HG : Hid (s.data.toList[j]? = some s[j]) := get_of_lt s j hl
      have HF := hide (flagB_eq s[j])
      have H5 := hide (hasIn_step 45 HG.out hj0)
      have H8 := hide (hasIn_step 48 HG.out hj0)
      cases hx45 : ((s[j].toNat : Int) == 45)
      · cases hx48 : ((s[j].toNat : Int) == 48)
        · have HE : Hid (fE s.data.toList (i + 1) = j) := by
            show fE s.data.toList (i + 1) = j
            rw [← HR.out, runTo_stop (fun c hc => ?_)]
            rw [HG.out] at hc; cases hc; rw [HF.out, hx45, hx48]; rfl
          rw [HE.out] at HWE HWD HLf HZr
          go_wp2_with (first | (go_at_call_of 134 (Value.int IntKind.i64 (j : Int)); refine (refDigits_any s _ _ hs hj).mono ?_; rintro e w' ⟨rfl, rfl⟩; rw [← HWE.out, ← HWD.out, ← HLf.out, ← HZr.out]) | (go_at_call 134; rw [show ((wp : Int) + 1) = ((wp + 1 : Nat) : Int) by omega]; refine (refDigits_any s _ _ hs (by omega)).mono ?_; rintro e w' ⟨rfl, rfl⟩; rw [← HP.out, ← HPr.out]))
          refine bodyPost_ret (v := .agg #[.bool false, .bool false, .int .i64 0, .int .i64 0, .int .i64 0, .int .u8 0]) (by simp [results, Tryz.results71, go_sem]) rfl ⟨rfl, ?_⟩
          repeat (first | exact Below.refl _ _ | refine Below.drew ?_ | refine Below.alloc ?_ (by simp <;> omega) _)
        · go_wp2
          go_roundw
          case rel => exact ⟨j + 1, by omega, by omega, by go_num, by rw [H5.out, H8.out, hx45, hx48, Bool.or_false, Bool.or_true], by rw [runTo_step HG.out (by rw [HF.out, hx45, hx48]; rfl)]; exact HR.out⟩
          case measure => simp [intOf]; omega
      · have hx48 : ((s[j].toNat : Int) == 48) = false := by
          rw [beq_iff_eq] at hx45; rw [beq_eq_false_iff_ne]; omega
        go_wp2
        go_roundw
        case rel => exact ⟨j + 1, by omega, by omega, by go_num, by rw [H5.out, H8.out, hx45, hx48, Bool.or_false, Bool.or_true], by rw [runTo_step HG.out (by rw [HF.out, hx45]; rfl)]; exact HR.out⟩
        case measure => simp [intOf]; omega
    · have HE : Hid (fE s.data.toList (i + 1) = j) := by
        show fE s.data.toList (i + 1) = j
        rw [← HR.out, runTo_stop (fun c hc => ?_)]
        rw [get_none s j (by omega)] at hc; cases hc
      have h9 := HWE.out
      rw [HE.out] at h9
      omega
end Go.Proofs.YthhiofppbpgipaaGreatDoor
