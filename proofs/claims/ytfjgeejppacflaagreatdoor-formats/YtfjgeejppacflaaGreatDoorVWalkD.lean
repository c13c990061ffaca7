import Derived.Test.YtfjgeejppacflaaGreatDoorVWalkC
namespace Go.Proofs.YtfjgeejppacflaaGreatDoor
open Go.RowKit

theorem ret2_int {a a' b b' : Int} (h1 : a = a') (h2 : b = b') : Ending.returned (.tuple #[.int .i64 a, .int .i64 b]) = .returned (.tuple #[.int .i64 a', .int .i64 b']) := by rw [h1, h2]
set_option maxHeartbeats 400000 in
theorem refDigit_any (c : UInt8) (w : World) :
    Calls Tryz.prog 120 #[.int .u8 c.toNat] w fun e w' => e = .returned (.bool (digB c)) ∧ w' = w := by
  have HD : Hid (digB c = (decide (48 ≤ (c.toNat : Int)) && decide ((c.toNat : Int) ≤ 57))) := by
    show digB c = (decide (48 ≤ (c.toNat : Int)) && decide ((c.toNat : Int) ≤ 57))
    rw [Bool.eq_iff_iff, digB_iff]; simp
  go_enter Tryz.func120, Tryz.ntmps120
  go_wp2
  all_goals
    go_ret
    exact ⟨ret_bool (by rw [HD.out] <;> simp [*] <;> omega), rfl⟩

set_option maxHeartbeats 1000000 in
theorem spelled_minus (s : ByteArray) (w : World) (hs : s.size ≤ maxLen) (a : Nat) (HA : Hid (a = runTo blankB s.data.toList 0)) (ha2 : a ≤ s.size)
    (hlt : a < s.size) (h45 : ((s[a].toNat : Int) == 45) = true) :
    Calls Tryz.prog 67 #[.string s] w fun e w' => e = .returned (.tuple #[.int .i64 (leadNum s.data.toList), .int .i64 (spEnd s.data.toList)]) ∧ w' = w := by
  unfold maxLen at hs
  have HF : Hid (leadFirst s.data.toList = a + 1) := by
    show leadFirst s.data.toList = a + 1
    unfold leadFirst; rw [← HA.out, isAt_lt s a _ hlt, h45]; rfl
  have HM : Hid (isAt s.data.toList (runTo blankB s.data.toList 0) 45 = true) := by
    show isAt s.data.toList (runTo blankB s.data.toList 0) 45 = true
    rw [← HA.out, isAt_lt s a _ hlt, h45]
  go_enter Tryz.func67, Tryz.ntmps67
  go_wp2
  go_loop [4] (fun i => ∃ q : Nat, q ≤ a ∧ i = .int .i64 q ∧ runTo blankB s.data.toList q = a) (fun i => s.size - (intOf i).toNat)
  case atStart => exact ⟨0, by omega, rfl, HA.out.symm⟩
  case round =>
    obtain ⟨q, hq, rfl, hr⟩ := hrel
    have HR : Hid (runTo blankB s.data.toList q = a) := hr
    clear hr
    by_cases hl : q < s.size
    · have HG : Hid (s.data.toList[q]? = some s[q]) := get_of_lt s q hl
      cases hb : blankB s[q]
      · have hja : q = a := by
          rw [← HR.out, runTo_stop (fun c hc => ?_)]
          rw [HG.out] at hc; cases hc; exact hb
        subst hja
        have HB : Hid (blankB s[q] = false) := hb
        clear hb
        go_wp2_with (go_at_call 68; refine (refBlank_any _ _).mono ?_; rintro e w' ⟨rfl, rfl⟩; rw [HB.out])
        go_wp2
        go_loop [4, 7] (fun i n => ∃ j : Nat, q + 1 ≤ j ∧ j ≤ s.size ∧ i = .int .i64 j ∧ n = .int .i64 (numTo s.data.toList (q + 1) j) ∧ runTo digB s.data.toList j = runTo digB s.data.toList (q + 1)) (fun i _ => s.size - (intOf i).toNat)
        case atStart => exact ⟨q + 1, by omega, by omega, by go_num, by rw [numTo_self], rfl⟩
        case round =>
          obtain ⟨j, hj0, hj, rfl, rfl, hr⟩ := hrel
          have HR : Hid (runTo digB s.data.toList j = runTo digB s.data.toList (q + 1)) := hr
          clear hr
          by_cases hl : j < s.size
          · have HG : Hid (s.data.toList[j]? = some s[j]) := get_of_lt s j hl
            cases hd : digB s[j]
            · have HD : Hid (digB s[j] = false) := hd
              clear hd
              have HE : Hid (leadEnd s.data.toList = j) := by
                show leadEnd s.data.toList = j
                unfold leadEnd; rw [HF.out, ← HR.out, runTo_stop (fun c hc => ?_)]
                rw [HG.out] at hc; cases hc; exact HD.out
              by_cases hjf : j = q + 1
              · have hjf' : ((j : Int) == (q + 1)) = true := by rw [beq_iff_eq]; omega
                have HO : Hid (leadOk s.data.toList = false) := by show leadOk s.data.toList = false; unfold leadOk; rw [HE.out, HF.out]; simp; omega
                clear hjf
                go_wp2_with (go_at_call 120; refine (refDigit_any _ _).mono ?_; rintro e w' ⟨rfl, rfl⟩; rw [HD.out])
                go_ret2
                exact ⟨ret2_int (leadNum_no HO.out).symm (by rw [spEnd_no HO.out]; rfl), rfl⟩
              · have hjf' : ((j : Int) == (q + 1)) = false := by rw [beq_eq_false_iff_ne]; omega
                have HO : Hid (leadOk s.data.toList = true) := by show leadOk s.data.toList = true; unfold leadOk; rw [HE.out, HF.out]; simp; omega
                clear hjf
                go_wp2_with (go_at_call 120; refine (refDigit_any _ _).mono ?_; rintro e w' ⟨rfl, rfl⟩; rw [HD.out])
                go_ret2
                refine ⟨ret2_int ?_ (by rw [spEnd_yes HO.out, HE.out]), rfl⟩
                unfold leadNum; rw [HM.out]; simp only [if_true]; rw [HE.out]; rw [HF.out]
            · have HD : Hid (digB s[j] = true) := hd
              obtain ⟨hd1, hd2⟩ := (digB_iff _).1 hd
              clear hd
              have HS : Hid (numTo s.data.toList (q + 1) (j + 1) = accD (numTo s.data.toList (q + 1) j) s[j]) := numTo_step HG.out hj0
              generalize numTo s.data.toList (q + 1) j = n at *
              go_wp2_with (go_at_call 120; refine (refDigit_any _ _).mono ?_; rintro e w' ⟨rfl, rfl⟩; rw [HD.out])
              go_round
              case rel => exact ⟨j + 1, by omega, by omega, by go_num, by rw [HS.out]; rfl, by rw [runTo_step HG.out HD.out]; exact HR.out⟩
              case measure => simp [intOf]; omega
          · have HE : Hid (leadEnd s.data.toList = j) := by
              show leadEnd s.data.toList = j
              unfold leadEnd; rw [HF.out, ← HR.out, runTo_stop (fun c hc => ?_)]
              rw [get_none s j (by omega)] at hc; cases hc
            by_cases hjf : j = q + 1
            · have hjf' : ((j : Int) == (q + 1)) = true := by rw [beq_iff_eq]; omega
              have HO : Hid (leadOk s.data.toList = false) := by show leadOk s.data.toList = false; unfold leadOk; rw [HE.out, HF.out]; simp; omega
              clear hjf
              go_wp2
              go_ret2
              exact ⟨ret2_int (leadNum_no HO.out).symm (by rw [spEnd_no HO.out]; rfl), rfl⟩
            · have hjf' : ((j : Int) == (q + 1)) = false := by rw [beq_eq_false_iff_ne]; omega
              have HO : Hid (leadOk s.data.toList = true) := by show leadOk s.data.toList = true; unfold leadOk; rw [HE.out, HF.out]; simp; omega
              clear hjf
              go_wp2
              go_ret2
              refine ⟨ret2_int ?_ (by rw [spEnd_yes HO.out, HE.out]), rfl⟩
              unfold leadNum; rw [HM.out]; simp only [if_true]; rw [HE.out]; rw [HF.out]

      · have HB : Hid (blankB s[q] = true) := hb
        clear hb
        have hj1 : q + 1 ≤ a := by rw [← HR.out, ← runTo_step HG.out HB.out]; exact runTo_ge _ _ _
        go_wp2_with (go_at_call 68; refine (refBlank_any _ _).mono ?_; rintro e w' ⟨rfl, rfl⟩; rw [HB.out])
        go_round
        case rel => exact ⟨q + 1, hj1, by go_num, by rw [runTo_step HG.out HB.out]; exact HR.out⟩
        case measure => simp [intOf]; omega
    · have hja : q = a := by
        rw [← HR.out, runTo_stop (fun c hc => ?_)]
        rw [get_none s q (by omega)] at hc; cases hc
      subst hja
      exfalso; omega

set_option maxHeartbeats 1000000 in
theorem spelled_plus (s : ByteArray) (w : World) (hs : s.size ≤ maxLen) (a : Nat) (HA : Hid (a = runTo blankB s.data.toList 0)) (ha2 : a ≤ s.size)
    (hlt : a < s.size) (h45 : ((s[a].toNat : Int) == 45) = false) (h43 : ((s[a].toNat : Int) == 43) = true) :
    Calls Tryz.prog 67 #[.string s] w fun e w' => e = .returned (.tuple #[.int .i64 (leadNum s.data.toList), .int .i64 (spEnd s.data.toList)]) ∧ w' = w := by
  unfold maxLen at hs
  have HF : Hid (leadFirst s.data.toList = a + 1) := by
    show leadFirst s.data.toList = a + 1
    unfold leadFirst; rw [← HA.out, isAt_lt s a _ hlt, isAt_lt s a _ hlt, h45, h43]; rfl
  have HM : Hid (isAt s.data.toList (runTo blankB s.data.toList 0) 45 = false) := by
    show isAt s.data.toList (runTo blankB s.data.toList 0) 45 = false
    rw [← HA.out, isAt_lt s a _ hlt, h45]
  go_enter Tryz.func67, Tryz.ntmps67
  go_wp2
  go_loop [4] (fun i => ∃ q : Nat, q ≤ a ∧ i = .int .i64 q ∧ runTo blankB s.data.toList q = a) (fun i => s.size - (intOf i).toNat)
  case atStart => exact ⟨0, by omega, rfl, HA.out.symm⟩
  case round =>
    obtain ⟨q, hq, rfl, hr⟩ := hrel
    have HR : Hid (runTo blankB s.data.toList q = a) := hr
    clear hr
    by_cases hl : q < s.size
    · have HG : Hid (s.data.toList[q]? = some s[q]) := get_of_lt s q hl
      cases hb : blankB s[q]
      · have hja : q = a := by
          rw [← HR.out, runTo_stop (fun c hc => ?_)]
          rw [HG.out] at hc; cases hc; exact hb
        subst hja
        have HB : Hid (blankB s[q] = false) := hb
        clear hb
        go_wp2_with (go_at_call 68; refine (refBlank_any _ _).mono ?_; rintro e w' ⟨rfl, rfl⟩; rw [HB.out])
        go_wp2
        go_loop [4, 7] (fun i n => ∃ j : Nat, q + 1 ≤ j ∧ j ≤ s.size ∧ i = .int .i64 j ∧ n = .int .i64 (numTo s.data.toList (q + 1) j) ∧ runTo digB s.data.toList j = runTo digB s.data.toList (q + 1)) (fun i _ => s.size - (intOf i).toNat)
        case atStart => exact ⟨q + 1, by omega, by omega, by go_num, by rw [numTo_self], rfl⟩
        case round =>
          obtain ⟨j, hj0, hj, rfl, rfl, hr⟩ := hrel
          have HR : Hid (runTo digB s.data.toList j = runTo digB s.data.toList (q + 1)) := hr
          clear hr
          by_cases hl : j < s.size
          · have HG : Hid (s.data.toList[j]? = some s[j]) := get_of_lt s j hl
            cases hd : digB s[j]
            · have HD : Hid (digB s[j] = false) := hd
              clear hd
              have HE : Hid (leadEnd s.data.toList = j) := by
                show leadEnd s.data.toList = j
                unfold leadEnd; rw [HF.out, ← HR.out, runTo_stop (fun c hc => ?_)]
                rw [HG.out] at hc; cases hc; exact HD.out
              by_cases hjf : j = q + 1
              · have hjf' : ((j : Int) == (q + 1)) = true := by rw [beq_iff_eq]; omega
                have HO : Hid (leadOk s.data.toList = false) := by show leadOk s.data.toList = false; unfold leadOk; rw [HE.out, HF.out]; simp; omega
                clear hjf
                go_wp2_with (go_at_call 120; refine (refDigit_any _ _).mono ?_; rintro e w' ⟨rfl, rfl⟩; rw [HD.out])
                go_ret2
                exact ⟨ret2_int (leadNum_no HO.out).symm (by rw [spEnd_no HO.out]; rfl), rfl⟩
              · have hjf' : ((j : Int) == (q + 1)) = false := by rw [beq_eq_false_iff_ne]; omega
                have HO : Hid (leadOk s.data.toList = true) := by show leadOk s.data.toList = true; unfold leadOk; rw [HE.out, HF.out]; simp; omega
                clear hjf
                go_wp2_with (go_at_call 120; refine (refDigit_any _ _).mono ?_; rintro e w' ⟨rfl, rfl⟩; rw [HD.out])
                go_ret2
                refine ⟨ret2_int ?_ (by rw [spEnd_yes HO.out, HE.out]), rfl⟩
                unfold leadNum; rw [HM.out]; simp only [Bool.false_eq_true, if_false]; rw [HE.out]; rw [HF.out]
            · have HD : Hid (digB s[j] = true) := hd
              obtain ⟨hd1, hd2⟩ := (digB_iff _).1 hd
              clear hd
              have HS : Hid (numTo s.data.toList (q + 1) (j + 1) = accD (numTo s.data.toList (q + 1) j) s[j]) := numTo_step HG.out hj0
              generalize numTo s.data.toList (q + 1) j = n at *
              go_wp2_with (go_at_call 120; refine (refDigit_any _ _).mono ?_; rintro e w' ⟨rfl, rfl⟩; rw [HD.out])
              go_round
              case rel => exact ⟨j + 1, by omega, by omega, by go_num, by rw [HS.out]; rfl, by rw [runTo_step HG.out HD.out]; exact HR.out⟩
              case measure => simp [intOf]; omega
          · have HE : Hid (leadEnd s.data.toList = j) := by
              show leadEnd s.data.toList = j
              unfold leadEnd; rw [HF.out, ← HR.out, runTo_stop (fun c hc => ?_)]
              rw [get_none s j (by omega)] at hc; cases hc
            by_cases hjf : j = q + 1
            · have hjf' : ((j : Int) == (q + 1)) = true := by rw [beq_iff_eq]; omega
              have HO : Hid (leadOk s.data.toList = false) := by show leadOk s.data.toList = false; unfold leadOk; rw [HE.out, HF.out]; simp; omega
              clear hjf
              go_wp2
              go_ret2
              exact ⟨ret2_int (leadNum_no HO.out).symm (by rw [spEnd_no HO.out]; rfl), rfl⟩
            · have hjf' : ((j : Int) == (q + 1)) = false := by rw [beq_eq_false_iff_ne]; omega
              have HO : Hid (leadOk s.data.toList = true) := by show leadOk s.data.toList = true; unfold leadOk; rw [HE.out, HF.out]; simp; omega
              clear hjf
              go_wp2
              go_ret2
              refine ⟨ret2_int ?_ (by rw [spEnd_yes HO.out, HE.out]), rfl⟩
              unfold leadNum; rw [HM.out]; simp only [Bool.false_eq_true, if_false]; rw [HE.out]; rw [HF.out]

      · have HB : Hid (blankB s[q] = true) := hb
        clear hb
        have hj1 : q + 1 ≤ a := by rw [← HR.out, ← runTo_step HG.out HB.out]; exact runTo_ge _ _ _
        go_wp2_with (go_at_call 68; refine (refBlank_any _ _).mono ?_; rintro e w' ⟨rfl, rfl⟩; rw [HB.out])
        go_round
        case rel => exact ⟨q + 1, hj1, by go_num, by rw [runTo_step HG.out HB.out]; exact HR.out⟩
        case measure => simp [intOf]; omega
    · have hja : q = a := by
        rw [← HR.out, runTo_stop (fun c hc => ?_)]
        rw [get_none s q (by omega)] at hc; cases hc
      subst hja
      exfalso; omega

set_option maxHeartbeats 1000000 in
theorem spelled_none (s : ByteArray) (w : World) (hs : s.size ≤ maxLen) (a : Nat) (HA : Hid (a = runTo blankB s.data.toList 0)) (ha2 : a ≤ s.size)
    (hlt : a < s.size) (h45 : ((s[a].toNat : Int) == 45) = false) (h43 : ((s[a].toNat : Int) == 43) = false) :
    Calls Tryz.prog 67 #[.string s] w fun e w' => e = .returned (.tuple #[.int .i64 (leadNum s.data.toList), .int .i64 (spEnd s.data.toList)]) ∧ w' = w := by
  unfold maxLen at hs
  have HF : Hid (leadFirst s.data.toList = a) := by
    show leadFirst s.data.toList = a
    unfold leadFirst; rw [← HA.out, isAt_lt s a _ hlt, isAt_lt s a _ hlt, h45, h43]; rfl
  have HM : Hid (isAt s.data.toList (runTo blankB s.data.toList 0) 45 = false) := by
    show isAt s.data.toList (runTo blankB s.data.toList 0) 45 = false
    rw [← HA.out, isAt_lt s a _ hlt, h45]
  go_enter Tryz.func67, Tryz.ntmps67
  go_wp2
  go_loop [4] (fun i => ∃ q : Nat, q ≤ a ∧ i = .int .i64 q ∧ runTo blankB s.data.toList q = a) (fun i => s.size - (intOf i).toNat)
  case atStart => exact ⟨0, by omega, rfl, HA.out.symm⟩
  case round =>
    obtain ⟨q, hq, rfl, hr⟩ := hrel
    have HR : Hid (runTo blankB s.data.toList q = a) := hr
    clear hr
    by_cases hl : q < s.size
    · have HG : Hid (s.data.toList[q]? = some s[q]) := get_of_lt s q hl
      cases hb : blankB s[q]
      · have hja : q = a := by
          rw [← HR.out, runTo_stop (fun c hc => ?_)]
          rw [HG.out] at hc; cases hc; exact hb
        subst hja
        have HB : Hid (blankB s[q] = false) := hb
        clear hb
        go_wp2_with (go_at_call 68; refine (refBlank_any _ _).mono ?_; rintro e w' ⟨rfl, rfl⟩; rw [HB.out])
        go_wp2
        go_loop [4, 7] (fun i n => ∃ j : Nat, q ≤ j ∧ j ≤ s.size ∧ i = .int .i64 j ∧ n = .int .i64 (numTo s.data.toList (q) j) ∧ runTo digB s.data.toList j = runTo digB s.data.toList (q)) (fun i _ => s.size - (intOf i).toNat)
        case atStart => exact ⟨q, by omega, by omega, by go_num, by rw [numTo_self], rfl⟩
        case round =>
          obtain ⟨j, hj0, hj, rfl, rfl, hr⟩ := hrel
          have HR : Hid (runTo digB s.data.toList j = runTo digB s.data.toList (q)) := hr
          clear hr
          by_cases hl : j < s.size
          · have HG : Hid (s.data.toList[j]? = some s[j]) := get_of_lt s j hl
            cases hd : digB s[j]
            · have HD : Hid (digB s[j] = false) := hd
              clear hd
              have HE : Hid (leadEnd s.data.toList = j) := by
                show leadEnd s.data.toList = j
                unfold leadEnd; rw [HF.out, ← HR.out, runTo_stop (fun c hc => ?_)]
                rw [HG.out] at hc; cases hc; exact HD.out
              by_cases hjf : j = q
              · have hjf' : ((j : Int) == (q)) = true := by rw [beq_iff_eq]; omega
                have HO : Hid (leadOk s.data.toList = false) := by show leadOk s.data.toList = false; unfold leadOk; rw [HE.out, HF.out]; simp; omega
                clear hjf
                go_wp2_with (go_at_call 120; refine (refDigit_any _ _).mono ?_; rintro e w' ⟨rfl, rfl⟩; rw [HD.out])
                go_ret2
                exact ⟨ret2_int (leadNum_no HO.out).symm (by rw [spEnd_no HO.out]; rfl), rfl⟩
              · have hjf' : ((j : Int) == (q)) = false := by rw [beq_eq_false_iff_ne]; omega
                have HO : Hid (leadOk s.data.toList = true) := by show leadOk s.data.toList = true; unfold leadOk; rw [HE.out, HF.out]; simp; omega
                clear hjf
                go_wp2_with (go_at_call 120; refine (refDigit_any _ _).mono ?_; rintro e w' ⟨rfl, rfl⟩; rw [HD.out])
                go_ret2
                refine ⟨ret2_int ?_ (by rw [spEnd_yes HO.out, HE.out]), rfl⟩
                unfold leadNum; rw [HM.out]; simp only [Bool.false_eq_true, if_false]; rw [HE.out]; rw [HF.out]
            · have HD : Hid (digB s[j] = true) := hd
              obtain ⟨hd1, hd2⟩ := (digB_iff _).1 hd
              clear hd
              have HS : Hid (numTo s.data.toList (q) (j + 1) = accD (numTo s.data.toList (q) j) s[j]) := numTo_step HG.out hj0
              generalize numTo s.data.toList (q) j = n at *
              go_wp2_with (go_at_call 120; refine (refDigit_any _ _).mono ?_; rintro e w' ⟨rfl, rfl⟩; rw [HD.out])
              go_round
              case rel => exact ⟨j + 1, by omega, by omega, by go_num, by rw [HS.out]; rfl, by rw [runTo_step HG.out HD.out]; exact HR.out⟩
              case measure => simp [intOf]; omega
          · have HE : Hid (leadEnd s.data.toList = j) := by
              show leadEnd s.data.toList = j
              unfold leadEnd; rw [HF.out, ← HR.out, runTo_stop (fun c hc => ?_)]
              rw [get_none s j (by omega)] at hc; cases hc
            by_cases hjf : j = q
            · have hjf' : ((j : Int) == (q)) = true := by rw [beq_iff_eq]; omega
              have HO : Hid (leadOk s.data.toList = false) := by show leadOk s.data.toList = false; unfold leadOk; rw [HE.out, HF.out]; simp; omega
              clear hjf
              go_wp2
              go_ret2
              exact ⟨ret2_int (leadNum_no HO.out).symm (by rw [spEnd_no HO.out]; rfl), rfl⟩
            · have hjf' : ((j : Int) == (q)) = false := by rw [beq_eq_false_iff_ne]; omega
              have HO : Hid (leadOk s.data.toList = true) := by show leadOk s.data.toList = true; unfold leadOk; rw [HE.out, HF.out]; simp; omega
              clear hjf
              go_wp2
              go_ret2
              refine ⟨ret2_int ?_ (by rw [spEnd_yes HO.out, HE.out]), rfl⟩
              unfold leadNum; rw [HM.out]; simp only [Bool.false_eq_true, if_false]; rw [HE.out]; rw [HF.out]

      · have HB : Hid (blankB s[q] = true) := hb
        clear hb
        have hj1 : q + 1 ≤ a := by rw [← HR.out, ← runTo_step HG.out HB.out]; exact runTo_ge _ _ _
        go_wp2_with (go_at_call 68; refine (refBlank_any _ _).mono ?_; rintro e w' ⟨rfl, rfl⟩; rw [HB.out])
        go_round
        case rel => exact ⟨q + 1, hj1, by go_num, by rw [runTo_step HG.out HB.out]; exact HR.out⟩
        case measure => simp [intOf]; omega
    · have hja : q = a := by
        rw [← HR.out, runTo_stop (fun c hc => ?_)]
        rw [get_none s q (by omega)] at hc; cases hc
      subst hja
      exfalso; omega

set_option maxHeartbeats 1000000 in
theorem spelled_end (s : ByteArray) (w : World) (hs : s.size ≤ maxLen) (a : Nat) (HA : Hid (a = runTo blankB s.data.toList 0)) (ha2 : a ≤ s.size)
    (hlt : ¬ a < s.size) :
    Calls Tryz.prog 67 #[.string s] w fun e w' => e = .returned (.tuple #[.int .i64 (leadNum s.data.toList), .int .i64 (spEnd s.data.toList)]) ∧ w' = w := by
  unfold maxLen at hs
  have HF : Hid (leadFirst s.data.toList = a) := by
    show leadFirst s.data.toList = a
    unfold leadFirst; rw [← HA.out, isAt_ge s a _ (by omega), isAt_ge s a _ (by omega)]; rfl
  have HM : Hid (isAt s.data.toList (runTo blankB s.data.toList 0) 45 = false) := by
    show isAt s.data.toList (runTo blankB s.data.toList 0) 45 = false
    rw [← HA.out, isAt_ge s a _ (by omega)]
  go_enter Tryz.func67, Tryz.ntmps67
  go_wp2
  go_loop [4] (fun i => ∃ q : Nat, q ≤ a ∧ i = .int .i64 q ∧ runTo blankB s.data.toList q = a) (fun i => s.size - (intOf i).toNat)
  case atStart => exact ⟨0, by omega, rfl, HA.out.symm⟩
  case round =>
    obtain ⟨q, hq, rfl, hr⟩ := hrel
    have HR : Hid (runTo blankB s.data.toList q = a) := hr
    clear hr
    by_cases hl : q < s.size
    · have HG : Hid (s.data.toList[q]? = some s[q]) := get_of_lt s q hl
      cases hb : blankB s[q]
      · have hja : q = a := by
          rw [← HR.out, runTo_stop (fun c hc => ?_)]
          rw [HG.out] at hc; cases hc; exact hb
        subst hja
        exfalso; omega

      · have HB : Hid (blankB s[q] = true) := hb
        clear hb
        have hj1 : q + 1 ≤ a := by rw [← HR.out, ← runTo_step HG.out HB.out]; exact runTo_ge _ _ _
        go_wp2_with (go_at_call 68; refine (refBlank_any _ _).mono ?_; rintro e w' ⟨rfl, rfl⟩; rw [HB.out])
        go_round
        case rel => exact ⟨q + 1, hj1, by go_num, by rw [runTo_step HG.out HB.out]; exact HR.out⟩
        case measure => simp [intOf]; omega
    · have hja : q = a := by
        rw [← HR.out, runTo_stop (fun c hc => ?_)]
        rw [get_none s q (by omega)] at hc; cases hc
      subst hja
      go_wp2
      go_loop [4, 7] (fun i n => ∃ j : Nat, q ≤ j ∧ j ≤ s.size ∧ i = .int .i64 j ∧ n = .int .i64 (numTo s.data.toList (q) j) ∧ runTo digB s.data.toList j = runTo digB s.data.toList (q)) (fun i _ => s.size - (intOf i).toNat)
      case atStart => exact ⟨q, by omega, by omega, by go_num, by rw [numTo_self], rfl⟩
      case round =>
        obtain ⟨j, hj0, hj, rfl, rfl, hr⟩ := hrel
        have HR : Hid (runTo digB s.data.toList j = runTo digB s.data.toList (q)) := hr
        clear hr
        by_cases hl : j < s.size
        · exfalso; omega
        · have HE : Hid (leadEnd s.data.toList = j) := by
            show leadEnd s.data.toList = j
            unfold leadEnd; rw [HF.out, ← HR.out, runTo_stop (fun c hc => ?_)]
            rw [get_none s j (by omega)] at hc; cases hc
          by_cases hjf : j = q
          · have hjf' : ((j : Int) == (q)) = true := by rw [beq_iff_eq]; omega
            have HO : Hid (leadOk s.data.toList = false) := by show leadOk s.data.toList = false; unfold leadOk; rw [HE.out, HF.out]; simp; omega
            clear hjf
            go_wp2
            go_ret2
            exact ⟨ret2_int (leadNum_no HO.out).symm (by rw [spEnd_no HO.out]; rfl), rfl⟩
          · have hjf' : ((j : Int) == (q)) = false := by rw [beq_eq_false_iff_ne]; omega
            have HO : Hid (leadOk s.data.toList = true) := by show leadOk s.data.toList = true; unfold leadOk; rw [HE.out, HF.out]; simp; omega
            clear hjf
            go_wp2
            go_ret2
            refine ⟨ret2_int ?_ (by rw [spEnd_yes HO.out, HE.out]), rfl⟩
            unfold leadNum; rw [HM.out]; simp only [Bool.false_eq_true, if_false]; rw [HE.out]; rw [HF.out]

theorem spelled_any (s : ByteArray) (w : World) (hs : s.size ≤ maxLen) :
    Calls Tryz.prog 67 #[.string s] w fun e w' => e = .returned (.tuple #[.int .i64 (leadNum s.data.toList), .int .i64 (spEnd s.data.toList)]) ∧ w' = w := by
  have ha2 : runTo blankB s.data.toList 0 ≤ s.size := by rw [← len_eq]; exact runTo_le (by omega)
  by_cases hlt : runTo blankB s.data.toList 0 < s.size
  · cases h45 : ((s[runTo blankB s.data.toList 0].toNat : Int) == 45)
    · cases h43 : ((s[runTo blankB s.data.toList 0].toNat : Int) == 43)
      · exact spelled_none s w hs _ (hide rfl) ha2 hlt h45 h43
      · exact spelled_plus s w hs _ (hide rfl) ha2 hlt h45 h43
    · exact spelled_minus s w hs _ (hide rfl) ha2 hlt h45
  · exact spelled_end s w hs _ (hide rfl) ha2 hlt
end Go.Proofs.YtfjgeejppacflaaGreatDoor
