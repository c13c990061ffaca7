import Derived.Test.YthhiofppbpgipaaGreatDoorGA
import Derived.Deep.RegionWith
namespace Go.Proofs.YthhiofppbpgipaaGreatDoor
open Go.RowKit

theorem ret2_int {a a' b b' : Int} (h1 : a = a') (h2 : b = b') : Ending.returned (.tuple #[.int .i64 a, .int .i64 b]) = .returned (.tuple #[.int .i64 a', .int .i64 b']) := by rw [h1, h2]
set_option maxHeartbeats 400000 in
theorem refDigit_any (c : UInt8) (w : World) :
    Calls Tryz.prog 133 #[.int .u8 c.toNat] w fun e w' => e = .returned (.bool (digB c)) ∧ w' = w := by
  have HD : Hid (digB c = (decide (48 ≤ (c.toNat : Int)) && decide ((c.toNat : Int) ≤ 57))) := by
    show digB c = (decide (48 ≤ (c.toNat : Int)) && decide ((c.toNat : Int) ≤ 57))
    rw [Bool.eq_iff_iff, digB_iff]; simp
  go_enter Tryz.func133, Tryz.ntmps133
  go_wp2
  all_goals
    go_ret
    exact ⟨ret_bool (by rw [HD.out] <;> simp [*] <;> omega), rfl⟩

set_option maxHeartbeats 1000000 in
theorem spelled_minus (s : ByteArray) (w : World) (hs : s.size ≤ maxLen) (a : Nat) (HA : Hid (a = runTo blankB s.data.toList 0)) (ha2 : a ≤ s.size)
    (hlt : a < s.size) (h45 : ((s[a].toNat : Int) == 45) = true) :
    Calls Tryz.prog 69 #[.string s] w fun e w' => e = .returned (.tuple #[.int .i64 (leadNum s.data.toList), .int .i64 (spEnd s.data.toList)]) ∧ w' = w := by
  unfold maxLen at hs
  have HF : Hid (leadFirst s.data.toList = a + 1) := by
    show leadFirst s.data.toList = a + 1
    unfold leadFirst; rw [← HA.out, isAt_lt s a _ hlt, h45]; rfl
  have HM : Hid (isAt s.data.toList (runTo blankB s.data.toList 0) 45 = true) := by
    show isAt s.data.toList (runTo blankB s.data.toList 0) 45 = true
    rw [← HA.out, isAt_lt s a _ hlt, h45]
  go_enter Tryz.func69, Tryz.ntmps69
  go_wp2
  go_loop [4] (fun i => ∃ q : Nat, q ≤ a ∧ i = .int .i64 q ∧ runTo blankB s.data.toList q = a) (fun i => s.size - (intOf i).toNat)
  case atStart => exact ⟨0, by omega, rfl, HA.out.symm⟩
  case round =>
    obtain ⟨q, hq, rfl, hr⟩ := hrel
    have HR : Hid (runTo blankB s.data.toList q = a) := hr
    clear hr
    by_cases hl : q < s.size
    · have HG : Hid (s.data.toList[q]? = some s[q]) := get_of_lt s q hl
      cases hb : blankB s[q]
      · have hja : q = a := by
          rw [← HR.out, runTo_stop (fun c hc => ?_)]
          rw [HG.out] at hc; cases hc; exact hb
        subst hja
        have HB : Hid (blankB s[q] = false) := hb
        clear hb
        go_wp2_with (go_at_call 70; refine (refBlank_any _ _).mono ?_; rintro e w' ⟨rfl, rfl⟩; rw [HB.out])
        go_wp2
        go_loop [4, 7] (fun i n => ∃ j : Nat, q + 1 ≤ j ∧ j ≤ s.size ∧ i = .int .i64 j ∧ n = .int .i64 (numTo s.data.toList (q + 1) j) ∧ runTo digB s.data.toList j = runTo digB s.data.toList (q + 1)) (fun i _ => s.size - (intOf i).toNat)
        case atStart => exact ⟨q + 1, by omega, by omega, by go_num, by rw [numTo_self], rfl⟩
        case round =>
          obtain ⟨j, hj0, hj, rfl, rfl, hr⟩ := hrel
          have HR : Hid (runTo digB s.data.toList j = runTo digB s.data.toList (q + 1)) := hr
          clear hr
          by_cases hl : j < s.size
          · have HG : Hid (s.data.toList[j]? = some s[j]) := get_of_lt s j hl
            cases hd : digB s[j]
            · have HD : Hid (digB s[j] = false) := hd
              clear hd
              have HE : Hid (leadEnd s.data.toList = j) := by
                show leadEnd s.data.toList = j
                unfold leadEnd; rw [HF.out, ← HR.out, runTo_stop (fun c hc => ?_)]
                rw [HG.out] at hc; cases hc; exact HD.out
              by_cases hjf : j = q + 1
              · have hjf' : ((j : Int) == (q + 1)) = true := by rw [beq_iff_eq]; omega
                have HO : Hid (leadOk s.data.toList = false) := by show leadOk s.data.toList = false; unfold leadOk; rw [HE.out, HF.out]; simp; omega
                clear hjf
                go_wp2_with (go_at_call 133; refine (refDigit_any _ _).mono ?_; rintro e w' ⟨rfl, rfl⟩; rw [HD.out])
                go_ret2
                exact ⟨ret2_int (leadNum_no HO.out).symm (by rw [spEnd_no HO.out]; rfl), rfl⟩
              · have hjf' : ((j : Int) == (q + 1)) = false := by rw [beq_eq_false_iff_ne]; omega
                have HO : Hid (leadOk s.data.toList = true) := by show leadOk s.data.toList = true; unfold leadOk; rw [HE.out, HF.out]; simp; omega
                clear hjf
                go_wp2_with (go_at_call 133; refine (refDigit_any _ _).mono ?_; rintro e w' ⟨rfl, rfl⟩; rw [HD.out])
                go_ret2
                refine ⟨ret2_int ?_ (by rw [spEnd_yes HO.out, HE.out]), rfl⟩
                unfold leadNum; rw [HM.out]; simp only [if_true]; rw [HE.out]; rw [HF.out]
            · have HD : Hid (digB s[j] = true) := hd
              obtain ⟨hd1, hd2⟩ := (digB_iff _).1 hd
              clear hd
              have HS : Hid (numTo s.data.toList (q + 1) (j + 1) = accD (numTo s.data.toList (q + 1) j) s[j]) := numTo_step HG.out hj0
              generalize numTo s.data.toList (q + 1) j = n at *
              go_wp2_with (go_at_call 133; refine (refDigit_any _ _).mono ?_; rintro e w' ⟨rfl, rfl⟩; rw [HD.out])
              go_round
              case rel => exact ⟨j + 1, by omega, by omega, by go_num, by rw [HS.out]; rfl, by rw [runTo_step HG.out HD.out]; exact HR.out⟩
              case measure => simp [intOf]; omega
          · have HE : Hid (leadEnd s.data.toList = j) := by
              show leadEnd s.data.toList = j
              unfold leadEnd; rw [HF.out, ← HR.out, runTo_stop (fun c hc => ?_)]
              rw [get_none s j (by omega)] at hc; cases hc
            by_cases hjf : j = q + 1
            · have hjf' : ((j : Int) == (q + 1)) = true := by rw [beq_iff_eq]; omega
              have HO : Hid (leadOk s.data.toList = false) := by show leadOk s.data.toList = false; unfold leadOk; rw [HE.out, HF.out]; simp; omega
              clear hjf
              go_wp2
              go_ret2
              exact ⟨ret2_int (leadNum_no HO.out).symm (by rw [spEnd_no HO.out]; rfl), rfl⟩
            · have hjf' : ((j : Int) == (q + 1)) = false := by rw [beq_eq_false_iff_ne]; omega
              have HO : Hid (leadOk s.data.toList = true) := by show leadOk s.data.toList = true; unfold leadOk; rw [HE.out, HF.out]; simp; omega
              clear hjf
              go_wp2
              go_ret2
              refine ⟨ret2_int ?_ (by rw [spEnd_yes HO.out, HE.out]), rfl⟩
              unfold leadNum; rw [HM.out]; simp only [if_true]; rw [HE.out]; rw [HF.out]

      · have HB : Hid (blankB s[q] = true) := hb
        clear hb
        have hj1 : q + 1 ≤ a := by rw [← HR.out, ← runTo_step HG.out HB.out]; exact runTo_ge _ _ _
        go_wp2_with (go_at_call 70; refine (refBlank_any _ _).mono ?_; rintro e w' ⟨rfl, rfl⟩; rw [HB.out])
        go_round
        case rel => exact ⟨q + 1, hj1, by go_num, by rw [runTo_step HG.out HB.out]; exact HR.out⟩
        case measure => simp [intOf]; omega
    · have hja : q = a := by
        rw [← HR.out, runTo_stop (fun c hc => ?_)]
        rw [get_none s q (by omega)] at hc; cases hc
      subst hja
      exfalso; omega

set_option maxHeartbeats 1000000 in
theorem spelled_plus (s : ByteArray) (w : World) (hs : s.size ≤ maxLen) (a : Nat) (HA : Hid (a = runTo blankB s.data.toList 0)) (ha2 : a ≤ s.size)
    (hlt : a < s.size) (h45 : ((s[a].toNat : Int) == 45) = false) (h43 : ((s[a].toNat : Int) == 43) = true) :
    Calls Tryz.prog 69 #[.string s] w fun e w' => e = .returned (.tuple #[.int .i64 (leadNum s.data.toList), .int .i64 (spEnd s.data.toList)]) ∧ w' = w := by
  unfold maxLen at hs
  have HF : Hid (leadFirst s.data.toList = a + 1) := by
    show leadFirst s.data.toList = a + 1
    unfold leadFirst; rw [← HA.out, isAt_lt s a _ hlt, isAt_lt s a _ hlt, h45, h43]; rfl
  have HM : Hid (isAt s.data.toList (runTo blankB s.data.toList 0) 45 = false) := by
    show isAt s.data.toList (runTo blankB s.data.toList 0) 45 = false
    rw [← HA.out, isAt_lt s a _ hlt, h45]
  go_enter Tryz.func69, Tryz.ntmps69
  go_wp2
  go_loop [4] (fun i => ∃ q : Nat, q ≤ a ∧ i = .int .i64 q ∧ runTo blankB s.data.toList q = a) (fun i => s.size - (intOf i).toNat)
  case atStart => exact ⟨0, by omega, rfl, HA.out.symm⟩
  case round =>
    obtain ⟨q, hq, rfl, hr⟩ := hrel
    have HR : Hid (runTo blankB s.data.toList q = a) := hr
    clear hr
    by_cases hl : q < s.size
    · have HG : Hid (s.data.toList[q]? = some s[q]) := get_of_lt s q hl
      cases hb : blankB s[q]
      · have hja : q = a := by
          rw [← HR.out, runTo_stop (fun c hc => ?_)]
          rw [HG.out] at hc; cases hc; exact hb
        subst hja
        have HB : Hid (blankB s[q] = false) := hb
        clear hb
        go_wp2_with (go_at_call 70; refine (refBlank_any _ _).mono ?_; rintro e w' ⟨rfl, rfl⟩; rw [HB.out])
        go_wp2
        go_loop [4, 7] (fun i n => ∃ j : Nat, q + 1 ≤ j ∧ j ≤ s.size ∧ i = .int .i64 j ∧ n = .int .i64 (numTo s.data.toList (q + 1) j) ∧ runTo digB s.data.toList j = runTo digB s.data.toList (q + 1)) (fun i _ => s.size - (intOf i).toNat)
        case atStart => exact ⟨q + 1, by omega, by omega, by go_num, by rw [numTo_self], rfl⟩
        case round =>
          obtain ⟨j, hj0, hj, rfl, rfl, hr⟩ := hrel
          have HR : Hid (runTo digB s.data.toList j = runTo digB s.data.toList (q + 1)) := hr
          clear hr
          by_cases hl : j < s.size
          · have HG : Hid (s.data.toList[j]? = some s[j]) := get_of_lt s j hl
            cases hd : digB s[j]
            · have HD : Hid (digB s[j] = false) := hd
              clear hd
              have HE : Hid (leadEnd s.data.toList = j) := by
                show leadEnd s.data.toList = j
                unfold leadEnd; rw [HF.out, ← HR.out, runTo_stop (fun c hc => ?_)]
                rw [HG.out] at hc; cases hc; exact HD.out
              by_cases hjf : j = q + 1
              · have hjf' : ((j : Int) == (q + 1)) = true := by rw [beq_iff_eq]; omega
                have HO : Hid (leadOk s.data.toList = false) := by show leadOk s.data.toList = false; unfold leadOk; rw [HE.out, HF.out]; simp; omega
                clear hjf
                go_wp2_with (go_at_call 133; refine (refDigit_any _ _).mono ?_; rintro e w' ⟨rfl, rfl⟩; rw [HD.out])
                go_ret2
                exact ⟨ret2_int (leadNum_no HO.out).symm (by rw [spEnd_no HO.out]; rfl), rfl⟩
              · have hjf' : ((j : Int) == (q + 1)) = false := by rw [beq_eq_false_iff_ne]; omega
                have HO : Hid (leadOk s.data.toList = true) := by show leadOk s.data.toList = true; unfold leadOk; rw [HE.out, HF.out]; simp; omega
                clear hjf
                go_wp2_with (go_at_call 133; refine (refDigit_any _ _).mono ?_; rintro e w' ⟨rfl, rfl⟩; rw [HD.out])
                go_ret2
                refine ⟨ret2_int ?_ (by rw [spEnd_yes HO.out, HE.out]), rfl⟩
                unfold leadNum; rw [HM.out]; simp only [Bool.false_eq_true, if_false]; rw [HE.out]; rw [HF.out]
            · have HD : Hid (digB s[j] = true) := hd
              obtain ⟨hd1, hd2⟩ := (digB_iff _).1 hd
              clear hd
              have HS : Hid (numTo s.data.toList (q + 1) (j + 1) = accD (numTo s.data.toList (q + 1) j) s[j]) := numTo_step HG.out hj0
              generalize numTo s.data.toList (q + 1) j = n at *
              go_wp2_with (go_at_call 133; refine (refDigit_any _ _).mono ?_; rintro e w' ⟨rfl, rfl⟩; rw [HD.out])
              go_round
              case rel => exact ⟨j + 1, by omega, by omega, by go_num, by rw [HS.out]; rfl, by rw [runTo_step HG.out HD.out]; exact HR.out⟩
              case measure => simp [intOf]; omega
          · have HE : Hid (leadEnd s.data.toList = j) := by
              show leadEnd s.data.toList = j
              unfold leadEnd; rw [HF.out, ← HR.out, runTo_stop (fun c hc => ?_)]
              rw [get_none s j (by omega)] at hc; cases hc
            by_cases hjf : j = q + 1
            · have hjf' : ((j : Int) == (q + 1)) = true := by rw [beq_iff_eq]; omega
              have HO : Hid (leadOk s.data.toList = false) := by show leadOk s.data.toList = false; unfold leadOk; rw [HE.out, HF.out]; simp; omega
              clear hjf
              go_wp2
              go_ret2
              exact ⟨ret2_int (leadNum_no HO.out).symm (by rw [spEnd_no HO.out]; rfl), rfl⟩
            · have hjf' : ((j : Int) == (q + 1)) = false := by rw [beq_eq_false_iff_ne]; omega
              have HO : Hid (leadOk s.data.toList = true) := by show leadOk s.data.toList = true; unfold leadOk; rw [HE.out, HF.out]; simp; omega
              clear hjf
              go_wp2
              go_ret2
              refine ⟨ret2_int ?_ (by rw [spEnd_yes HO.out, HE.out]), rfl⟩
              unfold leadNum; rw [HM.out]; simp only [Bool.false_eq_true, if_false]; rw [HE.out]; rw [HF.out]

      · have HB : Hid (blankB s[q] = true) := hb
        clear hb
        have hj1 : q + 1 ≤ a := by rw [← HR.out, ← runTo_step HG.out HB.out]; exact runTo_ge _ _ _
        go_wp2_with (go_at_call 70; refine (refBlank_any _ _).mono ?_; rintro e w' ⟨rfl, rfl⟩; rw [HB.out])
        go_round
        case rel => exact ⟨q + 1, hj1, by go_num, by rw [runTo_step HG.out HB.out]; exact HR.out⟩
        case measure => simp [intOf]; omega
    · have hja : q = a := by
        rw [← HR.out, runTo_stop (fun c hc => ?_)]
        rw [get_none s q (by omega)] at hc; cases hc
      subst hja
      exfalso; omega

set_option maxHeartbeats 1000000 in
theorem spelled_none (s : ByteArray) (w : World) (hs : s.size ≤ maxLen) (a : Nat) (HA : Hid (a = runTo blankB s.data.toList 0)) (ha2 : a ≤ s.size)
    (hlt : a < s.size) (h45 : ((s[a].toNat : Int) == 45) = false) (h43 : ((s[a].toNat : Int) == 43) = false) :
    Calls Tryz.prog 69 #[.string s] w fun e w' => e = .returned (.tuple #[.int .i64 (leadNum s.data.toList), .int .i64 (spEnd s.data.toList)]) ∧ w' = w := by
  unfold maxLen at hs
  have HF : Hid (leadFirst s.data.toList = a) := by
    show leadFirst s.data.toList = a
    unfold leadFirst; rw [← HA.out, isAt_lt s a _ hlt, isAt_lt s a _ hlt, h45, h43]; rfl
  have HM : Hid (isAt s.data.toList (runTo blankB s.data.toList 0) 45 = false) := by
    show isAt s.data.toList (runTo blankB s.data.toList 0) 45 = false
    rw [← HA.out, isAt_lt s a _ hlt, h45]
  go_enter Tryz.func69, Tryz.ntmps69
  go_wp2
  go_loop [4] (fun i => ∃ q : Nat, q ≤ a ∧ i = .int .i64 q ∧ runTo blankB s.data.toList q = a) (fun i => s.size - (intOf i).toNat)
  case atStart => exact ⟨0, by omega, rfl, HA.out.symm⟩
  case round =>
    obtain ⟨q, hq, rfl, hr⟩ := hrel
    have HR : Hid (runTo blankB s.data.toList q = a) := hr
    clear hr
    by_cases hl : q < s.size
    · have HG : Hid (s.data.toList[q]? = some s[q]) := get_of_lt s q hl
      cases hb : blankB s[q]
      · have hja : q = a := by
          rw [← HR.out, runTo_stop (fun c hc => ?_)]
          rw [HG.out] at hc; cases hc; exact hb
        subst hja
        have HB : Hid (blankB s[q] = false) := hb
        clear hb
        go_wp2_with (go_at_call 70; refine (refBlank_any _ _).mono ?_; rintro e w' ⟨rfl, rfl⟩; rw [HB.out])
        go_wp2
        go_loop [4, 7] (fun i n => ∃ j : Nat, q ≤ j ∧ j ≤ s.size ∧ i = .int .i64 j ∧ n = .int .i64 (numTo s.data.toList (q) j) ∧ runTo digB s.data.toList j = runTo digB s.data.toList (q)) (fun i _ => s.size - (intOf i).toNat)
        case atStart => exact ⟨q, by omega, by omega, by go_num, by rw [numTo_self], rfl⟩
        case round =>
          obtain ⟨j, hj0, hj, rfl, rfl, hr⟩ := hrel
          have HR : Hid (runTo digB s.data.toList j = runTo digB s.data.toList (q)) := hr
          clear hr
          by_cases hl : j < s.size
          · have HG : Hid (s.data.toList[j]? = some s[j]) := get_of_lt s j hl
            cases hd : digB s[j]
            · have HD : Hid (digB s[j] = false) := hd
              clear hd
              have HE : Hid (leadEnd s.data.toList = j) := by
                show leadEnd s.data.toList = j
                unfold leadEnd; rw [HF.out, ← HR.out, runTo_stop (fun c hc => ?_)]
                rw [HG.out] at hc; cases hc; exact HD.out
              by_cases hjf : j = q
              · have hjf' : ((j : Int) == (q)) = true := by rw [beq_iff_eq]; omega
                have HO : Hid (leadOk s.data.toList = false) := by show leadOk s.data.toList = false; unfold leadOk; rw [HE.out, HF.out]; simp; omega
                clear hjf
                go_wp2_with (go_at_call 133; refine (refDigit_any _ _).mono ?_; rintro e w' ⟨rfl, rfl⟩; rw [HD.out])
                go_ret2
                exact ⟨ret2_int (leadNum_no HO.out).symm (by rw [spEnd_no HO.out]; rfl), rfl⟩
              · have hjf' : ((j : Int) == (q)) = false := by rw [beq_eq_false_iff_ne]; omega
                have HO : Hid (leadOk s.data.toList = true) := by show leadOk s.data.toList = true; unfold leadOk; rw [HE.out, HF.out]; simp; omega
                clear hjf
                go_wp2_with (go_at_call 133; refine (refDigit_any _ _).mono ?_; rintro e w' ⟨rfl, rfl⟩; rw [HD.out])
                go_ret2
                refine ⟨ret2_int ?_ (by rw [spEnd_yes HO.out, HE.out]), rfl⟩
                unfold leadNum; rw [HM.out]; simp only [Bool.false_eq_true, if_false]; rw [HE.out]; rw [HF.out]
            · have HD : Hid (digB s[j] = true) := hd
              obtain ⟨hd1, hd2⟩ := (digB_iff _).1 hd
              clear hd
              have HS : Hid (numTo s.data.toList (q) (j + 1) = accD (numTo s.data.toList (q) j) s[j]) := numTo_step HG.out hj0
              generalize numTo s.data.toList (q) j = n at *
              go_wp2_with (go_at_call 133; refine (refDigit_any _ _).mono ?_; rintro e w' ⟨rfl, rfl⟩; rw [HD.out])
              go_round
              case rel => exact ⟨j + 1, by omega, by omega, by go_num, by rw [HS.out]; rfl, by rw [runTo_step HG.out HD.out]; exact HR.out⟩
              case measure => simp [intOf]; omega
          · have HE : Hid (leadEnd s.data.toList = j) := by
              show leadEnd s.data.toList = j
              unfold leadEnd; rw [HF.out, ← HR.out, runTo_stop (fun c hc => ?_)]
              rw [get_none s j (by omega)] at hc; cases hc
            by_cases hjf : j = q
            · have hjf' : ((j : Int) == (q)) = true := by rw [beq_iff_eq]; omega
              have HO : Hid (leadOk s.data.toList = false) := by show leadOk s.data.toList = false; unfold leadOk; rw [HE.out, HF.out]; simp; omega
              clear hjf
              go_wp2
              go_ret2
              exact ⟨ret2_int (leadNum_no HO.out).symm (by rw [spEnd_no HO.out]; rfl), rfl⟩
            · have hjf' : ((j : Int) == (q)) = false := by rw [beq_eq_false_iff_ne]; omega
              have HO : Hid (leadOk s.data.toList = true) := by show leadOk s.data.toList = true; unfold leadOk; rw [HE.out, HF.out]; simp; omega
              clear hjf
              go_wp2
              go_ret2
              refine ⟨ret2_int ?_ (by rw [spEnd_yes HO.out, HE.out]), rfl⟩
              unfold leadNum; rw [HM.out]; simp only [Bool.false_eq_true, if_false]; rw [HE.out]; rw [HF.out]

      · have HB : Hid (blankB s[q] = true) := hb
        clear hb
        have hj1 : q + 1 ≤ a := by rw [← HR.out, ← runTo_step HG.out HB.out]; exact runTo_ge _ _ _
        go_wp2_with (go_at_call 70; refine (refBlank_any _ _).mono ?_; rintro e w' ⟨rfl, rfl⟩; rw [HB.out])
        go_round
        case rel => exact ⟨q + 1, hj1, by go_num, by rw [runTo_step HG.out HB.out]; exact HR.out⟩
        case measure => simp [intOf]; omega
    · have hja : q = a := by
        rw [← HR.out, runTo_stop (fun c hc => ?_)]
        rw [get_none s q (by omega)] at hc; cases hc
      subst hja
      exfalso; omega

set_option maxHeartbeats 1000000 in
theorem spelled_end (s : ByteArray) (w : World) (hs : s.size ≤ maxLen) (a : Nat) (HA : Hid (a = runTo blankB s.data.toList 0)) (ha2 : a ≤ s.size)
    (hlt : ¬ a < s.size) :
    Calls Tryz.prog 69 #[.string s] w fun e w' => e = .returned (.tuple #[.int .i64 (leadNum s.data.toList), .int .i64 (spEnd s.data.toList)]) ∧ w' = w := by
  unfold maxLen at hs
  have HF : Hid (leadFirst s.data.toList = a) := by
    show leadFirst s.data.toList = a
    unfold leadFirst; rw [← HA.out, isAt_ge s a _ (by omega), isAt_ge s a _ (by omega)]; rfl
  have HM : Hid (isAt s.data.toList (runTo blankB s.data.toList 0) 45 = false) := by
    show isAt s.data.toList (runTo blankB s.data.toList 0) 45 = false
    rw [← HA.out, isAt_ge s a _ (by omega)]
  go_enter Tryz.func69, Tryz.ntmps69
  go_wp2
  go_loop [4] (fun i => ∃ q : Nat, q ≤ a ∧ i = .int .i64 q ∧ runTo blankB s.data.toList q = a) (fun i => s.size - (intOf i).toNat)
  case atStart => exact ⟨0, by omega, rfl, HA.out.symm⟩
  case round =>
    obtain ⟨q, hq, rfl, hr⟩ := hrel
    have HR : Hid (runTo blankB s.data.toList q = a) := hr
    clear hr
    by_cases hl : q < s.size
    · have HG : Hid (s.data.toList[q]? = some s[q]) := get_of_lt s q hl
      cases hb : blankB s[q]
      · have hja : q = a := by
          rw [← HR.out, runTo_stop (fun c hc => ?_)]
          rw [HG.out] at hc; cases hc; exact hb
        subst hja
        exfalso; omega

      · have HB : Hid (blankB s[q] = true) := hb
        clear hb
        have hj1 : q + 1 ≤ a := by rw [← HR.out, ← runTo_step HG.out HB.out]; exact runTo_ge _ _ _
        go_wp2_with (go_at_call 70; refine (refBlank_any _ _).mono ?_; rintro e w' ⟨rfl, rfl⟩; rw [HB.out])
        go_round
        case rel => exact ⟨q + 1, hj1, by go_num, by rw [runTo_step HG.out HB.out]; exact HR.out⟩
        case measure => simp [intOf]; omega
    · have hja : q = a := by
        rw [← HR.out, runTo_stop (fun c hc => ?_)]
        rw [get_none s q (by omega)] at hc; cases hc
      subst hja
      go_wp2
      go_loop [4, 7] (fun i n => ∃ j : Nat, q ≤ j ∧ j ≤ s.size ∧ i = .int .i64 j ∧ n = .int .i64 (numTo s.data.toList (q) j) ∧ runTo digB s.data.toList j = runTo digB s.data.toList (q)) (fun i _ => s.size - (intOf i).toNat)
      case atStart => exact ⟨q, by omega, by omega, by go_num, by rw [numTo_self], rfl⟩
      case round =>
        obtain ⟨j, hj0, hj, rfl, rfl, hr⟩ := hrel
        have HR : Hid (runTo digB s.data.toList j = runTo digB s.data.toList (q)) := hr
        clear hr
        by_cases hl : j < s.size
        · exfalso; omega
        · have HE : Hid (leadEnd s.data.toList = j) := by
            show leadEnd s.data.toList = j
            unfold leadEnd; rw [HF.out, ← HR.out, runTo_stop (fun c hc => ?_)]
            rw [get_none s j (by omega)] at hc; cases hc
          by_cases hjf : j = q
          · have hjf' : ((j : Int) == (q)) = true := by rw [beq_iff_eq]; omega
            have HO : Hid (leadOk s.data.toList = false) := by show leadOk s.data.toList = false; unfold leadOk; rw [HE.out, HF.out]; simp; omega
            clear hjf
            go_wp2
            go_ret2
            exact ⟨ret2_int (leadNum_no HO.out).symm (by rw [spEnd_no HO.out]; rfl), rfl⟩
          · have hjf' : ((j : Int) == (q)) = false := by rw [beq_eq_false_iff_ne]; omega
            have HO : Hid (leadOk s.data.toList = true) := by show leadOk s.data.toList = true; unfold leadOk; rw [HE.out, HF.out]; simp; omega
            clear hjf
            go_wp2
            go_ret2
            refine ⟨ret2_int ?_ (by rw [spEnd_yes HO.out, HE.out]), rfl⟩
            unfold leadNum; rw [HM.out]; simp only [Bool.false_eq_true, if_false]; rw [HE.out]; rw [HF.out]

theorem spelled_any (s : ByteArray) (w : World) (hs : s.size ≤ maxLen) :
    Calls Tryz.prog 69 #[.string s] w fun e w' => e = .returned (.tuple #[.int .i64 (leadNum s.data.toList), .int .i64 (spEnd s.data.toList)]) ∧ w' = w := by
  have ha2 : runTo blankB s.data.toList 0 ≤ s.size := by rw [← len_eq]; exact runTo_le (by omega)
  by_cases hlt : runTo blankB s.data.toList 0 < s.size
  · cases h45 : ((s[runTo blankB s.data.toList 0].toNat : Int) == 45)
    · cases h43 : ((s[runTo blankB s.data.toList 0].toNat : Int) == 43)
      · exact spelled_none s w hs _ (hide rfl) ha2 hlt h45 h43
      · exact spelled_plus s w hs _ (hide rfl) ha2 hlt h45 h43
    · exact spelled_minus s w hs _ (hide rfl) ha2 hlt h45
  · exact spelled_end s w hs _ (hide rfl) ha2 hlt
end Go.Proofs.YthhiofppbpgipaaGreatDoor

namespace Go.Proofs.YthhiofppbpgipaaGreatDoor
open Go.RowKit

theorem spEnd_pos {l : List UInt8} (h : leadOk l = true) : 0 < spEnd l := by
  rw [spEnd_yes h]; simp [leadOk] at h; omega
theorem spEnd_le (l : List UInt8) : spEnd l ≤ l.length := by
  unfold spEnd; split
  · exact leadEnd_le l
  · omega
set_option maxHeartbeats 1000000 in
theorem refRead_no (s : ByteArray) (w : World) (hs : s.size ≤ maxLen) (hn : leadOk s.data.toList = false) :
    Calls Tryz.prog 33 #[.string s] w fun e w' => e = .returned (.agg #[.int .u8 115, .int .i64 0, .string s]) ∧ Below w.heap.size w w' := by
  have hz : ((spEnd s.data.toList : Int) == 0) = true := by rw [spEnd_no hn]; rfl
  clear hn
  go_enter Tryz.func33, Tryz.ntmps33
  go_wp2_with (first | (go_at_call 69; refine (spelled_any s _ hs).mono ?_; rintro e w' ⟨rfl, rfl⟩))
  exact bodyPost_ret (v := .agg #[.int .u8 115, .int .i64 0, .string s]) (by simp [results, Tryz.results33, go_sem]) rfl ⟨rfl, (Below.refl _ _).alloc (Nat.le_refl _) _⟩
def readVal (nb : Bool) (n : Int) (s : ByteArray) : Value := if nb then .agg #[.int .u8 109, .int .i64 n, .string s] else .agg #[.int .u8 115, .int .i64 0, .string s]
set_option maxHeartbeats 1000000 in
theorem refRead_yes (s : ByteArray) (w : World) (hs : s.size ≤ maxLen) (hn : leadOk s.data.toList = true) :
    Calls Tryz.prog 33 #[.string s] w fun e w' => e = .returned (readVal (numeralB s.data.toList) (leadNum s.data.toList) s) ∧ Below w.heap.size w w' := by
  have hs' := hs
  unfold maxLen at hs
  have hz : ((spEnd s.data.toList : Int) == 0) = false := by have := spEnd_pos hn; rw [beq_eq_false_iff_ne]; omega
  have HN : Hid (numeralB s.data.toList = decide (runTo blankB s.data.toList (spEnd s.data.toList) = s.size)) := by
    show numeralB s.data.toList = decide (runTo blankB s.data.toList (spEnd s.data.toList) = s.size)
    unfold numeralB; rw [hn, spEnd_yes hn, len_eq]; simp
  clear hn
  have hle := spEnd_le s.data.toList
  rw [len_eq] at hle
  generalize numeralB s.data.toList = nb at *
  go_enter Tryz.func33, Tryz.ntmps33
  go_wp2_with (first | (go_at_call 69; refine (spelled_any s _ hs').mono ?_; rintro e w' ⟨rfl, rfl⟩))
  go_loop [4] (fun i => ∃ j : Nat, j ≤ s.size ∧ i = .int .i64 j ∧ runTo blankB s.data.toList j = runTo blankB s.data.toList (spEnd s.data.toList)) (fun i => s.size - (intOf i).toNat)
  case atStart => exact ⟨_, hle, rfl, rfl⟩
  case round =>
    obtain ⟨j, hj, rfl, hr⟩ := hrel
    have HR : Hid (runTo blankB s.data.toList j = runTo blankB s.data.toList (spEnd s.data.toList)) := hr
    clear hr
    by_cases hlt : j < s.size
    · have HG : Hid (s.data.toList[j]? = some s[j]) := get_of_lt s j hlt
      cases hb : blankB s[j]
      · have HB : Hid (blankB s[j] = false) := hb
        clear hb
        have HF : Hid (nb = false) := by
          show nb = false
          rw [HN.out, ← HR.out, runTo_stop (fun c hc => ?_)]
          · simp; omega
          · rw [HG.out] at hc; cases hc; exact HB.out
        go_wp2_with (go_at_call 70; refine (refBlank_any _ _).mono ?_; rintro e w' ⟨rfl, rfl⟩; rw [HB.out])
        exact bodyPost_ret (v := .agg #[.int .u8 115, .int .i64 0, .string s]) (by simp [results, Tryz.results33, go_sem]) rfl ⟨by rw [HF.out]; rfl, (Below.refl _ _).alloc (Nat.le_refl _) _⟩
      · have HB : Hid (blankB s[j] = true) := hb
        clear hb
        go_wp2_with (go_at_call 70; refine (refBlank_any _ _).mono ?_; rintro e w' ⟨rfl, rfl⟩; rw [HB.out])
        go_round
        case rel => exact ⟨j + 1, by omega, by go_num, by rw [runTo_step HG.out HB.out]; exact HR.out⟩
        case measure => simp [intOf]; omega
    · have HF : Hid (nb = true) := by
        show nb = true
        rw [HN.out, ← HR.out, runTo_stop (fun c hc => ?_)]
        · simp; omega
        · rw [get_none s j (by omega)] at hc; cases hc
      go_wp2
      exact bodyPost_ret (v := .agg #[.int .u8 109, .int .i64 (leadNum s.data.toList), .string s]) (by simp [results, Tryz.results33, go_sem]) rfl ⟨by rw [HF.out]; rfl, (Below.refl _ _).alloc (Nat.le_refl _) _⟩
theorem refRead_num (s : ByteArray) (w : World) (hs : s.size ≤ maxLen) (hn : numeralB s.data.toList = true) :
    Calls Tryz.prog 33 #[.string s] w fun e w' => e = .returned (.agg #[.int .u8 109, .int .i64 (leadNum s.data.toList), .string s]) ∧ Below w.heap.size w w' := by
  have h := refRead_yes s w hs (by simp [numeralB] at hn; exact hn.1)
  rw [hn] at h; exact h
theorem refRead_text (s : ByteArray) (w : World) (hs : s.size ≤ maxLen) (hn : numeralB s.data.toList = false) :
    Calls Tryz.prog 33 #[.string s] w fun e w' => e = .returned (.agg #[.int .u8 115, .int .i64 0, .string s]) ∧ Below w.heap.size w w' := by
  cases h1 : leadOk s.data.toList
  · exact refRead_no s w hs h1
  · have h := refRead_yes s w hs h1
    rw [hn] at h; exact h
set_option maxHeartbeats 400000 in
theorem refNum_text (n : Int) (s : ByteArray) (w : World) (hs : s.size ≤ maxLen) :
    Calls Tryz.prog 101 #[.agg #[.int .u8 115, .int .i64 n, .string s]] w fun e w' => e = .returned (.int .i64 (leadNum s.data.toList)) ∧ Below w.heap.size w w' := by
  go_enter Tryz.func101, Tryz.ntmps101
  go_wp2_with (first | (go_at_call 69; refine (spelled_any s _ hs).mono ?_; rintro e w' ⟨rfl, rfl⟩))
  go_ret
  exact ⟨rfl, (Below.refl _ _).alloc (Nat.le_refl _) _⟩
set_option maxHeartbeats 400000 in
theorem refNum_else (k n : Int) (s : ByteArray) (w : World) (hk : (k == 115) = false) :
    Calls Tryz.prog 101 #[.agg #[.int .u8 k, .int .i64 n, .string s]] w fun e w' => e = .returned (.int .i64 n) ∧ Below w.heap.size w w' := by
  go_enter Tryz.func101, Tryz.ntmps101
  go_wp2
  go_ret
  exact ⟨rfl, (Below.refl _ _).alloc (Nat.le_refl _) _⟩
set_option maxHeartbeats 400000 in
theorem refText_any (k n : Int) (s : ByteArray) (w : World) (hk : (k == 110) = false) :
    Calls Tryz.prog 135 #[.agg #[.int .u8 k, .int .i64 n, .string s]] w fun e w' => e = .returned (.string s) ∧ Below w.heap.size w w' := by
  go_enter Tryz.func135, Tryz.ntmps135
  go_wp2
  go_ret
  exact ⟨rfl, (Below.refl _ _).alloc (Nat.le_refl _) _⟩
end Go.Proofs.YthhiofppbpgipaaGreatDoor

/- Plain functions on lists of bytes: an item of a format. Nothing of the program is imported. -/
namespace Go.Proofs.YthhiofppbpgipaaGreatDoor
open Go.RowKit

def flagB (c : UInt8) : Bool := (c.toNat : Int) == 45 || (c.toNat : Int) == 48
def hasIn (c : Int) (l : List UInt8) (a b : Nat) : Bool := ((l.drop a).take (b - a)).any fun x => (x.toNat : Int) == c
theorem hasIn_self (c : Int) (l : List UInt8) (a : Nat) : hasIn c l a a = false := by simp [hasIn]
theorem hasIn_step {l : List UInt8} {a b : Nat} {x : UInt8} (c : Int) (h : l[b]? = some x) (hab : a ≤ b) : hasIn c l a (b + 1) = (hasIn c l a b || ((x.toNat : Int) == c)) := by
  unfold hasIn
  have hc : (l.drop a)[b - a]? = some x := by rw [List.getElem?_drop, show a + (b - a) = b by omega]; exact h
  rw [show b + 1 - a = (b - a) + 1 by omega, List.take_add_one, hc]
  simp

def digAt (l : List UInt8) (k : Nat) : Bool := match l[k]? with | some c => digB c | none => false
def d2m (l : List UInt8) (k : Nat) : Nat := if digAt l k then (if digAt l (k + 1) then 2 else 1) else 0
def numN (l : List UInt8) (k : Nat) : Nat → Nat
  | 0 => 0
  | m + 1 => numN l k m * 10 + ((l[k + m]?.getD 0).toNat - 48)
theorem d2m_eq {l : List UInt8} {k m : Nat} (hm : m ≤ 2) (h : ∀ r, r < m → digAt l (k + r) = true) (he : m = 2 ∨ digAt l (k + m) = false) : d2m l k = m := by
  unfold d2m
  have c0 : m = 0 ∨ m = 1 ∨ m = 2 := by omega
  rcases c0 with rfl | rfl | rfl
  · rcases he with he | he
    · omega
    · simp at he; simp [he]
  · have h0 := h 0 (by omega)
    rcases he with he | he
    · omega
    · simp at h0; simp [h0, he]
  · have h0 := h 0 (by omega)
    have h1 := h 1 (by omega)
    simp at h0; simp [h0, h1]
theorem digAt_lt {l : List UInt8} {k : Nat} (h : digAt l k = true) : k < l.length := by
  by_cases hk : k < l.length
  · exact hk
  · simp [digAt, List.getElem?_eq_none (show l.length ≤ k by omega)] at h
theorem d2m_le {l : List UInt8} {k : Nat} (hk : k ≤ l.length) : k + d2m l k ≤ l.length := by
  unfold d2m
  split
  · rename_i h0
    have := digAt_lt h0
    split
    · rename_i h1
      have := digAt_lt h1
      omega
    · omega
  · omega
theorem d2m_le2 (l : List UInt8) (k : Nat) : d2m l k ≤ 2 := by unfold d2m; split <;> (try split) <;> omega
theorem numN_lt (l : List UInt8) (k m : Nat) (hm : m ≤ 2) (h : ∀ r, r < m → digAt l (k + r) = true) : numN l k m ≤ 99 ∧ (m ≤ 1 → numN l k m ≤ 9) := by
  have d : ∀ r, r < m → (l[k + r]?.getD 0).toNat - 48 ≤ 9 := by
    intro r hr
    have := h r hr
    unfold digAt at this
    cases hc : l[k + r]? with
    | none => simp [hc] at this
    | some c => simp [hc, digB] at this; simp; omega
  have c0 : m = 0 ∨ m = 1 ∨ m = 2 := by omega
  rcases c0 with rfl | rfl | rfl
  · simp [numN]
  · have := d 0 (by omega); simp [numN] at this ⊢; omega
  · have := d 0 (by omega); have := d 1 (by omega); simp [numN] at *; omega

def fE (l : List UInt8) (k : Nat) : Nat := runTo flagB l k
def wE (l : List UInt8) (k : Nat) : Nat := fE l k + d2m l (fE l k)
def itWidth (l : List UInt8) (k : Nat) : Nat := numN l (fE l k) (d2m l (fE l k))
def itDot (l : List UInt8) (k : Nat) : Bool := isAt l (wE l k) 46
def pE (l : List UInt8) (k : Nat) : Nat := if itDot l k then wE l k + 1 + d2m l (wE l k + 1) else wE l k
def itPrec (l : List UInt8) (k : Nat) : Nat := if itDot l k then numN l (wE l k + 1) (d2m l (wE l k + 1)) else 0
def itLetter (l : List UInt8) (k : Nat) : UInt8 := l[pE l k]?.getD 0
def itLeft (l : List UInt8) (k : Nat) : Bool := hasIn 45 l k (fE l k)
def itZero (l : List UInt8) (k : Nat) : Bool := hasIn 48 l k (fE l k)
def knownB (c : Int) (dot : Bool) : Bool := c == 115 || (!dot && (c == 100 || c == 120 || c == 99))
def itOk (l : List UInt8) (k : Nat) : Bool := decide (pE l k < l.length) && knownB (itLetter l k).toNat (itDot l k)

theorem isAt_ltB {l : List UInt8} {k : Nat} {c : Int} (h : isAt l k c = true) : k < l.length := by
  by_cases hk : k < l.length
  · exact hk
  · simp [isAt, List.getElem?_eq_none (show l.length ≤ k by omega)] at h
theorem fE_le {l : List UInt8} {k : Nat} (h : k ≤ l.length) : fE l k ≤ l.length := runTo_le h
theorem wE_le {l : List UInt8} {k : Nat} (h : k ≤ l.length) : wE l k ≤ l.length := d2m_le (fE_le h)
theorem pE_le {l : List UInt8} {k : Nat} (h : k ≤ l.length) : pE l k ≤ l.length := by
  unfold pE
  split
  · rename_i hd
    exact d2m_le (isAt_ltB hd)
  · exact wE_le h
end Go.Proofs.YthhiofppbpgipaaGreatDoor

namespace Go.Proofs.YthhiofppbpgipaaGreatDoor
open Go.RowKit

set_option maxHeartbeats 400000 in
theorem layDigit_any (c : UInt8) (w : World) :
    Calls Tryz.prog 195 #[.int .u8 c.toNat] w fun e w' => e = .returned (.bool (digB c)) ∧ w' = w := by
  have HD : Hid (digB c = (decide (48 ≤ (c.toNat : Int)) && decide ((c.toNat : Int) ≤ 57))) := by
    show digB c = (decide (48 ≤ (c.toNat : Int)) && decide ((c.toNat : Int) ≤ 57))
    rw [Bool.eq_iff_iff, digB_iff]; simp
  go_enter Tryz.func195, Tryz.ntmps195
  go_wp2
  all_goals
    go_ret
    exact ⟨ret_bool (by rw [HD.out] <;> simp [*] <;> omega), rfl⟩
theorem digAt_of_lt (s : ByteArray) (k : Nat) (h : k < s.size) : digAt s.data.toList k = digB s[k] := by unfold digAt; rw [get_of_lt s k h]
theorem digAt_of_ge (s : ByteArray) (k : Nat) (h : s.size ≤ k) : digAt s.data.toList k = false := by unfold digAt; rw [get_none s k h]
theorem numN_succ (s : ByteArray) (k m : Nat) (h : k + m < s.size) : numN s.data.toList k (m + 1) = numN s.data.toList k m * 10 + (s[k + m].toNat - 48) := by
  show numN s.data.toList k m * 10 + ((s.data.toList[k + m]?.getD 0).toNat - 48) = _
  rw [get_of_lt s (k + m) h]; rfl

set_option maxHeartbeats 1000000 in
theorem layDigits_a (s : ByteArray) (k : Nat) (w : World) (hs : s.size ≤ 65536) (hk : k ≤ s.size) (h2 : k + 2 ≤ s.size) :
    Calls Tryz.prog 121 #[.string s, .int .i64 k] w fun e w' => e = .returned (.tuple #[.int .i64 (numN s.data.toList k (d2m s.data.toList k)), .int .i64 ((k + d2m s.data.toList k : Nat))]) ∧ w' = w := by
  go_enter Tryz.func121, Tryz.ntmps121
  go_wp2
  go_loop [1, 6] (fun i n => ∃ m : Nat, m ≤ 2 ∧ k + m ≤ s.size ∧ i = .int .i64 ((k + m : Nat)) ∧ n = .int .i64 (numN s.data.toList k m) ∧ ∀ r, r < m → digAt s.data.toList (k + r) = true) (fun i _ => s.size + 2 - (intOf i).toNat)
  case atStart => exact ⟨0, by omega, by omega, by go_num, rfl, fun r hr => by omega⟩
  case round =>
    obtain ⟨m, hm, hj, rfl, rfl, hd⟩ := hrel
    have HA : Hid (∀ r, r < m → digAt s.data.toList (k + r) = true) := hd
    have hb := numN_lt s.data.toList k m hm hd
    clear hd
    by_cases hl : k + m < s.size ∧ m < 2
    · obtain ⟨hl1, hl2⟩ := hl
      have hb2 := hb.2 (by omega)
      cases hd : digB s[k + m]
      · have HD : Hid (digB s[k + m] = false) := hd
        clear hd
        have HM : Hid (d2m s.data.toList k = m) := d2m_eq hm HA.out (Or.inr (by rw [digAt_of_lt s _ hl1]; exact HD.out))
        go_wp2_with (go_at_call 195; refine (layDigit_any _ _).mono ?_; rintro e w' ⟨rfl, rfl⟩; rw [HD.out])
        go_ret2
        exact ⟨ret2_int (by rw [HM.out]) (by rw [HM.out] <;> omega), rfl⟩
      · have HD : Hid (digB s[k + m] = true) := hd
        obtain ⟨hd1, hd2⟩ := (digB_iff _).1 hd
        clear hd
        have HS := hide (numN_succ s k m hl1)
        have HX : Hid (∀ r, r < m + 1 → digAt s.data.toList (k + r) = true) := by
          intro r hr
          by_cases h : r < m
          · exact HA.out r h
          · rw [show r = m by omega, digAt_of_lt s _ hl1]; exact HD.out
        generalize numN s.data.toList k m = n at *
        go_wp2_with (go_at_call 195; refine (layDigit_any _ _).mono ?_; rintro e w' ⟨rfl, rfl⟩; rw [HD.out])
        go_round
        case rel => exact ⟨m + 1, by omega, by omega, by go_num, by rw [HS.out]; congr 1; omega, HX.out⟩
        case measure => simp [intOf]; omega
    · have HM : Hid (d2m s.data.toList k = m) := d2m_eq hm HA.out (by
        by_cases h2 : m = 2
        · exact Or.inl h2
        · exact Or.inr (digAt_of_ge s _ (by omega)))
      go_wp2
      go_ret2
      exact ⟨ret2_int (by rw [HM.out]) (by rw [HM.out] <;> omega), rfl⟩

set_option maxHeartbeats 1000000 in
theorem layDigits_b (s : ByteArray) (k : Nat) (w : World) (hs : s.size ≤ 65536) (hk : k ≤ s.size) (h2 : s.size < k + 2) :
    Calls Tryz.prog 121 #[.string s, .int .i64 k] w fun e w' => e = .returned (.tuple #[.int .i64 (numN s.data.toList k (d2m s.data.toList k)), .int .i64 ((k + d2m s.data.toList k : Nat))]) ∧ w' = w := by
  go_enter Tryz.func121, Tryz.ntmps121
  go_wp2
  go_loop [1, 6] (fun i n => ∃ m : Nat, m ≤ 2 ∧ k + m ≤ s.size ∧ i = .int .i64 ((k + m : Nat)) ∧ n = .int .i64 (numN s.data.toList k m) ∧ ∀ r, r < m → digAt s.data.toList (k + r) = true) (fun i _ => s.size + 2 - (intOf i).toNat)
  case atStart => exact ⟨0, by omega, by omega, by go_num, rfl, fun r hr => by omega⟩
  case round =>
    obtain ⟨m, hm, hj, rfl, rfl, hd⟩ := hrel
    have HA : Hid (∀ r, r < m → digAt s.data.toList (k + r) = true) := hd
    have hb := numN_lt s.data.toList k m hm hd
    clear hd
    by_cases hl : k + m < s.size ∧ m < 2
    · obtain ⟨hl1, hl2⟩ := hl
      have hb2 := hb.2 (by omega)
      cases hd : digB s[k + m]
      · have HD : Hid (digB s[k + m] = false) := hd
        clear hd
        have HM : Hid (d2m s.data.toList k = m) := d2m_eq hm HA.out (Or.inr (by rw [digAt_of_lt s _ hl1]; exact HD.out))
        go_wp2_with (go_at_call 195; refine (layDigit_any _ _).mono ?_; rintro e w' ⟨rfl, rfl⟩; rw [HD.out])
        go_ret2
        exact ⟨ret2_int (by rw [HM.out]) (by rw [HM.out] <;> omega), rfl⟩
      · have HD : Hid (digB s[k + m] = true) := hd
        obtain ⟨hd1, hd2⟩ := (digB_iff _).1 hd
        clear hd
        have HS := hide (numN_succ s k m hl1)
        have HX : Hid (∀ r, r < m + 1 → digAt s.data.toList (k + r) = true) := by
          intro r hr
          by_cases h : r < m
          · exact HA.out r h
          · rw [show r = m by omega, digAt_of_lt s _ hl1]; exact HD.out
        generalize numN s.data.toList k m = n at *
        go_wp2_with (go_at_call 195; refine (layDigit_any _ _).mono ?_; rintro e w' ⟨rfl, rfl⟩; rw [HD.out])
        go_round
        case rel => exact ⟨m + 1, by omega, by omega, by go_num, by rw [HS.out]; congr 1; omega, HX.out⟩
        case measure => simp [intOf]; omega
    · have HM : Hid (d2m s.data.toList k = m) := d2m_eq hm HA.out (by
        by_cases h2 : m = 2
        · exact Or.inl h2
        · exact Or.inr (digAt_of_ge s _ (by omega)))
      go_wp2
      go_ret2
      exact ⟨ret2_int (by rw [HM.out]) (by rw [HM.out] <;> omega), rfl⟩

set_option maxHeartbeats 1000000 in
theorem refDigits_any (s : ByteArray) (k : Nat) (w : World) (hs : s.size ≤ 65536) (hk : k ≤ s.size) :
    Calls Tryz.prog 134 #[.string s, .int .i64 k] w fun e w' => e = .returned (.tuple #[.int .i64 (numN s.data.toList k (d2m s.data.toList k)), .int .i64 ((k + d2m s.data.toList k : Nat))]) ∧ w' = w := by
  go_enter Tryz.func134, Tryz.ntmps134
  go_wp2
  go_loop [1, 6, 7] (fun i n c => ∃ m : Nat, m ≤ 2 ∧ k + m ≤ s.size ∧ i = .int .i64 ((k + m : Nat)) ∧ n = .int .i64 (numN s.data.toList k m) ∧ c = .int .i64 m ∧ ∀ r, r < m → digAt s.data.toList (k + r) = true) (fun i _ _ => s.size + 2 - (intOf i).toNat)
  case atStart => exact ⟨0, by omega, by omega, by go_num, rfl, rfl, fun r hr => by omega⟩
  case round =>
    obtain ⟨m, hm, hj, rfl, rfl, rfl, hd⟩ := hrel
    have HA : Hid (∀ r, r < m → digAt s.data.toList (k + r) = true) := hd
    have hb := numN_lt s.data.toList k m hm hd
    clear hd
    by_cases hl : k + m < s.size ∧ m < 2
    · obtain ⟨hl1, hl2⟩ := hl
      have hb2 := hb.2 (by omega)
      cases hd : digB s[k + m]
      · have HD : Hid (digB s[k + m] = false) := hd
        clear hd
        have HM : Hid (d2m s.data.toList k = m) := d2m_eq hm HA.out (Or.inr (by rw [digAt_of_lt s _ hl1]; exact HD.out))
        go_wp2_with (go_at_call 133; refine (refDigit_any _ _).mono ?_; rintro e w' ⟨rfl, rfl⟩; rw [HD.out])
        go_ret2
        exact ⟨ret2_int (by rw [HM.out]) (by rw [HM.out] <;> omega), rfl⟩
      · have HD : Hid (digB s[k + m] = true) := hd
        obtain ⟨hd1, hd2⟩ := (digB_iff _).1 hd
        clear hd
        have HS := hide (numN_succ s k m hl1)
        have HX : Hid (∀ r, r < m + 1 → digAt s.data.toList (k + r) = true) := by
          intro r hr
          by_cases h : r < m
          · exact HA.out r h
          · rw [show r = m by omega, digAt_of_lt s _ hl1]; exact HD.out
        generalize numN s.data.toList k m = n at *
        go_wp2_with (go_at_call 133; refine (refDigit_any _ _).mono ?_; rintro e w' ⟨rfl, rfl⟩; rw [HD.out])
        go_round
        case rel => exact ⟨m + 1, by omega, by omega, by go_num, by rw [HS.out]; congr 1; omega, by go_num, HX.out⟩
        case measure => simp [intOf]; omega
    · have HM : Hid (d2m s.data.toList k = m) := d2m_eq hm HA.out (by
        by_cases h2 : m = 2
        · exact Or.inl h2
        · exact Or.inr (digAt_of_ge s _ (by omega)))
      by_cases hm2 : m < 2
      · go_wp2
        go_ret2
        exact ⟨ret2_int (by rw [HM.out]) (by rw [HM.out] <;> omega), rfl⟩
      · go_wp2
        go_ret2
        exact ⟨ret2_int (by rw [HM.out]) (by rw [HM.out] <;> omega), rfl⟩

theorem layDigits_any (s : ByteArray) (k : Nat) (w : World) (hs : s.size ≤ 65536) (hk : k ≤ s.size) :
    Calls Tryz.prog 121 #[.string s, .int .i64 k] w fun e w' => e = .returned (.tuple #[.int .i64 (numN s.data.toList k (d2m s.data.toList k)), .int .i64 ((k + d2m s.data.toList k : Nat))]) ∧ w' = w := by
  by_cases h2 : k + 2 ≤ s.size
  · exact layDigits_a s k w hs hk h2
  · exact layDigits_b s k w hs hk (by omega)
end Go.Proofs.YthhiofppbpgipaaGreatDoor

namespace Go.Proofs.YthhiofppbpgipaaGreatDoor
open Go.RowKit

def itemCells (L Z : Bool) (n : Int) (p : Bool) (q : Int) (c : Int) : Array Value := #[.bool L, .bool Z, .int .i64 n, .bool p, .int .i64 q, .int .u8 c]
theorem flagB_eq (c : UInt8) : flagB c = ((c.toNat : Int) == 45 || (c.toNat : Int) == 48) := rfl
set_option maxHeartbeats 1000000 in
theorem flags_any (W : World) (b : Nat) (hb : b = W.heap.size) (s : ByteArray) (k : Nat) (hs : s.size ≤ 65536) (hk : k ≤ s.size) :
    Calls Tryz.prog 120 #[.pointer (some ⟨b, 0, none⟩), .string s, .int .i64 k] (W.alloc (.cells #[.bool false, .bool false, .int .i64 0, .bool false, .int .i64 0, .int .u8 0] 169)) fun e w' =>
      e = .returned (.int .i64 (fE s.data.toList k)) ∧ w' = W.alloc (.cells #[.bool (itLeft s.data.toList k), .bool (itZero s.data.toList k), .int .i64 0, .bool false, .int .i64 0, .int .u8 0] 169) := by
  subst hb
  go_enter Tryz.func120, Tryz.ntmps120
  go_wp2
  go_loopw [2] (fun i wr => ∃ j : Nat, k ≤ j ∧ j ≤ s.size ∧ i = .int .i64 j ∧ wr = W.alloc (.cells #[.bool (hasIn 45 s.data.toList k j), .bool (hasIn 48 s.data.toList k j), .int .i64 0, .bool false, .int .i64 0, .int .u8 0] 169) ∧ runTo flagB s.data.toList j = runTo flagB s.data.toList k) (fun i _ => s.size - (intOf i).toNat)
  case atStart => exact ⟨k, by omega, hk, rfl, by rw [hasIn_self, hasIn_self], rfl⟩
  case round =>
    obtain ⟨j, hj0, hj, rfl, rfl, hr⟩ := hrel
    have HR : Hid (runTo flagB s.data.toList j = runTo flagB s.data.toList k) := hr
    clear hr
    by_cases hl : j < s.size
    · have HG : Hid (s.data.toList[j]? = some s[j]) := get_of_lt s j hl
      have HF := hide (flagB_eq s[j])
      have H5 := hide (hasIn_step 45 HG.out hj0)
      have H8 := hide (hasIn_step 48 HG.out hj0)
      cases h45 : ((s[j].toNat : Int) == 45)
      · cases h48 : ((s[j].toNat : Int) == 48)
        · have HE : Hid (fE s.data.toList k = j) := by
            show runTo flagB s.data.toList k = j
            rw [← HR.out, runTo_stop (fun c hc => ?_)]
            rw [HG.out] at hc; cases hc; rw [HF.out, h45, h48]; rfl
          go_wp2
          go_ret
          exact ⟨ret_int (by rw [HE.out]), by unfold itLeft itZero; rw [HE.out]⟩
        · go_wp2
          go_roundw
          case rel => exact ⟨j + 1, by omega, by omega, by go_num, by rw [H5.out, H8.out, h45, h48, Bool.or_false, Bool.or_true], by rw [runTo_step HG.out (by rw [HF.out, h45, h48]; rfl)]; exact HR.out⟩
          case measure => simp [intOf]; omega
      · have h48 : ((s[j].toNat : Int) == 48) = false := by
          rw [beq_iff_eq] at h45; rw [beq_eq_false_iff_ne]; omega
        go_wp2
        go_roundw
        case rel => exact ⟨j + 1, by omega, by omega, by go_num, by rw [H5.out, H8.out, h45, h48, Bool.or_false, Bool.or_true], by rw [runTo_step HG.out (by rw [HF.out, h45]; rfl)]; exact HR.out⟩
        case measure => simp [intOf]; omega
    · have HE : Hid (fE s.data.toList k = j) := by
        show runTo flagB s.data.toList k = j
        rw [← HR.out, runTo_stop (fun c hc => ?_)]
        rw [get_none s j (by omega)] at hc; cases hc
      go_wp2
      go_ret
      exact ⟨ret_int (by rw [HE.out]), by unfold itLeft itZero; rw [HE.out]⟩
set_option maxHeartbeats 1000000 in
theorem known_any (L Z : Bool) (n : Int) (p : Bool) (q : Int) (c : Int) (w : World) :
    Calls Tryz.prog 122 #[.agg #[.bool L, .bool Z, .int .i64 n, .bool p, .int .i64 q, .int .u8 c]] w fun e w' => e = .returned (.bool (knownB c p)) ∧ w' = w.alloc (.cells #[.bool L, .bool Z, .int .i64 n, .bool p, .int .i64 q, .int .u8 c] 169) := by
  have HK : Hid (knownB c p = (c == 115 || (!p && (c == 100 || c == 120 || c == 99)))) := rfl
  cases h1 : (c == 115)
  · cases h2 : (c == 100)
    · cases h3 : (c == 120)
      · cases h4 : (c == 99)
        all_goals
          go_enter Tryz.func122, Tryz.ntmps122
          go_wp2
          go_ret
          exact ⟨ret_bool (by rw [HK.out]; simp [*]), rfl⟩
      · go_enter Tryz.func122, Tryz.ntmps122
        go_wp2
        go_ret
        exact ⟨ret_bool (by rw [HK.out]; simp [*]), rfl⟩
    · go_enter Tryz.func122, Tryz.ntmps122
      go_wp2
      go_ret
      exact ⟨ret_bool (by rw [HK.out]; simp [*]), rfl⟩
  · go_enter Tryz.func122, Tryz.ntmps122
    go_wp2
    go_ret
    exact ⟨ret_bool (by rw [HK.out]; simp [*]), rfl⟩
end Go.Proofs.YthhiofppbpgipaaGreatDoor

