import Derived.Test.YtfjgeejppacflaaGreatDoorVWalk
namespace Go.Proofs.YtfjgeejppacflaaGreatDoor
open Go.RowKit

theorem hide {p : Prop} (h : p) : Hid p := h
theorem ret3_lead {a a' b b' : Int} {c c' : Bool} (h1 : a = a') (h2 : b = b') (h3 : c = c') : Ending.returned (.tuple #[.int .i64 a, .int .i64 b, .bool c]) = .returned (.tuple #[.int .i64 a', .int .i64 b', .bool c']) := by rw [h1, h2, h3]
theorem isAt_lt (s : ByteArray) (a : Nat) (c : Int) (h : a < s.size) : isAt s.data.toList a c = ((s[a].toNat : Int) == c) := by
  unfold isAt; rw [get_of_lt s a h]
theorem isAt_ge (s : ByteArray) (a : Nat) (c : Int) (h : s.size ≤ a) : isAt s.data.toList a c = false := by
  unfold isAt; rw [get_none s a h]
theorem digB_iff (c : UInt8) : digB c = true ↔ 48 ≤ (c.toNat : Int) ∧ (c.toNat : Int) ≤ 57 := by
  unfold digB; simp; omega

set_option maxHeartbeats 1000000 in
theorem leading_minus (s : ByteArray) (w : World) (hs : s.size ≤ maxLen) (a : Nat) (HA : Hid (a = runTo blankB s.data.toList 0)) 
    (hlt : a < s.size) (h45 : ((s[a].toNat : Int) == 45) = true) :
    Calls Tryz.prog 60 #[.string s] w fun e w' => e = .returned (.tuple #[.int .i64 (leadNum s.data.toList), .int .i64 (leadEnd s.data.toList), .bool (leadOk s.data.toList)]) ∧ w' = w := by
  have hs' := hs
  unfold maxLen at hs
  have HF : Hid (leadFirst s.data.toList = a + 1) := by
    show leadFirst s.data.toList = a + 1
    unfold leadFirst; rw [← HA.out, isAt_lt s a _ hlt, h45]; rfl
  have HM : Hid (isAt s.data.toList (runTo blankB s.data.toList 0) 45 = true) := by
    show isAt s.data.toList (runTo blankB s.data.toList 0) 45 = true
    rw [← HA.out, isAt_lt s a _ hlt, h45]
  go_enter Tryz.func60, Tryz.ntmps60
  go_wp2_with (go_at_call 61; refine (skip_any s 0 _ hs' (by omega)).mono ?_; rintro e w' ⟨rfl, rfl⟩; rw [← HA.out])
  go_loop [5, 8] (fun i n => ∃ j : Nat, a + 1 ≤ j ∧ j ≤ s.size ∧ i = .int .i64 j ∧ n = .int .i64 (numTo s.data.toList (a + 1) j) ∧ runTo digB s.data.toList j = runTo digB s.data.toList (a + 1)) (fun i _ => s.size - (intOf i).toNat)
  case atStart => exact ⟨a + 1, by omega, by omega, by go_num, by rw [numTo_self], rfl⟩
  case round =>
    obtain ⟨j, hj0, hj, rfl, rfl, hr⟩ := hrel
    have HR : Hid (runTo digB s.data.toList j = runTo digB s.data.toList (a + 1)) := hr
    clear hr
    by_cases hl : j < s.size
    · have HG : Hid (s.data.toList[j]? = some s[j]) := get_of_lt s j hl
      by_cases hd : 48 ≤ (s[j].toNat : Int) ∧ (s[j].toNat : Int) ≤ 57
      · have HD : Hid (digB s[j] = true) := (digB_iff _).2 hd
        have HS : Hid (numTo s.data.toList (a + 1) (j + 1) = accD (numTo s.data.toList (a + 1) j) s[j]) := numTo_step HG.out hj0
        obtain ⟨hd1, hd2⟩ := hd
        generalize numTo s.data.toList (a + 1) j = n at *
        go_wp2
        go_round
        case rel => exact ⟨j + 1, by omega, by omega, by go_num, by rw [HS.out]; rfl, by rw [runTo_step HG.out HD.out]; exact HR.out⟩
        case measure => simp [intOf]; omega
      · have HD : Hid (digB s[j] = false) := by
          show digB s[j] = false
          cases h : digB s[j]
          · rfl
          · exact absurd ((digB_iff _).1 h) hd
        have HE : Hid (leadEnd s.data.toList = j) := by
          show leadEnd s.data.toList = j
          unfold leadEnd; rw [HF.out, ← HR.out, runTo_stop (fun c hc => ?_)]
          rw [HG.out] at hc; cases hc; exact HD.out
        by_cases hd1 : 48 ≤ (s[j].toNat : Int)
        · have hd2 : ¬ (s[j].toNat : Int) ≤ 57 := fun h => hd ⟨hd1, h⟩
          clear hd
          go_wp2
          go_ret3
          refine ⟨ret3_lead ?_ (by rw [HE.out]) ?_, rfl⟩
          · unfold leadNum; rw [HM.out]; simp only [if_true]; rw [HE.out]; rw [HF.out]
          · unfold leadOk; rw [HE.out, HF.out]; first | done | (simp <;> omega)
        · clear hd
          go_wp2
          go_ret3
          refine ⟨ret3_lead ?_ (by rw [HE.out]) ?_, rfl⟩
          · unfold leadNum; rw [HM.out]; simp only [if_true]; rw [HE.out]; rw [HF.out]
          · unfold leadOk; rw [HE.out, HF.out]; first | done | (simp <;> omega)
    · have HE : Hid (leadEnd s.data.toList = j) := by
        show leadEnd s.data.toList = j
        unfold leadEnd; rw [HF.out, ← HR.out, runTo_stop (fun c hc => ?_)]
        rw [get_none s j (by omega)] at hc; cases hc
      go_wp2
      go_ret3
      refine ⟨ret3_lead ?_ (by rw [HE.out]) ?_, rfl⟩
      · unfold leadNum; rw [HM.out]; simp only [if_true]; rw [HE.out]; rw [HF.out]
      · unfold leadOk; rw [HE.out, HF.out]; first | done | (simp <;> omega)

set_option maxHeartbeats 1000000 in
theorem leading_plus (s : ByteArray) (w : World) (hs : s.size ≤ maxLen) (a : Nat) (HA : Hid (a = runTo blankB s.data.toList 0)) 
    (hlt : a < s.size) (h45 : ((s[a].toNat : Int) == 45) = false) (h43 : ((s[a].toNat : Int) == 43) = true) :
    Calls Tryz.prog 60 #[.string s] w fun e w' => e = .returned (.tuple #[.int .i64 (leadNum s.data.toList), .int .i64 (leadEnd s.data.toList), .bool (leadOk s.data.toList)]) ∧ w' = w := by
  have hs' := hs
  unfold maxLen at hs
  have HF : Hid (leadFirst s.data.toList = a + 1) := by
    show leadFirst s.data.toList = a + 1
    unfold leadFirst; rw [← HA.out, isAt_lt s a _ hlt, isAt_lt s a _ hlt, h45, h43]; rfl
  have HM : Hid (isAt s.data.toList (runTo blankB s.data.toList 0) 45 = false) := by
    show isAt s.data.toList (runTo blankB s.data.toList 0) 45 = false
    rw [← HA.out, isAt_lt s a _ hlt, h45]
  go_enter Tryz.func60, Tryz.ntmps60
  go_wp2_with (go_at_call 61; refine (skip_any s 0 _ hs' (by omega)).mono ?_; rintro e w' ⟨rfl, rfl⟩; rw [← HA.out])
  go_loop [5, 8] (fun i n => ∃ j : Nat, a + 1 ≤ j ∧ j ≤ s.size ∧ i = .int .i64 j ∧ n = .int .i64 (numTo s.data.toList (a + 1) j) ∧ runTo digB s.data.toList j = runTo digB s.data.toList (a + 1)) (fun i _ => s.size - (intOf i).toNat)
  case atStart => exact ⟨a + 1, by omega, by omega, by go_num, by rw [numTo_self], rfl⟩
  case round =>
    obtain ⟨j, hj0, hj, rfl, rfl, hr⟩ := hrel
    have HR : Hid (runTo digB s.data.toList j = runTo digB s.data.toList (a + 1)) := hr
    clear hr
    by_cases hl : j < s.size
    · have HG : Hid (s.data.toList[j]? = some s[j]) := get_of_lt s j hl
      by_cases hd : 48 ≤ (s[j].toNat : Int) ∧ (s[j].toNat : Int) ≤ 57
      · have HD : Hid (digB s[j] = true) := (digB_iff _).2 hd
        have HS : Hid (numTo s.data.toList (a + 1) (j + 1) = accD (numTo s.data.toList (a + 1) j) s[j]) := numTo_step HG.out hj0
        obtain ⟨hd1, hd2⟩ := hd
        generalize numTo s.data.toList (a + 1) j = n at *
        go_wp2
        go_round
        case rel => exact ⟨j + 1, by omega, by omega, by go_num, by rw [HS.out]; rfl, by rw [runTo_step HG.out HD.out]; exact HR.out⟩
        case measure => simp [intOf]; omega
      · have HD : Hid (digB s[j] = false) := by
          show digB s[j] = false
          cases h : digB s[j]
          · rfl
          · exact absurd ((digB_iff _).1 h) hd
        have HE : Hid (leadEnd s.data.toList = j) := by
          show leadEnd s.data.toList = j
          unfold leadEnd; rw [HF.out, ← HR.out, runTo_stop (fun c hc => ?_)]
          rw [HG.out] at hc; cases hc; exact HD.out
        by_cases hd1 : 48 ≤ (s[j].toNat : Int)
        · have hd2 : ¬ (s[j].toNat : Int) ≤ 57 := fun h => hd ⟨hd1, h⟩
          clear hd
          go_wp2
          go_ret3
          refine ⟨ret3_lead ?_ (by rw [HE.out]) ?_, rfl⟩
          · unfold leadNum; rw [HM.out]; simp only [Bool.false_eq_true, if_false]; rw [HE.out]; rw [HF.out]
          · unfold leadOk; rw [HE.out, HF.out]; first | done | (simp <;> omega)
        · clear hd
          go_wp2
          go_ret3
          refine ⟨ret3_lead ?_ (by rw [HE.out]) ?_, rfl⟩
          · unfold leadNum; rw [HM.out]; simp only [Bool.false_eq_true, if_false]; rw [HE.out]; rw [HF.out]
          · unfold leadOk; rw [HE.out, HF.out]; first | done | (simp <;> omega)
    · have HE : Hid (leadEnd s.data.toList = j) := by
        show leadEnd s.data.toList = j
        unfold leadEnd; rw [HF.out, ← HR.out, runTo_stop (fun c hc => ?_)]
        rw [get_none s j (by omega)] at hc; cases hc
      go_wp2
      go_ret3
      refine ⟨ret3_lead ?_ (by rw [HE.out]) ?_, rfl⟩
      · unfold leadNum; rw [HM.out]; simp only [Bool.false_eq_true, if_false]; rw [HE.out]; rw [HF.out]
      · unfold leadOk; rw [HE.out, HF.out]; first | done | (simp <;> omega)

set_option maxHeartbeats 1000000 in
theorem leading_none (s : ByteArray) (w : World) (hs : s.size ≤ maxLen) (a : Nat) (HA : Hid (a = runTo blankB s.data.toList 0)) 
    (hlt : a < s.size) (h45 : ((s[a].toNat : Int) == 45) = false) (h43 : ((s[a].toNat : Int) == 43) = false) :
    Calls Tryz.prog 60 #[.string s] w fun e w' => e = .returned (.tuple #[.int .i64 (leadNum s.data.toList), .int .i64 (leadEnd s.data.toList), .bool (leadOk s.data.toList)]) ∧ w' = w := by
  have hs' := hs
  unfold maxLen at hs
  have HF : Hid (leadFirst s.data.toList = a) := by
    show leadFirst s.data.toList = a
    unfold leadFirst; rw [← HA.out, isAt_lt s a _ hlt, isAt_lt s a _ hlt, h45, h43]; rfl
  have HM : Hid (isAt s.data.toList (runTo blankB s.data.toList 0) 45 = false) := by
    show isAt s.data.toList (runTo blankB s.data.toList 0) 45 = false
    rw [← HA.out, isAt_lt s a _ hlt, h45]
  go_enter Tryz.func60, Tryz.ntmps60
  go_wp2_with (go_at_call 61; refine (skip_any s 0 _ hs' (by omega)).mono ?_; rintro e w' ⟨rfl, rfl⟩; rw [← HA.out])
  go_loop [5, 8] (fun i n => ∃ j : Nat, a ≤ j ∧ j ≤ s.size ∧ i = .int .i64 j ∧ n = .int .i64 (numTo s.data.toList (a) j) ∧ runTo digB s.data.toList j = runTo digB s.data.toList (a)) (fun i _ => s.size - (intOf i).toNat)
  case atStart => exact ⟨a, by omega, by omega, by go_num, by rw [numTo_self], rfl⟩
  case round =>
    obtain ⟨j, hj0, hj, rfl, rfl, hr⟩ := hrel
    have HR : Hid (runTo digB s.data.toList j = runTo digB s.data.toList (a)) := hr
    clear hr
    by_cases hl : j < s.size
    · have HG : Hid (s.data.toList[j]? = some s[j]) := get_of_lt s j hl
      by_cases hd : 48 ≤ (s[j].toNat : Int) ∧ (s[j].toNat : Int) ≤ 57
      · have HD : Hid (digB s[j] = true) := (digB_iff _).2 hd
        have HS : Hid (numTo s.data.toList (a) (j + 1) = accD (numTo s.data.toList (a) j) s[j]) := numTo_step HG.out hj0
        obtain ⟨hd1, hd2⟩ := hd
        generalize numTo s.data.toList (a) j = n at *
        go_wp2
        go_round
        case rel => exact ⟨j + 1, by omega, by omega, by go_num, by rw [HS.out]; rfl, by rw [runTo_step HG.out HD.out]; exact HR.out⟩
        case measure => simp [intOf]; omega
      · have HD : Hid (digB s[j] = false) := by
          show digB s[j] = false
          cases h : digB s[j]
          · rfl
          · exact absurd ((digB_iff _).1 h) hd
        have HE : Hid (leadEnd s.data.toList = j) := by
          show leadEnd s.data.toList = j
          unfold leadEnd; rw [HF.out, ← HR.out, runTo_stop (fun c hc => ?_)]
          rw [HG.out] at hc; cases hc; exact HD.out
        by_cases hd1 : 48 ≤ (s[j].toNat : Int)
        · have hd2 : ¬ (s[j].toNat : Int) ≤ 57 := fun h => hd ⟨hd1, h⟩
          clear hd
          go_wp2
          go_ret3
          refine ⟨ret3_lead ?_ (by rw [HE.out]) ?_, rfl⟩
          · unfold leadNum; rw [HM.out]; simp only [Bool.false_eq_true, if_false]; rw [HE.out]; rw [HF.out]
          · unfold leadOk; rw [HE.out, HF.out]; first | done | (simp <;> omega)
        · clear hd
          go_wp2
          go_ret3
          refine ⟨ret3_lead ?_ (by rw [HE.out]) ?_, rfl⟩
          · unfold leadNum; rw [HM.out]; simp only [Bool.false_eq_true, if_false]; rw [HE.out]; rw [HF.out]
          · unfold leadOk; rw [HE.out, HF.out]; first | done | (simp <;> omega)
    · have HE : Hid (leadEnd s.data.toList = j) := by
        show leadEnd s.data.toList = j
        unfold leadEnd; rw [HF.out, ← HR.out, runTo_stop (fun c hc => ?_)]
        rw [get_none s j (by omega)] at hc; cases hc
      go_wp2
      go_ret3
      refine ⟨ret3_lead ?_ (by rw [HE.out]) ?_, rfl⟩
      · unfold leadNum; rw [HM.out]; simp only [Bool.false_eq_true, if_false]; rw [HE.out]; rw [HF.out]
      · unfold leadOk; rw [HE.out, HF.out]; first | done | (simp <;> omega)

set_option maxHeartbeats 1000000 in
theorem leading_end (s : ByteArray) (w : World) (hs : s.size ≤ maxLen) (a : Nat) (HA : Hid (a = runTo blankB s.data.toList 0)) (ha2 : a ≤ s.size)
    (hlt : ¬ a < s.size) :
    Calls Tryz.prog 60 #[.string s] w fun e w' => e = .returned (.tuple #[.int .i64 (leadNum s.data.toList), .int .i64 (leadEnd s.data.toList), .bool (leadOk s.data.toList)]) ∧ w' = w := by
  have hs' := hs
  unfold maxLen at hs
  have HF : Hid (leadFirst s.data.toList = a) := by
    show leadFirst s.data.toList = a
    unfold leadFirst; rw [← HA.out, isAt_ge s a _ (by omega), isAt_ge s a _ (by omega)]; rfl
  have HM : Hid (isAt s.data.toList (runTo blankB s.data.toList 0) 45 = false) := by
    show isAt s.data.toList (runTo blankB s.data.toList 0) 45 = false
    rw [← HA.out, isAt_ge s a _ (by omega)]
  go_enter Tryz.func60, Tryz.ntmps60
  go_wp2_with (go_at_call 61; refine (skip_any s 0 _ hs' (by omega)).mono ?_; rintro e w' ⟨rfl, rfl⟩; rw [← HA.out])
  go_loop [5, 8] (fun i n => ∃ j : Nat, a ≤ j ∧ j ≤ s.size ∧ i = .int .i64 j ∧ n = .int .i64 (numTo s.data.toList (a) j) ∧ runTo digB s.data.toList j = runTo digB s.data.toList (a)) (fun i _ => s.size - (intOf i).toNat)
  case atStart => exact ⟨a, by omega, by omega, by go_num, by rw [numTo_self], rfl⟩
  case round =>
    obtain ⟨j, hj0, hj, rfl, rfl, hr⟩ := hrel
    have HR : Hid (runTo digB s.data.toList j = runTo digB s.data.toList (a)) := hr
    clear hr
    by_cases hl : j < s.size
    · exfalso; omega
    · have HE : Hid (leadEnd s.data.toList = j) := by
        show leadEnd s.data.toList = j
        unfold leadEnd; rw [HF.out, ← HR.out, runTo_stop (fun c hc => ?_)]
        rw [get_none s j (by omega)] at hc; cases hc
      go_wp2
      go_ret3
      refine ⟨ret3_lead ?_ (by rw [HE.out]) ?_, rfl⟩
      · unfold leadNum; rw [HM.out]; simp only [Bool.false_eq_true, if_false]; rw [HE.out]; rw [HF.out]
      · unfold leadOk; rw [HE.out, HF.out]; first | done | (simp <;> omega)

theorem leading_any (s : ByteArray) (w : World) (hs : s.size ≤ maxLen) :
    Calls Tryz.prog 60 #[.string s] w fun e w' => e = .returned (.tuple #[.int .i64 (leadNum s.data.toList), .int .i64 (leadEnd s.data.toList), .bool (leadOk s.data.toList)]) ∧ w' = w := by
  have ha2 : runTo blankB s.data.toList 0 ≤ s.size := by rw [← len_eq]; exact runTo_le (by omega)
  by_cases hlt : runTo blankB s.data.toList 0 < s.size
  · cases h45 : ((s[runTo blankB s.data.toList 0].toNat : Int) == 45)
    · cases h43 : ((s[runTo blankB s.data.toList 0].toNat : Int) == 43)
      · exact leading_none s w hs _ (hide rfl) hlt h45 h43
      · exact leading_plus s w hs _ (hide rfl) hlt h45 h43
    · exact leading_minus s w hs _ (hide rfl) hlt h45
  · exact leading_end s w hs _ (hide rfl) ha2 hlt
end Go.Proofs.YtfjgeejppacflaaGreatDoor
