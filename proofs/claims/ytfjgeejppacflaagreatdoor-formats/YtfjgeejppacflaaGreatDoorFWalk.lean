import Derived.Test.YtfjgeejppacflaaGreatDoorFPlain
import Derived.Test.YtfjgeejppacflaaGreatDoorVWalkE
namespace Go.Proofs.YtfjgeejppacflaaGreatDoor
open Go.RowKit

set_option maxHeartbeats 400000 in
theorem layDigit_any (c : UInt8) (w : World) :
    Calls Tryz.prog 168 #[.int .u8 c.toNat] w fun e w' => e = .returned (.bool (digB c)) ∧ w' = w := by
  have HD : Hid (digB c = (decide (48 ≤ (c.toNat : Int)) && decide ((c.toNat : Int) ≤ 57))) := by
    show digB c = (decide (48 ≤ (c.toNat : Int)) && decide ((c.toNat : Int) ≤ 57))
    rw [Bool.eq_iff_iff, digB_iff]; simp
  go_enter Tryz.func168, Tryz.ntmps168
  go_wp2
  all_goals
    go_ret
    exact ⟨ret_bool (by rw [HD.out] <;> simp [*] <;> omega), rfl⟩
theorem digAt_of_lt (s : ByteArray) (k : Nat) (h : k < s.size) : digAt s.data.toList k = digB s[k] := by unfold digAt; rw [get_of_lt s k h]
theorem digAt_of_ge (s : ByteArray) (k : Nat) (h : s.size ≤ k) : digAt s.data.toList k = false := by unfold digAt; rw [get_none s k h]
theorem numN_succ (s : ByteArray) (k m : Nat) (h : k + m < s.size) : numN s.data.toList k (m + 1) = numN s.data.toList k m * 10 + (s[k + m].toNat - 48) := by
  show numN s.data.toList k m * 10 + ((s.data.toList[k + m]?.getD 0).toNat - 48) = _
  rw [get_of_lt s (k + m) h]; rfl

set_option maxHeartbeats 1000000 in
theorem layDigits_a (s : ByteArray) (k : Nat) (w : World) (hs : s.size ≤ 65536) (hk : k ≤ s.size) (h2 : k + 2 ≤ s.size) :
    Calls Tryz.prog 110 #[.string s, .int .i64 k] w fun e w' => e = .returned (.tuple #[.int .i64 (numN s.data.toList k (d2m s.data.toList k)), .int .i64 ((k + d2m s.data.toList k : Nat))]) ∧ w' = w := by
  go_enter Tryz.func110, Tryz.ntmps110
  go_wp2
  go_loop [1, 6] (fun i n => ∃ m : Nat, m ≤ 2 ∧ k + m ≤ s.size ∧ i = .int .i64 ((k + m : Nat)) ∧ n = .int .i64 (numN s.data.toList k m) ∧ ∀ r, r < m → digAt s.data.toList (k + r) = true) (fun i _ => s.size + 2 - (intOf i).toNat)
  case atStart => exact ⟨0, by omega, by omega, by go_num, rfl, fun r hr => by omega⟩
  case round =>
    obtain ⟨m, hm, hj, rfl, rfl, hd⟩ := hrel
    have HA : Hid (∀ r, r < m → digAt s.data.toList (k + r) = true) := hd
    have hb := numN_lt s.data.toList k m hm hd
    clear hd
    by_cases hl : k + m < s.size ∧ m < 2
    · obtain ⟨hl1, hl2⟩ := hl
      have hb2 := hb.2 (by omega)
      cases hd : digB s[k + m]
      · have HD : Hid (digB s[k + m] = false) := hd
        clear hd
        have HM : Hid (d2m s.data.toList k = m) := d2m_eq hm HA.out (Or.inr (by rw [digAt_of_lt s _ hl1]; exact HD.out))
        go_wp2_with (go_at_call 168; refine (layDigit_any _ _).mono ?_; rintro e w' ⟨rfl, rfl⟩; rw [HD.out])
        go_ret2
        exact ⟨ret2_int (by rw [HM.out]) (by rw [HM.out] <;> omega), rfl⟩
      · have HD : Hid (digB s[k + m] = true) := hd
        obtain ⟨hd1, hd2⟩ := (digB_iff _).1 hd
        clear hd
        have HS := hide (numN_succ s k m hl1)
        have HX : Hid (∀ r, r < m + 1 → digAt s.data.toList (k + r) = true) := by
          intro r hr
          by_cases h : r < m
          · exact HA.out r h
          · rw [show r = m by omega, digAt_of_lt s _ hl1]; exact HD.out
        generalize numN s.data.toList k m = n at *
        go_wp2_with (go_at_call 168; refine (layDigit_any _ _).mono ?_; rintro e w' ⟨rfl, rfl⟩; rw [HD.out])
        go_round
        case rel => exact ⟨m + 1, by omega, by omega, by go_num, by rw [HS.out]; congr 1; omega, HX.out⟩
        case measure => simp [intOf]; omega
    · have HM : Hid (d2m s.data.toList k = m) := d2m_eq hm HA.out (by
        by_cases h2 : m = 2
        · exact Or.inl h2
        · exact Or.inr (digAt_of_ge s _ (by omega)))
      go_wp2
      go_ret2
      exact ⟨ret2_int (by rw [HM.out]) (by rw [HM.out] <;> omega), rfl⟩

set_option maxHeartbeats 1000000 in
theorem layDigits_b (s : ByteArray) (k : Nat) (w : World) (hs : s.size ≤ 65536) (hk : k ≤ s.size) (h2 : s.size < k + 2) :
    Calls Tryz.prog 110 #[.string s, .int .i64 k] w fun e w' => e = .returned (.tuple #[.int .i64 (numN s.data.toList k (d2m s.data.toList k)), .int .i64 ((k + d2m s.data.toList k : Nat))]) ∧ w' = w := by
  go_enter Tryz.func110, Tryz.ntmps110
  go_wp2
  go_loop [1, 6] (fun i n => ∃ m : Nat, m ≤ 2 ∧ k + m ≤ s.size ∧ i = .int .i64 ((k + m : Nat)) ∧ n = .int .i64 (numN s.data.toList k m) ∧ ∀ r, r < m → digAt s.data.toList (k + r) = true) (fun i _ => s.size + 2 - (intOf i).toNat)
  case atStart => exact ⟨0, by omega, by omega, by go_num, rfl, fun r hr => by omega⟩
  case round =>
    obtain ⟨m, hm, hj, rfl, rfl, hd⟩ := hrel
    have HA : Hid (∀ r, r < m → digAt s.data.toList (k + r) = true) := hd
    have hb := numN_lt s.data.toList k m hm hd
    clear hd
    by_cases hl : k + m < s.size ∧ m < 2
    · obtain ⟨hl1, hl2⟩ := hl
      have hb2 := hb.2 (by omega)
      cases hd : digB s[k + m]
      · have HD : Hid (digB s[k + m] = false) := hd
        clear hd
        have HM : Hid (d2m s.data.toList k = m) := d2m_eq hm HA.out (Or.inr (by rw [digAt_of_lt s _ hl1]; exact HD.out))
        go_wp2_with (go_at_call 168; refine (layDigit_any _ _).mono ?_; rintro e w' ⟨rfl, rfl⟩; rw [HD.out])
        go_ret2
        exact ⟨ret2_int (by rw [HM.out]) (by rw [HM.out] <;> omega), rfl⟩
      · have HD : Hid (digB s[k + m] = true) := hd
        obtain ⟨hd1, hd2⟩ := (digB_iff _).1 hd
        clear hd
        have HS := hide (numN_succ s k m hl1)
        have HX : Hid (∀ r, r < m + 1 → digAt s.data.toList (k + r) = true) := by
          intro r hr
          by_cases h : r < m
          · exact HA.out r h
          · rw [show r = m by omega, digAt_of_lt s _ hl1]; exact HD.out
        generalize numN s.data.toList k m = n at *
        go_wp2_with (go_at_call 168; refine (layDigit_any _ _).mono ?_; rintro e w' ⟨rfl, rfl⟩; rw [HD.out])
        go_round
        case rel => exact ⟨m + 1, by omega, by omega, by go_num, by rw [HS.out]; congr 1; omega, HX.out⟩
        case measure => simp [intOf]; omega
    · have HM : Hid (d2m s.data.toList k = m) := d2m_eq hm HA.out (by
        by_cases h2 : m = 2
        · exact Or.inl h2
        · exact Or.inr (digAt_of_ge s _ (by omega)))
      go_wp2
      go_ret2
      exact ⟨ret2_int (by rw [HM.out]) (by rw [HM.out] <;> omega), rfl⟩

set_option maxHeartbeats 1000000 in
theorem refDigits_any (s : ByteArray) (k : Nat) (w : World) (hs : s.size ≤ 65536) (hk : k ≤ s.size) :
    Calls Tryz.prog 121 #[.string s, .int .i64 k] w fun e w' => e = .returned (.tuple #[.int .i64 (numN s.data.toList k (d2m s.data.toList k)), .int .i64 ((k + d2m s.data.toList k : Nat))]) ∧ w' = w := by
  go_enter Tryz.func121, Tryz.ntmps121
  go_wp2
  go_loop [1, 6, 7] (fun i n c => ∃ m : Nat, m ≤ 2 ∧ k + m ≤ s.size ∧ i = .int .i64 ((k + m : Nat)) ∧ n = .int .i64 (numN s.data.toList k m) ∧ c = .int .i64 m ∧ ∀ r, r < m → digAt s.data.toList (k + r) = true) (fun i _ _ => s.size + 2 - (intOf i).toNat)
  case atStart => exact ⟨0, by omega, by omega, by go_num, rfl, rfl, fun r hr => by omega⟩
  case round =>
    obtain ⟨m, hm, hj, rfl, rfl, rfl, hd⟩ := hrel
    have HA : Hid (∀ r, r < m → digAt s.data.toList (k + r) = true) := hd
    have hb := numN_lt s.data.toList k m hm hd
    clear hd
    by_cases hl : k + m < s.size ∧ m < 2
    · obtain ⟨hl1, hl2⟩ := hl
      have hb2 := hb.2 (by omega)
      cases hd : digB s[k + m]
      · have HD : Hid (digB s[k + m] = false) := hd
        clear hd
        have HM : Hid (d2m s.data.toList k = m) := d2m_eq hm HA.out (Or.inr (by rw [digAt_of_lt s _ hl1]; exact HD.out))
        go_wp2_with (go_at_call 120; refine (refDigit_any _ _).mono ?_; rintro e w' ⟨rfl, rfl⟩; rw [HD.out])
        go_ret2
        exact ⟨ret2_int (by rw [HM.out]) (by rw [HM.out] <;> omega), rfl⟩
      · have HD : Hid (digB s[k + m] = true) := hd
        obtain ⟨hd1, hd2⟩ := (digB_iff _).1 hd
        clear hd
        have HS := hide (numN_succ s k m hl1)
        have HX : Hid (∀ r, r < m + 1 → digAt s.data.toList (k + r) = true) := by
          intro r hr
          by_cases h : r < m
          · exact HA.out r h
          · rw [show r = m by omega, digAt_of_lt s _ hl1]; exact HD.out
        generalize numN s.data.toList k m = n at *
        go_wp2_with (go_at_call 120; refine (refDigit_any _ _).mono ?_; rintro e w' ⟨rfl, rfl⟩; rw [HD.out])
        go_round
        case rel => exact ⟨m + 1, by omega, by omega, by go_num, by rw [HS.out]; congr 1; omega, by go_num, HX.out⟩
        case measure => simp [intOf]; omega
    · have HM : Hid (d2m s.data.toList k = m) := d2m_eq hm HA.out (by
        by_cases h2 : m = 2
        · exact Or.inl h2
        · exact Or.inr (digAt_of_ge s _ (by omega)))
      by_cases hm2 : m < 2
      · go_wp2
        go_ret2
        exact ⟨ret2_int (by rw [HM.out]) (by rw [HM.out] <;> omega), rfl⟩
      · go_wp2
        go_ret2
        exact ⟨ret2_int (by rw [HM.out]) (by rw [HM.out] <;> omega), rfl⟩

theorem layDigits_any (s : ByteArray) (k : Nat) (w : World) (hs : s.size ≤ 65536) (hk : k ≤ s.size) :
    Calls Tryz.prog 110 #[.string s, .int .i64 k] w fun e w' => e = .returned (.tuple #[.int .i64 (numN s.data.toList k (d2m s.data.toList k)), .int .i64 ((k + d2m s.data.toList k : Nat))]) ∧ w' = w := by
  by_cases h2 : k + 2 ≤ s.size
  · exact layDigits_a s k w hs hk h2
  · exact layDigits_b s k w hs hk (by omega)
end Go.Proofs.YtfjgeejppacflaaGreatDoor
