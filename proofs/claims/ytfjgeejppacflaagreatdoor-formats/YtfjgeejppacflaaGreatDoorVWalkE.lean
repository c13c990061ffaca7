import Derived.Test.YtfjgeejppacflaaGreatDoorVWalkD
namespace Go.Proofs.YtfjgeejppacflaaGreatDoor
open Go.RowKit

theorem spEnd_pos {l : List UInt8} (h : leadOk l = true) : 0 < spEnd l := by
  rw [spEnd_yes h]; simp [leadOk] at h; omega
theorem spEnd_le (l : List UInt8) : spEnd l ≤ l.length := by
  unfold spEnd; split
  · exact leadEnd_le l
  · omega
set_option maxHeartbeats 1000000 in
theorem refRead_no (s : ByteArray) (w : World) (hs : s.size ≤ maxLen) (hn : leadOk s.data.toList = false) :
    Calls Tryz.prog 34 #[.string s] w fun e w' => e = .returned (.agg #[.int .u8 115, .int .i64 0, .string s]) ∧ Below w.heap.size w w' := by
  have hz : ((spEnd s.data.toList : Int) == 0) = true := by rw [spEnd_no hn]; rfl
  clear hn
  go_enter Tryz.func34, Tryz.ntmps34
  go_wp2_with (first | (go_at_call 67; refine (spelled_any s _ hs).mono ?_; rintro e w' ⟨rfl, rfl⟩))
  exact bodyPost_ret (v := .agg #[.int .u8 115, .int .i64 0, .string s]) (by simp [results, Tryz.results34, go_sem]) rfl ⟨rfl, (Below.refl _ _).alloc (Nat.le_refl _) _⟩
def readVal (nb : Bool) (n : Int) (s : ByteArray) : Value := if nb then .agg #[.int .u8 109, .int .i64 n, .string s] else .agg #[.int .u8 115, .int .i64 0, .string s]
set_option maxHeartbeats 1000000 in
theorem refRead_yes (s : ByteArray) (w : World) (hs : s.size ≤ maxLen) (hn : leadOk s.data.toList = true) :
    Calls Tryz.prog 34 #[.string s] w fun e w' => e = .returned (readVal (numeralB s.data.toList) (leadNum s.data.toList) s) ∧ Below w.heap.size w w' := by
  have hs' := hs
  unfold maxLen at hs
  have hz : ((spEnd s.data.toList : Int) == 0) = false := by have := spEnd_pos hn; rw [beq_eq_false_iff_ne]; omega
  have HN : Hid (numeralB s.data.toList = decide (runTo blankB s.data.toList (spEnd s.data.toList) = s.size)) := by
    show numeralB s.data.toList = decide (runTo blankB s.data.toList (spEnd s.data.toList) = s.size)
    unfold numeralB; rw [hn, spEnd_yes hn, len_eq]; simp
  clear hn
  have hle := spEnd_le s.data.toList
  rw [len_eq] at hle
  generalize numeralB s.data.toList = nb at *
  go_enter Tryz.func34, Tryz.ntmps34
  go_wp2_with (first | (go_at_call 67; refine (spelled_any s _ hs').mono ?_; rintro e w' ⟨rfl, rfl⟩))
  go_loop [4] (fun i => ∃ j : Nat, j ≤ s.size ∧ i = .int .i64 j ∧ runTo blankB s.data.toList j = runTo blankB s.data.toList (spEnd s.data.toList)) (fun i => s.size - (intOf i).toNat)
  case atStart => exact ⟨_, hle, rfl, rfl⟩
  case round =>
    obtain ⟨j, hj, rfl, hr⟩ := hrel
    have HR : Hid (runTo blankB s.data.toList j = runTo blankB s.data.toList (spEnd s.data.toList)) := hr
    clear hr
    by_cases hlt : j < s.size
    · have HG : Hid (s.data.toList[j]? = some s[j]) := get_of_lt s j hlt
      cases hb : blankB s[j]
      · have HB : Hid (blankB s[j] = false) := hb
        clear hb
        have HF : Hid (nb = false) := by
          show nb = false
          rw [HN.out, ← HR.out, runTo_stop (fun c hc => ?_)]
          · simp; omega
          · rw [HG.out] at hc; cases hc; exact HB.out
        go_wp2_with (go_at_call 68; refine (refBlank_any _ _).mono ?_; rintro e w' ⟨rfl, rfl⟩; rw [HB.out])
        exact bodyPost_ret (v := .agg #[.int .u8 115, .int .i64 0, .string s]) (by simp [results, Tryz.results34, go_sem]) rfl ⟨by rw [HF.out]; rfl, (Below.refl _ _).alloc (Nat.le_refl _) _⟩
      · have HB : Hid (blankB s[j] = true) := hb
        clear hb
        go_wp2_with (go_at_call 68; refine (refBlank_any _ _).mono ?_; rintro e w' ⟨rfl, rfl⟩; rw [HB.out])
        go_round
        case rel => exact ⟨j + 1, by omega, by go_num, by rw [runTo_step HG.out HB.out]; exact HR.out⟩
        case measure => simp [intOf]; omega
    · have HF : Hid (nb = true) := by
        show nb = true
        rw [HN.out, ← HR.out, runTo_stop (fun c hc => ?_)]
        · simp; omega
        · rw [get_none s j (by omega)] at hc; cases hc
      go_wp2
      exact bodyPost_ret (v := .agg #[.int .u8 109, .int .i64 (leadNum s.data.toList), .string s]) (by simp [results, Tryz.results34, go_sem]) rfl ⟨by rw [HF.out]; rfl, (Below.refl _ _).alloc (Nat.le_refl _) _⟩
theorem refRead_num (s : ByteArray) (w : World) (hs : s.size ≤ maxLen) (hn : numeralB s.data.toList = true) :
    Calls Tryz.prog 34 #[.string s] w fun e w' => e = .returned (.agg #[.int .u8 109, .int .i64 (leadNum s.data.toList), .string s]) ∧ Below w.heap.size w w' := by
  have h := refRead_yes s w hs (by simp [numeralB] at hn; exact hn.1)
  rw [hn] at h; exact h
theorem refRead_text (s : ByteArray) (w : World) (hs : s.size ≤ maxLen) (hn : numeralB s.data.toList = false) :
    Calls Tryz.prog 34 #[.string s] w fun e w' => e = .returned (.agg #[.int .u8 115, .int .i64 0, .string s]) ∧ Below w.heap.size w w' := by
  cases h1 : leadOk s.data.toList
  · exact refRead_no s w hs h1
  · have h := refRead_yes s w hs h1
    rw [hn] at h; exact h
set_option maxHeartbeats 400000 in
theorem refNum_text (n : Int) (s : ByteArray) (w : World) (hs : s.size ≤ maxLen) :
    Calls Tryz.prog 90 #[.agg #[.int .u8 115, .int .i64 n, .string s]] w fun e w' => e = .returned (.int .i64 (leadNum s.data.toList)) ∧ Below w.heap.size w w' := by
  go_enter Tryz.func90, Tryz.ntmps90
  go_wp2_with (first | (go_at_call 67; refine (spelled_any s _ hs).mono ?_; rintro e w' ⟨rfl, rfl⟩))
  go_ret
  exact ⟨rfl, (Below.refl _ _).alloc (Nat.le_refl _) _⟩
set_option maxHeartbeats 400000 in
theorem refNum_else (k n : Int) (s : ByteArray) (w : World) (hk : (k == 115) = false) :
    Calls Tryz.prog 90 #[.agg #[.int .u8 k, .int .i64 n, .string s]] w fun e w' => e = .returned (.int .i64 n) ∧ Below w.heap.size w w' := by
  go_enter Tryz.func90, Tryz.ntmps90
  go_wp2
  go_ret
  exact ⟨rfl, (Below.refl _ _).alloc (Nat.le_refl _) _⟩
set_option maxHeartbeats 400000 in
theorem refText_any (k n : Int) (s : ByteArray) (w : World) (hk : (k == 110) = false) :
    Calls Tryz.prog 122 #[.agg #[.int .u8 k, .int .i64 n, .string s]] w fun e w' => e = .returned (.string s) ∧ Below w.heap.size w w' := by
  go_enter Tryz.func122, Tryz.ntmps122
  go_wp2
  go_ret
  exact ⟨rfl, (Below.refl _ _).alloc (Nat.le_refl _) _⟩
end Go.Proofs.YtfjgeejppacflaaGreatDoor
