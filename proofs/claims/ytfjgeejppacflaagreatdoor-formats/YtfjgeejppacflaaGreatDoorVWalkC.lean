import Derived.Test.YtfjgeejppacflaaGreatDoorVWalkB
namespace Go.Proofs.YtfjgeejppacflaaGreatDoor
open Go.RowKit

set_option maxHeartbeats 400000 in
theorem read_num (s : ByteArray) (w : World) (hs : s.size ≤ maxLen) (hn : numeralB s.data.toList = true) :
    Calls Tryz.prog 31 #[.string s] w fun e w' => e = .returned (.agg #[.int .i64 2, .int .i64 (leadNum s.data.toList), .string s]) ∧ Below w.heap.size w w' := by
  have hs' := hs
  unfold maxLen at hs
  simp only [numeralB, Bool.and_eq_true, decide_eq_true_eq] at hn
  obtain ⟨h1, h2⟩ := hn
  have H1 : Hid (leadOk s.data.toList = true) := h1
  have H2 : Hid (runTo blankB s.data.toList (leadEnd s.data.toList) = s.size) := by rw [len_eq] at h2; exact h2
  clear h1 h2
  have hle := leadEnd_le s.data.toList
  rw [len_eq] at hle
  go_enter Tryz.func31, Tryz.ntmps31
  go_wp2_with (first | (go_at_call 60; refine (leading_any s _ hs').mono ?_; rintro e w' ⟨rfl, rfl⟩; rw [H1.out]) | (go_at_call 61; refine (skip_any s _ _ hs' hle).mono ?_; rintro e w' ⟨rfl, rfl⟩; rw [H2.out]))
  exact bodyPost_ret (v := .agg #[.int .i64 2, .int .i64 (leadNum s.data.toList), .string s]) (by simp [results, Tryz.results31, go_sem]) rfl ⟨rfl, (Below.refl _ _).alloc (Nat.le_refl _) _⟩
set_option maxHeartbeats 400000 in
theorem read_text (s : ByteArray) (w : World) (hs : s.size ≤ maxLen) (hn : numeralB s.data.toList = false) :
    Calls Tryz.prog 31 #[.string s] w fun e w' => e = .returned (.agg #[.int .i64 1, .int .i64 0, .string s]) ∧ Below w.heap.size w w' := by
  have hs' := hs
  unfold maxLen at hs
  have hle := leadEnd_le s.data.toList
  rw [len_eq] at hle
  cases h1 : leadOk s.data.toList
  · have H1 := hide h1
    clear h1
    go_enter Tryz.func31, Tryz.ntmps31
    go_wp2_with (first | (go_at_call 60; refine (leading_any s _ hs').mono ?_; rintro e w' ⟨rfl, rfl⟩; rw [H1.out]))
    exact bodyPost_ret (v := .agg #[.int .i64 1, .int .i64 0, .string s]) (by simp [results, Tryz.results31, go_sem]) rfl ⟨rfl, (Below.refl _ _).alloc (Nat.le_refl _) _⟩
  · simp [numeralB, h1] at hn
    have H1 := hide h1
    clear h1
    have h2 : ((runTo blankB s.data.toList (leadEnd s.data.toList) : Int) == s.size) = false := by
      rw [beq_eq_false_iff_ne]; omega
    clear hn
    go_enter Tryz.func31, Tryz.ntmps31
    go_wp2_with (first | (go_at_call 60; refine (leading_any s _ hs').mono ?_; rintro e w' ⟨rfl, rfl⟩; rw [H1.out]) | (go_at_call 61; refine (skip_any s _ _ hs' hle).mono ?_; rintro e w' ⟨rfl, rfl⟩))
    exact bodyPost_ret (v := .agg #[.int .i64 1, .int .i64 0, .string s]) (by simp [results, Tryz.results31, go_sem]) rfl ⟨rfl, (Below.refl _ _).alloc (Nat.le_refl _) _⟩
-- A value of package value: nothing (0), a text (1), a numeral (2).
set_option maxHeartbeats 400000 in
theorem number_text (n : Int) (s : ByteArray) (w : World) (hs : s.size ≤ maxLen) :
    Calls Tryz.prog 114 #[.agg #[.int .i64 1, .int .i64 n, .string s]] w fun e w' => e = .returned (.int .i64 (leadNum s.data.toList)) ∧ Below w.heap.size w w' := by
  go_enter Tryz.func114, Tryz.ntmps114
  go_wp2_with (first | (go_at_call 60; refine (leading_any s _ hs).mono ?_; rintro e w' ⟨rfl, rfl⟩))
  go_ret
  exact ⟨rfl, (Below.refl _ _).alloc (Nat.le_refl _) _⟩
set_option maxHeartbeats 400000 in
theorem number_else (k n : Int) (s : ByteArray) (w : World) (hk : (k == 1) = false) :
    Calls Tryz.prog 114 #[.agg #[.int .i64 k, .int .i64 n, .string s]] w fun e w' => e = .returned (.int .i64 n) ∧ Below w.heap.size w w' := by
  go_enter Tryz.func114, Tryz.ntmps114
  go_wp2
  go_ret
  exact ⟨rfl, (Below.refl _ _).alloc (Nat.le_refl _) _⟩
set_option maxHeartbeats 400000 in
theorem text_any (k n : Int) (s : ByteArray) (w : World) :
    Calls Tryz.prog 119 #[.agg #[.int .i64 k, .int .i64 n, .string s]] w fun e w' => e = .returned (.string s) ∧ Below w.heap.size w w' := by
  go_enter Tryz.func119, Tryz.ntmps119
  go_wp2
  go_ret
  exact ⟨rfl, (Below.refl _ _).alloc (Nat.le_refl _) _⟩
set_option maxHeartbeats 400000 in
theorem isText_any (k n : Int) (s : ByteArray) (w : World) :
    Calls Tryz.prog 174 #[.agg #[.int .i64 k, .int .i64 n, .string s]] w fun e w' => e = .returned (.bool (k == 1)) ∧ Below w.heap.size w w' := by
  go_enter Tryz.func174, Tryz.ntmps174
  go_wp2
  go_ret
  exact ⟨rfl, (Below.refl _ _).alloc (Nat.le_refl _) _⟩
end Go.Proofs.YtfjgeejppacflaaGreatDoor
