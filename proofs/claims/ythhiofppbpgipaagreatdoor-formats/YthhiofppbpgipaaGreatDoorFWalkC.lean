import Derived.Test.YthhiofppbpgipaaGreatDoorGB
namespace Go.Proofs.YthhiofppbpgipaaGreatDoor
open Go.RowKit

theorem wrap_small (n : Int) (h1 : -9000000000 ≤ n) (h2 : n ≤ 9000000000) : IntKind.i64.wrap n = n := by rw [IntKind.wrap_i64]; omega
theorem pE_dot {l : List UInt8} {k : Nat} (h : itDot l k = true) : pE l k = wE l k + 1 + d2m l (wE l k + 1) := by simp [pE, h]
theorem pE_nodot {l : List UInt8} {k : Nat} (h : itDot l k = false) : pE l k = wE l k := by simp [pE, h]
theorem itPrec_dot {l : List UInt8} {k : Nat} (h : itDot l k = true) : itPrec l k = numN l (wE l k + 1) (d2m l (wE l k + 1)) := by simp [itPrec, h]
theorem itPrec_nodot {l : List UInt8} {k : Nat} (h : itDot l k = false) : itPrec l k = 0 := by simp [itPrec, h]
theorem itLetter_lt (s : ByteArray) (k p : Nat) (hp : pE s.data.toList k = p) (h : p < s.size) : itLetter s.data.toList k = s[p] := by
  unfold itLetter; rw [hp, get_of_lt s p h]; rfl

set_option maxHeartbeats 1000000 in
theorem readItem_nodot (s : ByteArray) (k : Nat) (w : World) (hs : s.size ≤ 65536) (hk : k ≤ s.size) (hd : itDot s.data.toList k = false) (hp : pE s.data.toList k < s.size) :
    Calls Tryz.prog 66 #[.string s, .int .i64 k] w fun e w' =>
      e = .returned (.tuple #[.agg #[.bool (itLeft s.data.toList k), .bool (itZero s.data.toList k), .int .i64 (itWidth s.data.toList k), .bool false, .int .i64 0, .int .u8 (itLetter s.data.toList k).toNat], .int .i64 (pE s.data.toList k + 1), .bool (knownB (itLetter s.data.toList k).toNat false)]) ∧ Below w.heap.size w w' := by
  have hfe : fE s.data.toList k ≤ s.size := by rw [← len_eq]; exact fE_le (by rw [len_eq]; exact hk)
  have HW : Hid (wE s.data.toList k = fE s.data.toList k + d2m s.data.toList (fE s.data.toList k)) := rfl
  have HWd : Hid (itWidth s.data.toList k = numN s.data.toList (fE s.data.toList k) (d2m s.data.toList (fE s.data.toList k))) := rfl
  have HP := hide (pE_nodot hd)
  rw [pE_nodot hd] at hp ⊢
  have HL := hide (itLetter_lt s k _ HP.out hp)
  have h46 : ((s[wE s.data.toList k].toNat : Int) == 46) = false := by rw [← isAt_lt s _ 46 hp]; exact hd
  clear hd
  rw [HL.out]
  generalize wE s.data.toList k = wp at *
  have hne : ((wp : Int) == s.size) = false := by rw [beq_eq_false_iff_ne]; omega
  go_enter Tryz.func66, Tryz.ntmps66
  go_wp2_with (first | (go_at_call 120; refine (flags_any (w.alloc _) _ (by simp) s k hs hk).mono ?_; rintro e w' ⟨rfl, rfl⟩) | (go_at_call_of 121 (Value.int IntKind.i64 ((fE s.data.toList k : Nat) : Int)); refine (layDigits_any s _ _ hs hfe).mono ?_; rintro e w' ⟨rfl, rfl⟩; rw [← HW.out, ← HWd.out]))
  go_region_with (go_at_call 122; refine (known_any _ _ _ _ _ _ _).mono ?_; rintro e w' ⟨rfl, rfl⟩)
  all_goals
    go_wp2
    refine bodyPost_ret (v := .tuple #[.agg #[.bool (itLeft s.data.toList k), .bool (itZero s.data.toList k), .int .i64 (itWidth s.data.toList k), .bool false, .int .i64 0, .int .u8 s[wp].toNat], .int .i64 (wp + 1), .bool (knownB s[wp].toNat false)]) (by simp [results, Tryz.results66, go_sem, wrap_small (wp + 1) (by omega) (by omega)]) rfl ⟨rfl, ?_⟩
    repeat (first | exact Below.refl _ _ | refine Below.drew ?_ | refine Below.alloc ?_ (by simp <;> omega) _)
set_option maxHeartbeats 1000000 in
theorem readItem_nodot_end (s : ByteArray) (k : Nat) (w : World) (hs : s.size ≤ 65536) (hk : k ≤ s.size) (hd : itDot s.data.toList k = false) (hp : pE s.data.toList k = s.size) :
    Calls Tryz.prog 66 #[.string s, .int .i64 k] w fun e w' =>
      e = .returned (.tuple #[.agg #[.bool false, .bool false, .int .i64 0, .bool false, .int .i64 0, .int .u8 0], .int .i64 s.size, .bool false]) ∧ Below w.heap.size w w' := by
  have hfe : fE s.data.toList k ≤ s.size := by rw [← len_eq]; exact fE_le (by rw [len_eq]; exact hk)
  have HW : Hid (wE s.data.toList k = fE s.data.toList k + d2m s.data.toList (fE s.data.toList k)) := rfl
  have HWd : Hid (itWidth s.data.toList k = numN s.data.toList (fE s.data.toList k) (d2m s.data.toList (fE s.data.toList k))) := rfl
  have HP := hide (pE_nodot hd)
  rw [pE_nodot hd] at hp
  clear hd HP
  rw [hp] at HW
  clear hp
  go_enter Tryz.func66, Tryz.ntmps66
  go_wp2_with (first | (go_at_call 120; refine (flags_any (w.alloc _) _ (by simp) s k hs hk).mono ?_; rintro e w' ⟨rfl, rfl⟩) | (go_at_call_of 121 (Value.int IntKind.i64 ((fE s.data.toList k : Nat) : Int)); refine (layDigits_any s _ _ hs hfe).mono ?_; rintro e w' ⟨rfl, rfl⟩; rw [← HW.out, ← HWd.out]))
  refine bodyPost_ret (v := .tuple #[.agg #[.bool false, .bool false, .int .i64 0, .bool false, .int .i64 0, .int .u8 0], .int .i64 s.size, .bool false]) (by simp [results, Tryz.results66, go_sem]) rfl ⟨rfl, ?_⟩
  repeat (first | exact Below.refl _ _ | refine Below.drew ?_ | refine Below.alloc ?_ (by simp <;> omega) _)
set_option maxHeartbeats 1000000 in
theorem readItem_dot (s : ByteArray) (k : Nat) (w : World) (hs : s.size ≤ 65536) (hk : k ≤ s.size) (hd : itDot s.data.toList k = true) (hp : pE s.data.toList k < s.size) :
    Calls Tryz.prog 66 #[.string s, .int .i64 k] w fun e w' =>
      e = .returned (.tuple #[.agg #[.bool (itLeft s.data.toList k), .bool (itZero s.data.toList k), .int .i64 (itWidth s.data.toList k), .bool true, .int .i64 (itPrec s.data.toList k), .int .u8 (itLetter s.data.toList k).toNat], .int .i64 (pE s.data.toList k + 1), .bool (knownB (itLetter s.data.toList k).toNat true)]) ∧ Below w.heap.size w w' := by
  have hfe : fE s.data.toList k ≤ s.size := by rw [← len_eq]; exact fE_le (by rw [len_eq]; exact hk)
  have HW : Hid (wE s.data.toList k = fE s.data.toList k + d2m s.data.toList (fE s.data.toList k)) := rfl
  have HWd : Hid (itWidth s.data.toList k = numN s.data.toList (fE s.data.toList k) (d2m s.data.toList (fE s.data.toList k))) := rfl
  have hw46 : wE s.data.toList k < s.size := by rw [← len_eq]; exact isAt_ltB hd
  have h46 : ((s[wE s.data.toList k].toNat : Int) == 46) = true := by rw [← isAt_lt s _ 46 hw46]; exact hd
  have HP := hide (pE_dot hd)
  have HPr := hide (itPrec_dot hd)
  have HL := hide (itLetter_lt s k _ rfl hp)
  clear hd
  rw [HL.out]
  generalize pE s.data.toList k = pp at *
  generalize wE s.data.toList k = wp at *
  have hne : ((pp : Int) == s.size) = false := by rw [beq_eq_false_iff_ne]; omega
  go_enter Tryz.func66, Tryz.ntmps66
  go_wp2_with (first | (go_at_call 120; refine (flags_any (w.alloc _) _ (by simp) s k hs hk).mono ?_; rintro e w' ⟨rfl, rfl⟩) | (go_at_call_of 121 (Value.int IntKind.i64 ((fE s.data.toList k : Nat) : Int)); refine (layDigits_any s _ _ hs hfe).mono ?_; rintro e w' ⟨rfl, rfl⟩; rw [← HW.out, ← HWd.out]) | (go_at_call 121; rw [show ((wp : Int) + 1) = ((wp + 1 : Nat) : Int) by omega]; refine (layDigits_any s _ _ hs (by omega)).mono ?_; rintro e w' ⟨rfl, rfl⟩; rw [← HP.out, ← HPr.out]))
  go_region_with (go_at_call 122; refine (known_any _ _ _ _ _ _ _).mono ?_; rintro e w' ⟨rfl, rfl⟩)
  all_goals
    go_wp2
    refine bodyPost_ret (v := .tuple #[.agg #[.bool (itLeft s.data.toList k), .bool (itZero s.data.toList k), .int .i64 (itWidth s.data.toList k), .bool true, .int .i64 (itPrec s.data.toList k), .int .u8 s[pp].toNat], .int .i64 (pp + 1), .bool (knownB s[pp].toNat true)]) (by simp [results, Tryz.results66, go_sem, wrap_small (pp + 1) (by omega) (by omega)]) rfl ⟨rfl, ?_⟩
    repeat (first | exact Below.refl _ _ | refine Below.drew ?_ | refine Below.alloc ?_ (by simp <;> omega) _)
set_option maxHeartbeats 1000000 in
theorem readItem_dot_end (s : ByteArray) (k : Nat) (w : World) (hs : s.size ≤ 65536) (hk : k ≤ s.size) (hd : itDot s.data.toList k = true) (hp : pE s.data.toList k = s.size) :
    Calls Tryz.prog 66 #[.string s, .int .i64 k] w fun e w' =>
      e = .returned (.tuple #[.agg #[.bool false, .bool false, .int .i64 0, .bool false, .int .i64 0, .int .u8 0], .int .i64 s.size, .bool false]) ∧ Below w.heap.size w w' := by
  have hfe : fE s.data.toList k ≤ s.size := by rw [← len_eq]; exact fE_le (by rw [len_eq]; exact hk)
  have HW : Hid (wE s.data.toList k = fE s.data.toList k + d2m s.data.toList (fE s.data.toList k)) := rfl
  have HWd : Hid (itWidth s.data.toList k = numN s.data.toList (fE s.data.toList k) (d2m s.data.toList (fE s.data.toList k))) := rfl
  have hw46 : wE s.data.toList k < s.size := by rw [← len_eq]; exact isAt_ltB hd
  have h46 : ((s[wE s.data.toList k].toNat : Int) == 46) = true := by rw [← isAt_lt s _ 46 hw46]; exact hd
  have HP := hide (pE_dot hd)
  rw [hp] at HP
  clear hd hp
  generalize wE s.data.toList k = wp at *
  go_enter Tryz.func66, Tryz.ntmps66
  go_wp2_with (first | (go_at_call 120; refine (flags_any (w.alloc _) _ (by simp) s k hs hk).mono ?_; rintro e w' ⟨rfl, rfl⟩) | (go_at_call_of 121 (Value.int IntKind.i64 ((fE s.data.toList k : Nat) : Int)); refine (layDigits_any s _ _ hs hfe).mono ?_; rintro e w' ⟨rfl, rfl⟩; rw [← HW.out, ← HWd.out]) | (go_at_call 121; rw [show ((wp : Int) + 1) = ((wp + 1 : Nat) : Int) by omega]; refine (layDigits_any s _ _ hs (by omega)).mono ?_; rintro e w' ⟨rfl, rfl⟩; rw [← HP.out]))
  refine bodyPost_ret (v := .tuple #[.agg #[.bool false, .bool false, .int .i64 0, .bool false, .int .i64 0, .int .u8 0], .int .i64 s.size, .bool false]) (by simp [results, Tryz.results66, go_sem]) rfl ⟨rfl, ?_⟩
  repeat (first | exact Below.refl _ _ | refine Below.drew ?_ | refine Below.alloc ?_ (by simp <;> omega) _)

theorem readItem_yes (s : ByteArray) (k : Nat) (w : World) (hs : s.size ≤ 65536) (hk : k ≤ s.size) (ho : itOk s.data.toList k = true) :
    Calls Tryz.prog 66 #[.string s, .int .i64 k] w fun e w' =>
      e = .returned (.tuple #[.agg #[.bool (itLeft s.data.toList k), .bool (itZero s.data.toList k), .int .i64 (itWidth s.data.toList k), .bool (itDot s.data.toList k), .int .i64 (itPrec s.data.toList k), .int .u8 (itLetter s.data.toList k).toNat], .int .i64 (pE s.data.toList k + 1), .bool true]) ∧ Below w.heap.size w w' := by
  simp only [itOk, Bool.and_eq_true, decide_eq_true_eq] at ho
  obtain ⟨h1, h2⟩ := ho
  rw [len_eq] at h1
  cases hd : itDot s.data.toList k
  · have h := readItem_nodot s k w hs hk hd h1
    rw [hd] at h2
    rw [h2] at h
    rw [itPrec_nodot hd]
    exact h
  · have h := readItem_dot s k w hs hk hd h1
    rw [hd] at h2
    rw [h2] at h
    exact h
theorem readItem_no (s : ByteArray) (k : Nat) (w : World) (hs : s.size ≤ 65536) (hk : k ≤ s.size) (ho : itOk s.data.toList k = false) :
    Calls Tryz.prog 66 #[.string s, .int .i64 k] w fun e w' =>
      (∃ b1 b2 n1 b3 n2 c n3, e = .returned (.tuple #[.agg #[.bool b1, .bool b2, .int .i64 n1, .bool b3, .int .i64 n2, .int .u8 c], .int .i64 n3, .bool false])) ∧ Below w.heap.size w w' := by
  have hle := pE_le (l := s.data.toList) (k := k) (by rw [len_eq]; exact hk)
  rw [len_eq] at hle
  by_cases h1 : pE s.data.toList k < s.size
  · have h2 : knownB (itLetter s.data.toList k).toNat (itDot s.data.toList k) = false := by
      cases h : knownB (itLetter s.data.toList k).toNat (itDot s.data.toList k)
      · rfl
      · simp [itOk, h1, h] at ho
    cases hd : itDot s.data.toList k
    · have h := readItem_nodot s k w hs hk hd h1
      rw [hd] at h2
      rw [h2] at h
      exact h.mono fun e w' hh => ⟨⟨_, _, _, _, _, _, _, hh.1⟩, hh.2⟩
    · have h := readItem_dot s k w hs hk hd h1
      rw [hd] at h2
      rw [h2] at h
      exact h.mono fun e w' hh => ⟨⟨_, _, _, _, _, _, _, hh.1⟩, hh.2⟩
  · cases hd : itDot s.data.toList k
    · exact (readItem_nodot_end s k w hs hk hd (by omega)).mono fun e w' hh => ⟨⟨_, _, _, _, _, _, _, hh.1⟩, hh.2⟩
    · exact (readItem_dot_end s k w hs hk hd (by omega)).mono fun e w' hh => ⟨⟨_, _, _, _, _, _, _, hh.1⟩, hh.2⟩
end Go.Proofs.YthhiofppbpgipaaGreatDoor
