import Derived.Test.YthhiofppbpgipaaGreatDoorHexR
import Derived.Test.YthhiofppbpgipaaGreatDoorFWalkG
namespace Go.Proofs.YthhiofppbpgipaaGreatDoor
open Go.RowKit
/-- The number of a value of the reference. -/
def rnumOf (k n : Int) (s : List UInt8) : Int := if k = 115 then leadNum s else n
theorem refNum_any (k n : Int) (s : ByteArray) (w : World) (hs : s.size ≤ 65536) :
    Calls Tryz.prog 101 #[.agg #[.int .u8 k, .int .i64 n, .string s]] w fun e w' => e = .returned (.int .i64 (rnumOf k n s.data.toList)) ∧ Below w.heap.size w w' := by
  unfold rnumOf
  by_cases h : k = 115
  · subst h; exact refNum_text n s w (by unfold maxLen; omega)
  · rw [if_neg h]; exact refNum_else k n s w (by rw [beq_eq_false_iff_ne]; exact h)
theorem box2n {w w1 : World} {A B : Array Value} {t u : TypeId} (hb : Below ((w.alloc (.cells A t)).alloc (.cells B u)).heap.size ((w.alloc (.cells A t)).alloc (.cells B u)) w1) :
    (∀ i, w1.cell? ⟨w.heap.size, i, none⟩ = A[i]?) ∧ (∀ i, w1.cell? ⟨w.heap.size + 1, i, none⟩ = B[i]?) ∧ w.heap.size + 2 ≤ w1.heap.size ∧ Below w.heap.size w w1 :=
  box2 (t := t) (u := u) ⟨hb.os, hb.tape, hb.output, hb.size, hb.block⟩
theorem st_left {X : ByteArray} {t : List UInt8} (h : X = ⟨t.toArray⟩) (c : UInt8) : Value.string X = Value.string ⟨(t ++ List.replicate 0 c).toArray⟩ := by rw [h]; simp
theorem st_right {X : ByteArray} {t : List UInt8} (h : X = ⟨t.toArray⟩) (c : UInt8) : Value.string X = Value.string ⟨(List.replicate 0 c ++ t).toArray⟩ := by rw [h]; simp
theorem up_left (t : List UInt8) (j : Nat) (c : UInt8) : Value.string ((⟨(t ++ List.replicate j c).toArray⟩ : ByteArray) ++ ⟨#[c]⟩) = Value.string ⟨(t ++ List.replicate (j + 1) c).toArray⟩ := by
  rw [app_one, List.append_assoc, List.replicate_succ']
theorem up_right (t : List UInt8) (j : Nat) (c : UInt8) : Value.string ((⟨#[c]⟩ : ByteArray) ++ ⟨(List.replicate j c ++ t).toArray⟩) = Value.string ⟨(List.replicate (j + 1) c ++ t).toArray⟩ := by
  rw [show (⟨#[c]⟩ : ByteArray) = ⟨[c].toArray⟩ from rfl, app_left]; rfl
theorem app_two (a b : List UInt8) : (⟨a.toArray⟩ : ByteArray) ++ (⟨b.toArray⟩ : ByteArray) = ⟨(a ++ b).toArray⟩ := by
  apply ByteArray.ext; simp
theorem ext_tail (c : UInt8) (t : List UInt8) : (⟨(c :: t).toArray⟩ : ByteArray).extract 1 (t.length + 1) = ⟨t.toArray⟩ := by
  apply ByteArray.ext
  rw [ByteArray.data_extract]
  apply Array.ext'
  simp
theorem rep_cons (j : Nat) : ∃ c r, List.replicate j (32 : UInt8) ++ [45] = c :: r := by
  cases j with
  | zero => exact ⟨45, [], rfl⟩
  | succ j => exact ⟨32, List.replicate j 32 ++ [45], rfl⟩
theorem ba_eta (s : ByteArray) : s = ⟨s.data.toList.toArray⟩ := by apply ByteArray.ext; simp

set_option maxRecDepth 100000 in
set_option maxHeartbeats 1000000 in
theorem shown_dn_left (Z : Bool) (n : Nat) (q : Int) (k m : Int) (s : ByteArray) (w : World) (hn : n ≤ 99) (hs : s.size ≤ 65536) (hk : (k == 110) = false) (t : List UInt8) (ht : Tabs w) (p : Int) (h0 : -9223372036854775808 ≤ rnumOf k m s.data.toList) (h1 : rnumOf k m s.data.toList ≤ 9223372036854775807) (hi : Lib.itoa (rnumOf k m s.data.toList) = 45 :: t) :
    Calls Tryz.prog 72 #[.agg #[.bool true, .bool Z, .int .i64 n, .int .i64 p, .int .i64 q, .int .u8 100], .agg #[.int .u8 k, .int .i64 m, .string s]] w fun e w' =>
      e = .returned (.string ⟨([45] ++ (t ++ List.replicate (n - 1 - t.length) 32)).toArray⟩) ∧ Below w.heap.size w w' := by
  have hl := itoa_len _ h0 h1
  rw [hi] at hl
  have HI := hide hi
  clear hi
  simp at hl
  have hext := ext_tail 45 t
  go_enter Tryz.func72, Tryz.ntmps72
  go_wp2_with fail
  refine (refText_any _ _ _ _ hk).mono ?_
  rintro e w1 ⟨rfl, hb1⟩
  obtain ⟨qa1, qb1, hz1, hw1⟩ := box2n hb1
  clear hb1
  have ht1 : Tabs w1 := ht.below hw1 ht.big
  go_wp2_with fail
  refine (refNum_any k m s _ hs).mono ?_
  rintro e w2 ⟨rfl, hb2⟩
  have qa2 := box_on qa1 hb2 (by omega)
  have hz2 := hb2.size
  have hw2 := hw1.trans (hb2.mono (by omega))
  have ht2 : Tabs w2 := ht.below hw2 ht.big
  clear hb2 qa1 qb1 hw1
  go_wp2_with fail
  refine (itoa_any _ h0 h1 _ ht2).mono ?_
  rintro e w3 ⟨rfl, hb3⟩
  rw [HI.out]
  have qa3 := box_on qa2 hb3 (by omega)
  have hz3 := hb3.size
  have hw3 := hw2.trans (hb3.mono (by omega))
  clear hb3 qa2 hw2 ht2 ht1 hz1 hz2 hz3
  go_wp2
  go_loop [5, 6, 8] (fun x g c => ∃ j : Nat, j ≤ (n - 1 - t.length) ∧ c = .int .i64 j ∧ x = .string ⟨(t ++ List.replicate j 32).toArray⟩ ∧ g = .string ⟨([45] : List UInt8).toArray⟩) (fun _ _ c => (n + 1) - (intOf c).toNat)
  case atStart => exact ⟨0, by omega, rfl, st_left rfl 32, rfl⟩
  case round =>
    obtain ⟨j, hj, rfl, rfl, rfl⟩ := hrel
    have hlen : (t ++ List.replicate j (32 : UInt8)).length ≤ 70000 := by simp; omega
    obtain ⟨tt, HTT⟩ : ∃ tt, Hid ((t ++ List.replicate j (32 : UInt8)) = tt) := ⟨_, rfl⟩
    rw [HTT.out] at hlen ⊢
    by_cases hlt : (j : Int) < (n : Int) - 1 - t.length
    · go_wp2
      go_round
      case rel => exact ⟨j + 1, by omega, by go_num, by rw [← HTT.out]; exact up_left t j 32, rfl⟩
      case measure => simp [intOf]; omega
    · go_wp2
      go_ret
      exact ⟨ret_str (by rw [← HTT.out, show j = (n - 1 - t.length) by omega]; apply ByteArray.ext; simp), hw3⟩

set_option maxRecDepth 100000 in
set_option maxHeartbeats 1000000 in
theorem shown_dn_zero (n : Nat) (q : Int) (k m : Int) (s : ByteArray) (w : World) (hn : n ≤ 99) (hs : s.size ≤ 65536) (hk : (k == 110) = false) (t : List UInt8) (ht : Tabs w) (p : Int) (h0 : -9223372036854775808 ≤ rnumOf k m s.data.toList) (h1 : rnumOf k m s.data.toList ≤ 9223372036854775807) (hi : Lib.itoa (rnumOf k m s.data.toList) = 45 :: t) :
    Calls Tryz.prog 72 #[.agg #[.bool false, .bool true, .int .i64 n, .int .i64 p, .int .i64 q, .int .u8 100], .agg #[.int .u8 k, .int .i64 m, .string s]] w fun e w' =>
      e = .returned (.string ⟨([45] ++ (List.replicate (n - 1 - t.length) 48 ++ t)).toArray⟩) ∧ Below w.heap.size w w' := by
  have hl := itoa_len _ h0 h1
  rw [hi] at hl
  have HI := hide hi
  clear hi
  simp at hl
  have hext := ext_tail 45 t
  go_enter Tryz.func72, Tryz.ntmps72
  go_wp2_with fail
  refine (refText_any _ _ _ _ hk).mono ?_
  rintro e w1 ⟨rfl, hb1⟩
  obtain ⟨qa1, qb1, hz1, hw1⟩ := box2n hb1
  clear hb1
  have ht1 : Tabs w1 := ht.below hw1 ht.big
  go_wp2_with fail
  refine (refNum_any k m s _ hs).mono ?_
  rintro e w2 ⟨rfl, hb2⟩
  have qa2 := box_on qa1 hb2 (by omega)
  have hz2 := hb2.size
  have hw2 := hw1.trans (hb2.mono (by omega))
  have ht2 : Tabs w2 := ht.below hw2 ht.big
  clear hb2 qa1 qb1 hw1
  go_wp2_with fail
  refine (itoa_any _ h0 h1 _ ht2).mono ?_
  rintro e w3 ⟨rfl, hb3⟩
  rw [HI.out]
  have qa3 := box_on qa2 hb3 (by omega)
  have hz3 := hb3.size
  have hw3 := hw2.trans (hb3.mono (by omega))
  clear hb3 qa2 hw2 ht2 ht1 hz1 hz2 hz3
  go_wp2
  go_loop [5, 6, 8] (fun x g c => ∃ j : Nat, j ≤ (n - 1 - t.length) ∧ c = .int .i64 j ∧ x = .string ⟨(List.replicate j 48 ++ t).toArray⟩ ∧ g = .string ⟨([45] : List UInt8).toArray⟩) (fun _ _ c => (n + 1) - (intOf c).toNat)
  case atStart => exact ⟨0, by omega, rfl, st_right rfl 48, rfl⟩
  case round =>
    obtain ⟨j, hj, rfl, rfl, rfl⟩ := hrel
    have hlen : (List.replicate j (48 : UInt8) ++ t).length ≤ 70000 := by simp; omega
    obtain ⟨tt, HTT⟩ : ∃ tt, Hid ((List.replicate j (48 : UInt8) ++ t) = tt) := ⟨_, rfl⟩
    rw [HTT.out] at hlen ⊢
    by_cases hlt : (j : Int) < (n : Int) - 1 - t.length
    · go_wp2
      go_round
      case rel => exact ⟨j + 1, by omega, by go_num, by rw [← HTT.out]; exact up_right t j 48, rfl⟩
      case measure => simp [intOf]; omega
    · go_wp2
      go_ret
      exact ⟨ret_str (by rw [← HTT.out, show j = (n - 1 - t.length) by omega]; apply ByteArray.ext; simp), hw3⟩

set_option maxRecDepth 100000 in
set_option maxHeartbeats 1000000 in
theorem shown_dn_blank (n : Nat) (q : Int) (k m : Int) (s : ByteArray) (w : World) (hn : n ≤ 99) (hs : s.size ≤ 65536) (hk : (k == 110) = false) (t : List UInt8) (ht : Tabs w) (p : Int) (h0 : -9223372036854775808 ≤ rnumOf k m s.data.toList) (h1 : rnumOf k m s.data.toList ≤ 9223372036854775807) (hi : Lib.itoa (rnumOf k m s.data.toList) = 45 :: t) :
    Calls Tryz.prog 72 #[.agg #[.bool false, .bool false, .int .i64 n, .int .i64 p, .int .i64 q, .int .u8 100], .agg #[.int .u8 k, .int .i64 m, .string s]] w fun e w' =>
      e = .returned (.string ⟨((List.replicate (n - 1 - t.length) 32 ++ [45]) ++ t).toArray⟩) ∧ Below w.heap.size w w' := by
  have hl := itoa_len _ h0 h1
  rw [hi] at hl
  have HI := hide hi
  clear hi
  simp at hl
  have hext := ext_tail 45 t
  go_enter Tryz.func72, Tryz.ntmps72
  go_wp2_with fail
  refine (refText_any _ _ _ _ hk).mono ?_
  rintro e w1 ⟨rfl, hb1⟩
  obtain ⟨qa1, qb1, hz1, hw1⟩ := box2n hb1
  clear hb1
  have ht1 : Tabs w1 := ht.below hw1 ht.big
  go_wp2_with fail
  refine (refNum_any k m s _ hs).mono ?_
  rintro e w2 ⟨rfl, hb2⟩
  have qa2 := box_on qa1 hb2 (by omega)
  have hz2 := hb2.size
  have hw2 := hw1.trans (hb2.mono (by omega))
  have ht2 : Tabs w2 := ht.below hw2 ht.big
  clear hb2 qa1 qb1 hw1
  go_wp2_with fail
  refine (itoa_any _ h0 h1 _ ht2).mono ?_
  rintro e w3 ⟨rfl, hb3⟩
  rw [HI.out]
  have qa3 := box_on qa2 hb3 (by omega)
  have hz3 := hb3.size
  have hw3 := hw2.trans (hb3.mono (by omega))
  clear hb3 qa2 hw2 ht2 ht1 hz1 hz2 hz3
  go_wp2
  go_loop [5, 6, 8] (fun x g c => ∃ j : Nat, j ≤ (n - 1 - t.length) ∧ c = .int .i64 j ∧ x = .string ⟨t.toArray⟩ ∧ g = .string ⟨(List.replicate j (32 : UInt8) ++ [45]).toArray⟩) (fun _ _ c => (n + 1) - (intOf c).toNat)
  case atStart => exact ⟨0, by omega, rfl, congrArg Value.string rfl, rfl⟩
  case round =>
    obtain ⟨j, hj, rfl, rfl, rfl⟩ := hrel
    obtain ⟨cc, rr, hcc⟩ := rep_cons j
    have hlen : rr.length ≤ 70000 := by have := congrArg List.length hcc; simp at this; omega
    have HC := hide hcc
    rw [hcc]
    clear hcc
    by_cases hlt : (j : Int) < (n : Int) - 1 - t.length
    · go_wp2
      go_round
      case rel => exact ⟨j + 1, by omega, by go_num, rfl, by rw [← HC.out]; exact up_right [45] j 32⟩
      case measure => simp [intOf]; omega
    · go_wp2
      go_ret
      exact ⟨ret_str (by rw [← HC.out, show j = (n - 1 - t.length) by omega]; apply ByteArray.ext; simp), hw3⟩

set_option maxRecDepth 100000 in
set_option maxHeartbeats 1000000 in
theorem shown_dp_left (Z : Bool) (n : Nat) (q : Int) (k m : Int) (s : ByteArray) (w : World) (hn : n ≤ 99) (hs : s.size ≤ 65536) (hk : (k == 110) = false) (t : List UInt8) (ht : Tabs w) (p : Int) (h0 : -9223372036854775808 ≤ rnumOf k m s.data.toList) (h1 : rnumOf k m s.data.toList ≤ 9223372036854775807) (hi : Lib.itoa (rnumOf k m s.data.toList) = t) (hpos : 0 < t.length) (hc : ∀ h : 0 < (⟨t.toArray⟩ : ByteArray).size, (((⟨t.toArray⟩ : ByteArray)[0].toNat : Int) == 45) = false) :
    Calls Tryz.prog 72 #[.agg #[.bool true, .bool Z, .int .i64 n, .int .i64 p, .int .i64 q, .int .u8 100], .agg #[.int .u8 k, .int .i64 m, .string s]] w fun e w' =>
      e = .returned (.string ⟨([] ++ (t ++ List.replicate (n - 0 - t.length) 32)).toArray⟩) ∧ Below w.heap.size w w' := by
  have hl := itoa_len _ h0 h1
  rw [hi] at hl
  have HI := hide hi
  clear hi
  go_enter Tryz.func72, Tryz.ntmps72
  go_wp2_with fail
  refine (refText_any _ _ _ _ hk).mono ?_
  rintro e w1 ⟨rfl, hb1⟩
  obtain ⟨qa1, qb1, hz1, hw1⟩ := box2n hb1
  clear hb1
  have ht1 : Tabs w1 := ht.below hw1 ht.big
  go_wp2_with fail
  refine (refNum_any k m s _ hs).mono ?_
  rintro e w2 ⟨rfl, hb2⟩
  have qa2 := box_on qa1 hb2 (by omega)
  have hz2 := hb2.size
  have hw2 := hw1.trans (hb2.mono (by omega))
  have ht2 : Tabs w2 := ht.below hw2 ht.big
  clear hb2 qa1 qb1 hw1
  go_wp2_with fail
  refine (itoa_any _ h0 h1 _ ht2).mono ?_
  rintro e w3 ⟨rfl, hb3⟩
  rw [HI.out]
  have qa3 := box_on qa2 hb3 (by omega)
  have hz3 := hb3.size
  have hw3 := hw2.trans (hb3.mono (by omega))
  clear hb3 qa2 hw2 ht2 ht1 hz1 hz2 hz3
  go_wp2
  go_loop [5, 6, 8] (fun x g c => ∃ j : Nat, j ≤ (n - 0 - t.length) ∧ c = .int .i64 j ∧ x = .string ⟨(t ++ List.replicate j 32).toArray⟩ ∧ g = .string ⟨([] : List UInt8).toArray⟩) (fun _ _ c => (n + 1) - (intOf c).toNat)
  case atStart => exact ⟨0, by omega, rfl, st_left rfl 32, rfl⟩
  case round =>
    obtain ⟨j, hj, rfl, rfl, rfl⟩ := hrel
    have hlen : (t ++ List.replicate j (32 : UInt8)).length ≤ 70000 := by simp; omega
    obtain ⟨tt, HTT⟩ : ∃ tt, Hid ((t ++ List.replicate j (32 : UInt8)) = tt) := ⟨_, rfl⟩
    rw [HTT.out] at hlen ⊢
    by_cases hlt : (j : Int) < (n : Int) - 0 - t.length
    · go_wp2
      go_round
      case rel => exact ⟨j + 1, by omega, by go_num, by rw [← HTT.out]; exact up_left t j 32, rfl⟩
      case measure => simp [intOf]; omega
    · go_wp2
      go_ret
      exact ⟨ret_str (by rw [← HTT.out, show j = (n - 0 - t.length) by omega]; apply ByteArray.ext; simp), hw3⟩

set_option maxRecDepth 100000 in
set_option maxHeartbeats 1000000 in
theorem shown_dp_zero (n : Nat) (q : Int) (k m : Int) (s : ByteArray) (w : World) (hn : n ≤ 99) (hs : s.size ≤ 65536) (hk : (k == 110) = false) (t : List UInt8) (ht : Tabs w) (p : Int) (h0 : -9223372036854775808 ≤ rnumOf k m s.data.toList) (h1 : rnumOf k m s.data.toList ≤ 9223372036854775807) (hi : Lib.itoa (rnumOf k m s.data.toList) = t) (hpos : 0 < t.length) (hc : ∀ h : 0 < (⟨t.toArray⟩ : ByteArray).size, (((⟨t.toArray⟩ : ByteArray)[0].toNat : Int) == 45) = false) :
    Calls Tryz.prog 72 #[.agg #[.bool false, .bool true, .int .i64 n, .int .i64 p, .int .i64 q, .int .u8 100], .agg #[.int .u8 k, .int .i64 m, .string s]] w fun e w' =>
      e = .returned (.string ⟨([] ++ (List.replicate (n - 0 - t.length) 48 ++ t)).toArray⟩) ∧ Below w.heap.size w w' := by
  have hl := itoa_len _ h0 h1
  rw [hi] at hl
  have HI := hide hi
  clear hi
  go_enter Tryz.func72, Tryz.ntmps72
  go_wp2_with fail
  refine (refText_any _ _ _ _ hk).mono ?_
  rintro e w1 ⟨rfl, hb1⟩
  obtain ⟨qa1, qb1, hz1, hw1⟩ := box2n hb1
  clear hb1
  have ht1 : Tabs w1 := ht.below hw1 ht.big
  go_wp2_with fail
  refine (refNum_any k m s _ hs).mono ?_
  rintro e w2 ⟨rfl, hb2⟩
  have qa2 := box_on qa1 hb2 (by omega)
  have hz2 := hb2.size
  have hw2 := hw1.trans (hb2.mono (by omega))
  have ht2 : Tabs w2 := ht.below hw2 ht.big
  clear hb2 qa1 qb1 hw1
  go_wp2_with fail
  refine (itoa_any _ h0 h1 _ ht2).mono ?_
  rintro e w3 ⟨rfl, hb3⟩
  rw [HI.out]
  have qa3 := box_on qa2 hb3 (by omega)
  have hz3 := hb3.size
  have hw3 := hw2.trans (hb3.mono (by omega))
  clear hb3 qa2 hw2 ht2 ht1 hz1 hz2 hz3
  go_wp2
  go_loop [5, 6, 8] (fun x g c => ∃ j : Nat, j ≤ (n - 0 - t.length) ∧ c = .int .i64 j ∧ x = .string ⟨(List.replicate j 48 ++ t).toArray⟩ ∧ g = .string ⟨([] : List UInt8).toArray⟩) (fun _ _ c => (n + 1) - (intOf c).toNat)
  case atStart => exact ⟨0, by omega, rfl, st_right rfl 48, rfl⟩
  case round =>
    obtain ⟨j, hj, rfl, rfl, rfl⟩ := hrel
    have hlen : (List.replicate j (48 : UInt8) ++ t).length ≤ 70000 := by simp; omega
    obtain ⟨tt, HTT⟩ : ∃ tt, Hid ((List.replicate j (48 : UInt8) ++ t) = tt) := ⟨_, rfl⟩
    rw [HTT.out] at hlen ⊢
    by_cases hlt : (j : Int) < (n : Int) - 0 - t.length
    · go_wp2
      go_round
      case rel => exact ⟨j + 1, by omega, by go_num, by rw [← HTT.out]; exact up_right t j 48, rfl⟩
      case measure => simp [intOf]; omega
    · go_wp2
      go_ret
      exact ⟨ret_str (by rw [← HTT.out, show j = (n - 0 - t.length) by omega]; apply ByteArray.ext; simp), hw3⟩

set_option maxRecDepth 100000 in
set_option maxHeartbeats 1000000 in
theorem shown_dp_blank (n : Nat) (q : Int) (k m : Int) (s : ByteArray) (w : World) (hn : n ≤ 99) (hs : s.size ≤ 65536) (hk : (k == 110) = false) (t : List UInt8) (ht : Tabs w) (p : Int) (h0 : -9223372036854775808 ≤ rnumOf k m s.data.toList) (h1 : rnumOf k m s.data.toList ≤ 9223372036854775807) (hi : Lib.itoa (rnumOf k m s.data.toList) = t) (hpos : 0 < t.length) (hc : ∀ h : 0 < (⟨t.toArray⟩ : ByteArray).size, (((⟨t.toArray⟩ : ByteArray)[0].toNat : Int) == 45) = false) :
    Calls Tryz.prog 72 #[.agg #[.bool false, .bool false, .int .i64 n, .int .i64 p, .int .i64 q, .int .u8 100], .agg #[.int .u8 k, .int .i64 m, .string s]] w fun e w' =>
      e = .returned (.string ⟨([] ++ (List.replicate (n - 0 - t.length) 32 ++ t)).toArray⟩) ∧ Below w.heap.size w w' := by
  have hl := itoa_len _ h0 h1
  rw [hi] at hl
  have HI := hide hi
  clear hi
  go_enter Tryz.func72, Tryz.ntmps72
  go_wp2_with fail
  refine (refText_any _ _ _ _ hk).mono ?_
  rintro e w1 ⟨rfl, hb1⟩
  obtain ⟨qa1, qb1, hz1, hw1⟩ := box2n hb1
  clear hb1
  have ht1 : Tabs w1 := ht.below hw1 ht.big
  go_wp2_with fail
  refine (refNum_any k m s _ hs).mono ?_
  rintro e w2 ⟨rfl, hb2⟩
  have qa2 := box_on qa1 hb2 (by omega)
  have hz2 := hb2.size
  have hw2 := hw1.trans (hb2.mono (by omega))
  have ht2 : Tabs w2 := ht.below hw2 ht.big
  clear hb2 qa1 qb1 hw1
  go_wp2_with fail
  refine (itoa_any _ h0 h1 _ ht2).mono ?_
  rintro e w3 ⟨rfl, hb3⟩
  rw [HI.out]
  have qa3 := box_on qa2 hb3 (by omega)
  have hz3 := hb3.size
  have hw3 := hw2.trans (hb3.mono (by omega))
  clear hb3 qa2 hw2 ht2 ht1 hz1 hz2 hz3
  go_wp2
  go_loop [5, 6, 8] (fun x g c => ∃ j : Nat, j ≤ (n - 0 - t.length) ∧ c = .int .i64 j ∧ x = .string ⟨(List.replicate j 32 ++ t).toArray⟩ ∧ g = .string ⟨([] : List UInt8).toArray⟩) (fun _ _ c => (n + 1) - (intOf c).toNat)
  case atStart => exact ⟨0, by omega, rfl, st_right rfl 32, rfl⟩
  case round =>
    obtain ⟨j, hj, rfl, rfl, rfl⟩ := hrel
    have hlen : (List.replicate j (32 : UInt8) ++ t).length ≤ 70000 := by simp; omega
    obtain ⟨tt, HTT⟩ : ∃ tt, Hid ((List.replicate j (32 : UInt8) ++ t) = tt) := ⟨_, rfl⟩
    rw [HTT.out] at hlen ⊢
    by_cases hlt : (j : Int) < (n : Int) - 0 - t.length
    · go_wp2
      go_round
      case rel => exact ⟨j + 1, by omega, by go_num, by rw [← HTT.out]; exact up_right t j 32, rfl⟩
      case measure => simp [intOf]; omega
    · go_wp2
      go_ret
      exact ⟨ret_str (by rw [← HTT.out, show j = (n - 0 - t.length) by omega]; apply ByteArray.ext; simp), hw3⟩

set_option maxRecDepth 100000 in
set_option maxHeartbeats 1000000 in
theorem shown_x_left (Z : Bool) (n : Nat) (q : Int) (k m : Int) (s : ByteArray) (w : World) (hn : n ≤ 99) (hs : s.size ≤ 65536) (hk : (k == 110) = false) (t : List UInt8) (ht : Tabs w) (p : Int) (hi : hexL (IntKind.u64.wrap (rnumOf k m s.data.toList)).toNat = t) :
    Calls Tryz.prog 72 #[.agg #[.bool true, .bool Z, .int .i64 n, .int .i64 p, .int .i64 q, .int .u8 120], .agg #[.int .u8 k, .int .i64 m, .string s]] w fun e w' =>
      e = .returned (.string ⟨([] ++ (t ++ List.replicate (n - 0 - t.length) 32)).toArray⟩) ∧ Below w.heap.size w w' := by
  have hl : t.length ≤ 100 := by rw [← hi]; exact hexL_len _
  have HI := hide hi
  clear hi
  go_enter Tryz.func72, Tryz.ntmps72
  go_wp2_with fail
  refine (refText_any _ _ _ _ hk).mono ?_
  rintro e w1 ⟨rfl, hb1⟩
  obtain ⟨qa1, qb1, hz1, hw1⟩ := box2n hb1
  clear hb1
  have ht1 : Tabs w1 := ht.below hw1 ht.big
  go_wp2_with fail
  refine (refNum_any k m s _ hs).mono ?_
  rintro e w2 ⟨rfl, hb2⟩
  have qa2 := box_on qa1 hb2 (by omega)
  have hz2 := hb2.size
  have hw2 := hw1.trans (hb2.mono (by omega))
  have ht2 : Tabs w2 := ht.below hw2 ht.big
  clear hb2 qa1 qb1 hw1
  go_wp2_with fail
  refine (refHex_any _ _).mono ?_
  rintro e w3 ⟨rfl, rfl⟩
  rw [HI.out]
  clear ht2 ht1 hz1 hz2
  go_wp2
  go_loop [5, 6, 8] (fun x g c => ∃ j : Nat, j ≤ (n - 0 - t.length) ∧ c = .int .i64 j ∧ x = .string ⟨(t ++ List.replicate j 32).toArray⟩ ∧ g = .string ⟨([] : List UInt8).toArray⟩) (fun _ _ c => (n + 1) - (intOf c).toNat)
  case atStart => exact ⟨0, by omega, rfl, st_left rfl 32, rfl⟩
  case round =>
    obtain ⟨j, hj, rfl, rfl, rfl⟩ := hrel
    have hlen : (t ++ List.replicate j (32 : UInt8)).length ≤ 70000 := by simp; omega
    obtain ⟨tt, HTT⟩ : ∃ tt, Hid ((t ++ List.replicate j (32 : UInt8)) = tt) := ⟨_, rfl⟩
    rw [HTT.out] at hlen ⊢
    by_cases hlt : (j : Int) < (n : Int) - 0 - t.length
    · go_wp2
      go_round
      case rel => exact ⟨j + 1, by omega, by go_num, by rw [← HTT.out]; exact up_left t j 32, rfl⟩
      case measure => simp [intOf]; omega
    · go_wp2
      go_ret
      exact ⟨ret_str (by rw [← HTT.out, show j = (n - 0 - t.length) by omega]; apply ByteArray.ext; simp), hw2⟩

set_option maxRecDepth 100000 in
set_option maxHeartbeats 1000000 in
theorem shown_x_zero (n : Nat) (q : Int) (k m : Int) (s : ByteArray) (w : World) (hn : n ≤ 99) (hs : s.size ≤ 65536) (hk : (k == 110) = false) (t : List UInt8) (ht : Tabs w) (p : Int) (hi : hexL (IntKind.u64.wrap (rnumOf k m s.data.toList)).toNat = t) :
    Calls Tryz.prog 72 #[.agg #[.bool false, .bool true, .int .i64 n, .int .i64 p, .int .i64 q, .int .u8 120], .agg #[.int .u8 k, .int .i64 m, .string s]] w fun e w' =>
      e = .returned (.string ⟨([] ++ (List.replicate (n - 0 - t.length) 48 ++ t)).toArray⟩) ∧ Below w.heap.size w w' := by
  have hl : t.length ≤ 100 := by rw [← hi]; exact hexL_len _
  have HI := hide hi
  clear hi
  go_enter Tryz.func72, Tryz.ntmps72
  go_wp2_with fail
  refine (refText_any _ _ _ _ hk).mono ?_
  rintro e w1 ⟨rfl, hb1⟩
  obtain ⟨qa1, qb1, hz1, hw1⟩ := box2n hb1
  clear hb1
  have ht1 : Tabs w1 := ht.below hw1 ht.big
  go_wp2_with fail
  refine (refNum_any k m s _ hs).mono ?_
  rintro e w2 ⟨rfl, hb2⟩
  have qa2 := box_on qa1 hb2 (by omega)
  have hz2 := hb2.size
  have hw2 := hw1.trans (hb2.mono (by omega))
  have ht2 : Tabs w2 := ht.below hw2 ht.big
  clear hb2 qa1 qb1 hw1
  go_wp2_with fail
  refine (refHex_any _ _).mono ?_
  rintro e w3 ⟨rfl, rfl⟩
  rw [HI.out]
  clear ht2 ht1 hz1 hz2
  go_wp2
  go_loop [5, 6, 8] (fun x g c => ∃ j : Nat, j ≤ (n - 0 - t.length) ∧ c = .int .i64 j ∧ x = .string ⟨(List.replicate j 48 ++ t).toArray⟩ ∧ g = .string ⟨([] : List UInt8).toArray⟩) (fun _ _ c => (n + 1) - (intOf c).toNat)
  case atStart => exact ⟨0, by omega, rfl, st_right rfl 48, rfl⟩
  case round =>
    obtain ⟨j, hj, rfl, rfl, rfl⟩ := hrel
    have hlen : (List.replicate j (48 : UInt8) ++ t).length ≤ 70000 := by simp; omega
    obtain ⟨tt, HTT⟩ : ∃ tt, Hid ((List.replicate j (48 : UInt8) ++ t) = tt) := ⟨_, rfl⟩
    rw [HTT.out] at hlen ⊢
    by_cases hlt : (j : Int) < (n : Int) - 0 - t.length
    · go_wp2
      go_round
      case rel => exact ⟨j + 1, by omega, by go_num, by rw [← HTT.out]; exact up_right t j 48, rfl⟩
      case measure => simp [intOf]; omega
    · go_wp2
      go_ret
      exact ⟨ret_str (by rw [← HTT.out, show j = (n - 0 - t.length) by omega]; apply ByteArray.ext; simp), hw2⟩

set_option maxRecDepth 100000 in
set_option maxHeartbeats 1000000 in
theorem shown_x_blank (n : Nat) (q : Int) (k m : Int) (s : ByteArray) (w : World) (hn : n ≤ 99) (hs : s.size ≤ 65536) (hk : (k == 110) = false) (t : List UInt8) (ht : Tabs w) (p : Int) (hi : hexL (IntKind.u64.wrap (rnumOf k m s.data.toList)).toNat = t) :
    Calls Tryz.prog 72 #[.agg #[.bool false, .bool false, .int .i64 n, .int .i64 p, .int .i64 q, .int .u8 120], .agg #[.int .u8 k, .int .i64 m, .string s]] w fun e w' =>
      e = .returned (.string ⟨([] ++ (List.replicate (n - 0 - t.length) 32 ++ t)).toArray⟩) ∧ Below w.heap.size w w' := by
  have hl : t.length ≤ 100 := by rw [← hi]; exact hexL_len _
  have HI := hide hi
  clear hi
  go_enter Tryz.func72, Tryz.ntmps72
  go_wp2_with fail
  refine (refText_any _ _ _ _ hk).mono ?_
  rintro e w1 ⟨rfl, hb1⟩
  obtain ⟨qa1, qb1, hz1, hw1⟩ := box2n hb1
  clear hb1
  have ht1 : Tabs w1 := ht.below hw1 ht.big
  go_wp2_with fail
  refine (refNum_any k m s _ hs).mono ?_
  rintro e w2 ⟨rfl, hb2⟩
  have qa2 := box_on qa1 hb2 (by omega)
  have hz2 := hb2.size
  have hw2 := hw1.trans (hb2.mono (by omega))
  have ht2 : Tabs w2 := ht.below hw2 ht.big
  clear hb2 qa1 qb1 hw1
  go_wp2_with fail
  refine (refHex_any _ _).mono ?_
  rintro e w3 ⟨rfl, rfl⟩
  rw [HI.out]
  clear ht2 ht1 hz1 hz2
  go_wp2
  go_loop [5, 6, 8] (fun x g c => ∃ j : Nat, j ≤ (n - 0 - t.length) ∧ c = .int .i64 j ∧ x = .string ⟨(List.replicate j 32 ++ t).toArray⟩ ∧ g = .string ⟨([] : List UInt8).toArray⟩) (fun _ _ c => (n + 1) - (intOf c).toNat)
  case atStart => exact ⟨0, by omega, rfl, st_right rfl 32, rfl⟩
  case round =>
    obtain ⟨j, hj, rfl, rfl, rfl⟩ := hrel
    have hlen : (List.replicate j (32 : UInt8) ++ t).length ≤ 70000 := by simp; omega
    obtain ⟨tt, HTT⟩ : ∃ tt, Hid ((List.replicate j (32 : UInt8) ++ t) = tt) := ⟨_, rfl⟩
    rw [HTT.out] at hlen ⊢
    by_cases hlt : (j : Int) < (n : Int) - 0 - t.length
    · go_wp2
      go_round
      case rel => exact ⟨j + 1, by omega, by go_num, by rw [← HTT.out]; exact up_right t j 32, rfl⟩
      case measure => simp [intOf]; omega
    · go_wp2
      go_ret
      exact ⟨ret_str (by rw [← HTT.out, show j = (n - 0 - t.length) by omega]; apply ByteArray.ext; simp), hw2⟩

set_option maxRecDepth 100000 in
set_option maxHeartbeats 1000000 in
theorem shown_c_left (Z : Bool) (n : Nat) (q : Int) (k m : Int) (s : ByteArray) (w : World) (hn : n ≤ 99) (hk : (k == 110) = false) (t : List UInt8) (p : Int) (hk1 : (k == 115) = false) (hi : [UInt8.ofNat (IntKind.u8.wrap m).toNat] = t) :
    Calls Tryz.prog 72 #[.agg #[.bool true, .bool Z, .int .i64 n, .int .i64 p, .int .i64 q, .int .u8 99], .agg #[.int .u8 k, .int .i64 m, .string s]] w fun e w' =>
      e = .returned (.string ⟨([] ++ (t ++ List.replicate (n - 0 - t.length) 32)).toArray⟩) ∧ Below w.heap.size w w' := by
  have hl : t.length ≤ 1 := by rw [← hi]; simp
  have HS : Hid (byteStr (IntKind.u8.wrap m) = ⟨t.toArray⟩) := by show byteStr (IntKind.u8.wrap m) = ⟨t.toArray⟩; rw [← hi]; exact byteStr_eq _
  clear hi
  have hk2 : (k != 115) = true := by rw [bne, hk1]; rfl
  go_enter Tryz.func72, Tryz.ntmps72
  go_wp2_with fail
  refine (refText_any _ _ _ _ hk).mono ?_
  rintro e w1 ⟨rfl, hb1⟩
  obtain ⟨qa1, qb1, hz1, hw1⟩ := box2n hb1
  clear hb1
  have kc : ∀ (tt : TypeId), (convert 166 9 (.slice (some ⟨w1.heap.size, 0, none⟩) 1 1)).run Tryz.prog (w1.alloc (.cells #[.int .u8 (m % 256)] tt)) = .ok (.string ⟨t.toArray⟩) (w1.alloc (.cells #[.int .u8 (m % 256)] tt)) := fun tt => by rw [← HS.out]; exact convByte w1 _ tt
  have hw2 : ∀ o, Below w.heap.size w (w1.alloc o) := fun o => hw1.alloc (by omega) o
  have hz9 : w.heap.size < w1.heap.size := by omega
  have hz8 : w.heap.size + 1 < w1.heap.size := by omega
  clear HS
  go_wp2
  go_loop [5, 6, 8] (fun x g c => ∃ j : Nat, j ≤ (n - 0 - t.length) ∧ c = .int .i64 j ∧ x = .string ⟨(t ++ List.replicate j 32).toArray⟩ ∧ g = .string ⟨([] : List UInt8).toArray⟩) (fun _ _ c => (n + 1) - (intOf c).toNat)
  case atStart => exact ⟨0, by omega, rfl, st_left rfl 32, rfl⟩
  case round =>
    obtain ⟨j, hj, rfl, rfl, rfl⟩ := hrel
    have hlen : (t ++ List.replicate j (32 : UInt8)).length ≤ 70000 := by simp; omega
    obtain ⟨tt, HTT⟩ : ∃ tt, Hid ((t ++ List.replicate j (32 : UInt8)) = tt) := ⟨_, rfl⟩
    rw [HTT.out] at hlen ⊢
    by_cases hlt : (j : Int) < (n : Int) - 0 - t.length
    · go_wp2
      go_round
      case rel => exact ⟨j + 1, by omega, by go_num, by rw [← HTT.out]; exact up_left t j 32, rfl⟩
      case measure => simp [intOf]; omega
    · go_wp2
      go_ret
      exact ⟨ret_str (by rw [← HTT.out, show j = (n - 0 - t.length) by omega]; apply ByteArray.ext; simp), hw2 _⟩

set_option maxRecDepth 100000 in
set_option maxHeartbeats 1000000 in
theorem shown_c_blank0 (n : Nat) (q : Int) (k m : Int) (s : ByteArray) (w : World) (hn : n ≤ 99) (hk : (k == 110) = false) (t : List UInt8) (p : Int) (hk1 : (k == 115) = false) (hi : [UInt8.ofNat (IntKind.u8.wrap m).toNat] = t) :
    Calls Tryz.prog 72 #[.agg #[.bool false, .bool false, .int .i64 n, .int .i64 p, .int .i64 q, .int .u8 99], .agg #[.int .u8 k, .int .i64 m, .string s]] w fun e w' =>
      e = .returned (.string ⟨([] ++ (List.replicate (n - 0 - t.length) 32 ++ t)).toArray⟩) ∧ Below w.heap.size w w' := by
  have hl : t.length ≤ 1 := by rw [← hi]; simp
  have HS : Hid (byteStr (IntKind.u8.wrap m) = ⟨t.toArray⟩) := by show byteStr (IntKind.u8.wrap m) = ⟨t.toArray⟩; rw [← hi]; exact byteStr_eq _
  clear hi
  have hk2 : (k != 115) = true := by rw [bne, hk1]; rfl
  go_enter Tryz.func72, Tryz.ntmps72
  go_wp2_with fail
  refine (refText_any _ _ _ _ hk).mono ?_
  rintro e w1 ⟨rfl, hb1⟩
  obtain ⟨qa1, qb1, hz1, hw1⟩ := box2n hb1
  clear hb1
  have kc : ∀ (tt : TypeId), (convert 166 9 (.slice (some ⟨w1.heap.size, 0, none⟩) 1 1)).run Tryz.prog (w1.alloc (.cells #[.int .u8 (m % 256)] tt)) = .ok (.string ⟨t.toArray⟩) (w1.alloc (.cells #[.int .u8 (m % 256)] tt)) := fun tt => by rw [← HS.out]; exact convByte w1 _ tt
  have hw2 : ∀ o, Below w.heap.size w (w1.alloc o) := fun o => hw1.alloc (by omega) o
  have hz9 : w.heap.size < w1.heap.size := by omega
  have hz8 : w.heap.size + 1 < w1.heap.size := by omega
  clear HS
  go_wp2
  go_loop [5, 6, 8] (fun x g c => ∃ j : Nat, j ≤ (n - 0 - t.length) ∧ c = .int .i64 j ∧ x = .string ⟨(List.replicate j 32 ++ t).toArray⟩ ∧ g = .string ⟨([] : List UInt8).toArray⟩) (fun _ _ c => (n + 1) - (intOf c).toNat)
  case atStart => exact ⟨0, by omega, rfl, st_right rfl 32, rfl⟩
  case round =>
    obtain ⟨j, hj, rfl, rfl, rfl⟩ := hrel
    have hlen : (List.replicate j (32 : UInt8) ++ t).length ≤ 70000 := by simp; omega
    obtain ⟨tt, HTT⟩ : ∃ tt, Hid ((List.replicate j (32 : UInt8) ++ t) = tt) := ⟨_, rfl⟩
    rw [HTT.out] at hlen ⊢
    by_cases hlt : (j : Int) < (n : Int) - 0 - t.length
    · go_wp2
      go_round
      case rel => exact ⟨j + 1, by omega, by go_num, by rw [← HTT.out]; exact up_right t j 32, rfl⟩
      case measure => simp [intOf]; omega
    · go_wp2
      go_ret
      exact ⟨ret_str (by rw [← HTT.out, show j = (n - 0 - t.length) by omega]; apply ByteArray.ext; simp), hw2 _⟩

set_option maxRecDepth 100000 in
set_option maxHeartbeats 1000000 in
theorem shown_c_blank1 (n : Nat) (q : Int) (k m : Int) (s : ByteArray) (w : World) (hn : n ≤ 99) (hk : (k == 110) = false) (t : List UInt8) (p : Int) (hk1 : (k == 115) = false) (hi : [UInt8.ofNat (IntKind.u8.wrap m).toNat] = t) :
    Calls Tryz.prog 72 #[.agg #[.bool false, .bool true, .int .i64 n, .int .i64 p, .int .i64 q, .int .u8 99], .agg #[.int .u8 k, .int .i64 m, .string s]] w fun e w' =>
      e = .returned (.string ⟨([] ++ (List.replicate (n - 0 - t.length) 32 ++ t)).toArray⟩) ∧ Below w.heap.size w w' := by
  have hl : t.length ≤ 1 := by rw [← hi]; simp
  have HS : Hid (byteStr (IntKind.u8.wrap m) = ⟨t.toArray⟩) := by show byteStr (IntKind.u8.wrap m) = ⟨t.toArray⟩; rw [← hi]; exact byteStr_eq _
  clear hi
  have hk2 : (k != 115) = true := by rw [bne, hk1]; rfl
  go_enter Tryz.func72, Tryz.ntmps72
  go_wp2_with fail
  refine (refText_any _ _ _ _ hk).mono ?_
  rintro e w1 ⟨rfl, hb1⟩
  obtain ⟨qa1, qb1, hz1, hw1⟩ := box2n hb1
  clear hb1
  have kc : ∀ (tt : TypeId), (convert 166 9 (.slice (some ⟨w1.heap.size, 0, none⟩) 1 1)).run Tryz.prog (w1.alloc (.cells #[.int .u8 (m % 256)] tt)) = .ok (.string ⟨t.toArray⟩) (w1.alloc (.cells #[.int .u8 (m % 256)] tt)) := fun tt => by rw [← HS.out]; exact convByte w1 _ tt
  have hw2 : ∀ o, Below w.heap.size w (w1.alloc o) := fun o => hw1.alloc (by omega) o
  have hz9 : w.heap.size < w1.heap.size := by omega
  have hz8 : w.heap.size + 1 < w1.heap.size := by omega
  clear HS
  go_wp2
  go_loop [5, 6, 8] (fun x g c => ∃ j : Nat, j ≤ (n - 0 - t.length) ∧ c = .int .i64 j ∧ x = .string ⟨(List.replicate j 32 ++ t).toArray⟩ ∧ g = .string ⟨([] : List UInt8).toArray⟩) (fun _ _ c => (n + 1) - (intOf c).toNat)
  case atStart => exact ⟨0, by omega, rfl, st_right rfl 32, rfl⟩
  case round =>
    obtain ⟨j, hj, rfl, rfl, rfl⟩ := hrel
    have hlen : (List.replicate j (32 : UInt8) ++ t).length ≤ 70000 := by simp; omega
    obtain ⟨tt, HTT⟩ : ∃ tt, Hid ((List.replicate j (32 : UInt8) ++ t) = tt) := ⟨_, rfl⟩
    rw [HTT.out] at hlen ⊢
    by_cases hlt : (j : Int) < (n : Int) - 0 - t.length
    · go_wp2
      go_round
      case rel => exact ⟨j + 1, by omega, by go_num, by rw [← HTT.out]; exact up_right t j 32, rfl⟩
      case measure => simp [intOf]; omega
    · go_wp2
      go_ret
      exact ⟨ret_str (by rw [← HTT.out, show j = (n - 0 - t.length) by omega]; apply ByteArray.ext; simp), hw2 _⟩

set_option maxRecDepth 100000 in
set_option maxHeartbeats 1000000 in
theorem shown_ct_left (Z : Bool) (n : Nat) (q : Int) (k m : Int) (s : ByteArray) (w : World) (hn : n ≤ 99) (hk : (k == 110) = false) (t : List UInt8) (p : Int) (hk1 : k = 115) (h1 : 1 < s.size) (hi : s.data.toList.take 1 = t) :
    Calls Tryz.prog 72 #[.agg #[.bool true, .bool Z, .int .i64 n, .int .i64 p, .int .i64 q, .int .u8 99], .agg #[.int .u8 k, .int .i64 m, .string s]] w fun e w' =>
      e = .returned (.string ⟨([] ++ (t ++ List.replicate (n - 0 - t.length) 32)).toArray⟩) ∧ Below w.heap.size w w' := by
  subst hk1
  have hl : t.length ≤ 1 := by rw [← hi]; simp; omega
  have hext : s.extract 0 1 = ⟨t.toArray⟩ := by rw [extract_take, hi]
  clear hi
  go_enter Tryz.func72, Tryz.ntmps72
  go_wp2_with fail
  refine (refText_any _ _ _ _ hk).mono ?_
  rintro e w1 ⟨rfl, hb1⟩
  obtain ⟨qa1, qb1, hz1, hw1⟩ := box2n hb1
  clear hb1
  have hz9 : w.heap.size < w1.heap.size := by omega
  go_wp2
  go_loop [5, 6, 8] (fun x g c => ∃ j : Nat, j ≤ (n - 0 - t.length) ∧ c = .int .i64 j ∧ x = .string ⟨(t ++ List.replicate j 32).toArray⟩ ∧ g = .string ⟨([] : List UInt8).toArray⟩) (fun _ _ c => (n + 1) - (intOf c).toNat)
  case atStart => exact ⟨0, by omega, rfl, st_left rfl 32, rfl⟩
  case round =>
    obtain ⟨j, hj, rfl, rfl, rfl⟩ := hrel
    have hlen : (t ++ List.replicate j (32 : UInt8)).length ≤ 70000 := by simp; omega
    obtain ⟨tt, HTT⟩ : ∃ tt, Hid ((t ++ List.replicate j (32 : UInt8)) = tt) := ⟨_, rfl⟩
    rw [HTT.out] at hlen ⊢
    by_cases hlt : (j : Int) < (n : Int) - 0 - t.length
    · go_wp2
      go_round
      case rel => exact ⟨j + 1, by omega, by go_num, by rw [← HTT.out]; exact up_left t j 32, rfl⟩
      case measure => simp [intOf]; omega
    · go_wp2
      go_ret
      exact ⟨ret_str (by rw [← HTT.out, show j = (n - 0 - t.length) by omega]; apply ByteArray.ext; simp), hw1⟩

set_option maxRecDepth 100000 in
set_option maxHeartbeats 1000000 in
theorem shown_cu_left (Z : Bool) (n : Nat) (q : Int) (k m : Int) (s : ByteArray) (w : World) (hn : n ≤ 99) (hk : (k == 110) = false) (t : List UInt8) (p : Int) (hk1 : k = 115) (h1 : s.size ≤ 1) (hi : s.data.toList = t) :
    Calls Tryz.prog 72 #[.agg #[.bool true, .bool Z, .int .i64 n, .int .i64 p, .int .i64 q, .int .u8 99], .agg #[.int .u8 k, .int .i64 m, .string s]] w fun e w' =>
      e = .returned (.string ⟨([] ++ (t ++ List.replicate (n - 0 - t.length) 32)).toArray⟩) ∧ Below w.heap.size w w' := by
  subst hk1
  have hl : t.length ≤ 1 := by rw [← hi, len_eq]; exact h1
  have hsz : s.size = t.length := by rw [← hi, len_eq]
  obtain rfl : s = ⟨t.toArray⟩ := by rw [← hi]
  clear hi hsz
  have h1' : t.length ≤ 1 := hl
  go_enter Tryz.func72, Tryz.ntmps72
  go_wp2_with fail
  refine (refText_any _ _ _ _ hk).mono ?_
  rintro e w1 ⟨rfl, hb1⟩
  obtain ⟨qa1, qb1, hz1, hw1⟩ := box2n hb1
  clear hb1
  have hz9 : w.heap.size < w1.heap.size := by omega
  go_wp2
  go_loop [5, 6, 8] (fun x g c => ∃ j : Nat, j ≤ (n - 0 - t.length) ∧ c = .int .i64 j ∧ x = .string ⟨(t ++ List.replicate j 32).toArray⟩ ∧ g = .string ⟨([] : List UInt8).toArray⟩) (fun _ _ c => (n + 1) - (intOf c).toNat)
  case atStart => exact ⟨0, by omega, rfl, st_left rfl 32, rfl⟩
  case round =>
    obtain ⟨j, hj, rfl, rfl, rfl⟩ := hrel
    have hlen : (t ++ List.replicate j (32 : UInt8)).length ≤ 70000 := by simp; omega
    obtain ⟨tt, HTT⟩ : ∃ tt, Hid ((t ++ List.replicate j (32 : UInt8)) = tt) := ⟨_, rfl⟩
    rw [HTT.out] at hlen ⊢
    by_cases hlt : (j : Int) < (n : Int) - 0 - t.length
    · go_wp2
      go_round
      case rel => exact ⟨j + 1, by omega, by go_num, by rw [← HTT.out]; exact up_left t j 32, rfl⟩
      case measure => simp [intOf]; omega
    · go_wp2
      go_ret
      exact ⟨ret_str (by rw [← HTT.out, show j = (n - 0 - t.length) by omega]; apply ByteArray.ext; simp), hw1⟩

set_option maxRecDepth 100000 in
set_option maxHeartbeats 1000000 in
theorem shown_ct_blank0 (n : Nat) (q : Int) (k m : Int) (s : ByteArray) (w : World) (hn : n ≤ 99) (hk : (k == 110) = false) (t : List UInt8) (p : Int) (hk1 : k = 115) (h1 : 1 < s.size) (hi : s.data.toList.take 1 = t) :
    Calls Tryz.prog 72 #[.agg #[.bool false, .bool false, .int .i64 n, .int .i64 p, .int .i64 q, .int .u8 99], .agg #[.int .u8 k, .int .i64 m, .string s]] w fun e w' =>
      e = .returned (.string ⟨([] ++ (List.replicate (n - 0 - t.length) 32 ++ t)).toArray⟩) ∧ Below w.heap.size w w' := by
  subst hk1
  have hl : t.length ≤ 1 := by rw [← hi]; simp; omega
  have hext : s.extract 0 1 = ⟨t.toArray⟩ := by rw [extract_take, hi]
  clear hi
  go_enter Tryz.func72, Tryz.ntmps72
  go_wp2_with fail
  refine (refText_any _ _ _ _ hk).mono ?_
  rintro e w1 ⟨rfl, hb1⟩
  obtain ⟨qa1, qb1, hz1, hw1⟩ := box2n hb1
  clear hb1
  have hz9 : w.heap.size < w1.heap.size := by omega
  go_wp2
  go_loop [5, 6, 8] (fun x g c => ∃ j : Nat, j ≤ (n - 0 - t.length) ∧ c = .int .i64 j ∧ x = .string ⟨(List.replicate j 32 ++ t).toArray⟩ ∧ g = .string ⟨([] : List UInt8).toArray⟩) (fun _ _ c => (n + 1) - (intOf c).toNat)
  case atStart => exact ⟨0, by omega, rfl, st_right rfl 32, rfl⟩
  case round =>
    obtain ⟨j, hj, rfl, rfl, rfl⟩ := hrel
    have hlen : (List.replicate j (32 : UInt8) ++ t).length ≤ 70000 := by simp; omega
    obtain ⟨tt, HTT⟩ : ∃ tt, Hid ((List.replicate j (32 : UInt8) ++ t) = tt) := ⟨_, rfl⟩
    rw [HTT.out] at hlen ⊢
    by_cases hlt : (j : Int) < (n : Int) - 0 - t.length
    · go_wp2
      go_round
      case rel => exact ⟨j + 1, by omega, by go_num, by rw [← HTT.out]; exact up_right t j 32, rfl⟩
      case measure => simp [intOf]; omega
    · go_wp2
      go_ret
      exact ⟨ret_str (by rw [← HTT.out, show j = (n - 0 - t.length) by omega]; apply ByteArray.ext; simp), hw1⟩

set_option maxRecDepth 100000 in
set_option maxHeartbeats 1000000 in
theorem shown_cu_blank0 (n : Nat) (q : Int) (k m : Int) (s : ByteArray) (w : World) (hn : n ≤ 99) (hk : (k == 110) = false) (t : List UInt8) (p : Int) (hk1 : k = 115) (h1 : s.size ≤ 1) (hi : s.data.toList = t) :
    Calls Tryz.prog 72 #[.agg #[.bool false, .bool false, .int .i64 n, .int .i64 p, .int .i64 q, .int .u8 99], .agg #[.int .u8 k, .int .i64 m, .string s]] w fun e w' =>
      e = .returned (.string ⟨([] ++ (List.replicate (n - 0 - t.length) 32 ++ t)).toArray⟩) ∧ Below w.heap.size w w' := by
  subst hk1
  have hl : t.length ≤ 1 := by rw [← hi, len_eq]; exact h1
  have hsz : s.size = t.length := by rw [← hi, len_eq]
  obtain rfl : s = ⟨t.toArray⟩ := by rw [← hi]
  clear hi hsz
  have h1' : t.length ≤ 1 := hl
  go_enter Tryz.func72, Tryz.ntmps72
  go_wp2_with fail
  refine (refText_any _ _ _ _ hk).mono ?_
  rintro e w1 ⟨rfl, hb1⟩
  obtain ⟨qa1, qb1, hz1, hw1⟩ := box2n hb1
  clear hb1
  have hz9 : w.heap.size < w1.heap.size := by omega
  go_wp2
  go_loop [5, 6, 8] (fun x g c => ∃ j : Nat, j ≤ (n - 0 - t.length) ∧ c = .int .i64 j ∧ x = .string ⟨(List.replicate j 32 ++ t).toArray⟩ ∧ g = .string ⟨([] : List UInt8).toArray⟩) (fun _ _ c => (n + 1) - (intOf c).toNat)
  case atStart => exact ⟨0, by omega, rfl, st_right rfl 32, rfl⟩
  case round =>
    obtain ⟨j, hj, rfl, rfl, rfl⟩ := hrel
    have hlen : (List.replicate j (32 : UInt8) ++ t).length ≤ 70000 := by simp; omega
    obtain ⟨tt, HTT⟩ : ∃ tt, Hid ((List.replicate j (32 : UInt8) ++ t) = tt) := ⟨_, rfl⟩
    rw [HTT.out] at hlen ⊢
    by_cases hlt : (j : Int) < (n : Int) - 0 - t.length
    · go_wp2
      go_round
      case rel => exact ⟨j + 1, by omega, by go_num, by rw [← HTT.out]; exact up_right t j 32, rfl⟩
      case measure => simp [intOf]; omega
    · go_wp2
      go_ret
      exact ⟨ret_str (by rw [← HTT.out, show j = (n - 0 - t.length) by omega]; apply ByteArray.ext; simp), hw1⟩

set_option maxRecDepth 100000 in
set_option maxHeartbeats 1000000 in
theorem shown_ct_blank1 (n : Nat) (q : Int) (k m : Int) (s : ByteArray) (w : World) (hn : n ≤ 99) (hk : (k == 110) = false) (t : List UInt8) (p : Int) (hk1 : k = 115) (h1 : 1 < s.size) (hi : s.data.toList.take 1 = t) :
    Calls Tryz.prog 72 #[.agg #[.bool false, .bool true, .int .i64 n, .int .i64 p, .int .i64 q, .int .u8 99], .agg #[.int .u8 k, .int .i64 m, .string s]] w fun e w' =>
      e = .returned (.string ⟨([] ++ (List.replicate (n - 0 - t.length) 32 ++ t)).toArray⟩) ∧ Below w.heap.size w w' := by
  subst hk1
  have hl : t.length ≤ 1 := by rw [← hi]; simp; omega
  have hext : s.extract 0 1 = ⟨t.toArray⟩ := by rw [extract_take, hi]
  clear hi
  go_enter Tryz.func72, Tryz.ntmps72
  go_wp2_with fail
  refine (refText_any _ _ _ _ hk).mono ?_
  rintro e w1 ⟨rfl, hb1⟩
  obtain ⟨qa1, qb1, hz1, hw1⟩ := box2n hb1
  clear hb1
  have hz9 : w.heap.size < w1.heap.size := by omega
  go_wp2
  go_loop [5, 6, 8] (fun x g c => ∃ j : Nat, j ≤ (n - 0 - t.length) ∧ c = .int .i64 j ∧ x = .string ⟨(List.replicate j 32 ++ t).toArray⟩ ∧ g = .string ⟨([] : List UInt8).toArray⟩) (fun _ _ c => (n + 1) - (intOf c).toNat)
  case atStart => exact ⟨0, by omega, rfl, st_right rfl 32, rfl⟩
  case round =>
    obtain ⟨j, hj, rfl, rfl, rfl⟩ := hrel
    have hlen : (List.replicate j (32 : UInt8) ++ t).length ≤ 70000 := by simp; omega
    obtain ⟨tt, HTT⟩ : ∃ tt, Hid ((List.replicate j (32 : UInt8) ++ t) = tt) := ⟨_, rfl⟩
    rw [HTT.out] at hlen ⊢
    by_cases hlt : (j : Int) < (n : Int) - 0 - t.length
    · go_wp2
      go_round
      case rel => exact ⟨j + 1, by omega, by go_num, by rw [← HTT.out]; exact up_right t j 32, rfl⟩
      case measure => simp [intOf]; omega
    · go_wp2
      go_ret
      exact ⟨ret_str (by rw [← HTT.out, show j = (n - 0 - t.length) by omega]; apply ByteArray.ext; simp), hw1⟩

set_option maxRecDepth 100000 in
set_option maxHeartbeats 1000000 in
theorem shown_cu_blank1 (n : Nat) (q : Int) (k m : Int) (s : ByteArray) (w : World) (hn : n ≤ 99) (hk : (k == 110) = false) (t : List UInt8) (p : Int) (hk1 : k = 115) (h1 : s.size ≤ 1) (hi : s.data.toList = t) :
    Calls Tryz.prog 72 #[.agg #[.bool false, .bool true, .int .i64 n, .int .i64 p, .int .i64 q, .int .u8 99], .agg #[.int .u8 k, .int .i64 m, .string s]] w fun e w' =>
      e = .returned (.string ⟨([] ++ (List.replicate (n - 0 - t.length) 32 ++ t)).toArray⟩) ∧ Below w.heap.size w w' := by
  subst hk1
  have hl : t.length ≤ 1 := by rw [← hi, len_eq]; exact h1
  have hsz : s.size = t.length := by rw [← hi, len_eq]
  obtain rfl : s = ⟨t.toArray⟩ := by rw [← hi]
  clear hi hsz
  have h1' : t.length ≤ 1 := hl
  go_enter Tryz.func72, Tryz.ntmps72
  go_wp2_with fail
  refine (refText_any _ _ _ _ hk).mono ?_
  rintro e w1 ⟨rfl, hb1⟩
  obtain ⟨qa1, qb1, hz1, hw1⟩ := box2n hb1
  clear hb1
  have hz9 : w.heap.size < w1.heap.size := by omega
  go_wp2
  go_loop [5, 6, 8] (fun x g c => ∃ j : Nat, j ≤ (n - 0 - t.length) ∧ c = .int .i64 j ∧ x = .string ⟨(List.replicate j 32 ++ t).toArray⟩ ∧ g = .string ⟨([] : List UInt8).toArray⟩) (fun _ _ c => (n + 1) - (intOf c).toNat)
  case atStart => exact ⟨0, by omega, rfl, st_right rfl 32, rfl⟩
  case round =>
    obtain ⟨j, hj, rfl, rfl, rfl⟩ := hrel
    have hlen : (List.replicate j (32 : UInt8) ++ t).length ≤ 70000 := by simp; omega
    obtain ⟨tt, HTT⟩ : ∃ tt, Hid ((List.replicate j (32 : UInt8) ++ t) = tt) := ⟨_, rfl⟩
    rw [HTT.out] at hlen ⊢
    by_cases hlt : (j : Int) < (n : Int) - 0 - t.length
    · go_wp2
      go_round
      case rel => exact ⟨j + 1, by omega, by go_num, by rw [← HTT.out]; exact up_right t j 32, rfl⟩
      case measure => simp [intOf]; omega
    · go_wp2
      go_ret
      exact ⟨ret_str (by rw [← HTT.out, show j = (n - 0 - t.length) by omega]; apply ByteArray.ext; simp), hw1⟩

set_option maxRecDepth 100000 in
set_option maxHeartbeats 1000000 in
theorem shown_sp_left (Z : Bool) (n : Nat) (q : Int) (k m : Int) (s : ByteArray) (w : World) (hn : n ≤ 99) (hk : (k == 110) = false) (t : List UInt8) (p : Nat) (hp : p ≤ 99) (h1 : p < s.size) (hi : s.data.toList.take p = t) :
    Calls Tryz.prog 72 #[.agg #[.bool true, .bool Z, .int .i64 n, .int .i64 p, .int .i64 q, .int .u8 115], .agg #[.int .u8 k, .int .i64 m, .string s]] w fun e w' =>
      e = .returned (.string ⟨([] ++ (t ++ List.replicate (n - 0 - t.length) 32)).toArray⟩) ∧ Below w.heap.size w w' := by
  have hl : t.length ≤ 100 := by rw [← hi]; simp; omega
  have htl : t.length = p := by rw [← hi, List.length_take, len_eq]; omega
  have hext : s.extract 0 p = ⟨t.toArray⟩ := by rw [extract_take, hi]
  have HP := hide htl
  clear hi htl
  go_enter Tryz.func72, Tryz.ntmps72
  go_wp2_with fail
  refine (refText_any _ _ _ _ hk).mono ?_
  rintro e w1 ⟨rfl, hb1⟩
  obtain ⟨qa1, qb1, hz1, hw1⟩ := box2n hb1
  clear hb1
  have hz9 : w.heap.size < w1.heap.size := by omega
  go_wp2
  go_loop [5, 6, 8] (fun x g c => ∃ j : Nat, j ≤ (n - 0 - t.length) ∧ c = .int .i64 j ∧ x = .string ⟨(t ++ List.replicate j 32).toArray⟩ ∧ g = .string ⟨([] : List UInt8).toArray⟩) (fun _ _ c => (n + 1) - (intOf c).toNat)
  case atStart => exact ⟨0, by omega, rfl, st_left rfl 32, rfl⟩
  case round =>
    obtain ⟨j, hj, rfl, rfl, rfl⟩ := hrel
    have hlen : (t ++ List.replicate j (32 : UInt8)).length ≤ 70000 := by simp; omega
    obtain ⟨tt, HTT⟩ : ∃ tt, Hid ((t ++ List.replicate j (32 : UInt8)) = tt) := ⟨_, rfl⟩
    rw [HTT.out] at hlen ⊢
    by_cases hlt : (j : Int) < (n : Int) - 0 - t.length
    · go_wp2
      go_round
      case rel => exact ⟨j + 1, by omega, by go_num, by rw [← HTT.out]; exact up_left t j 32, rfl⟩
      case measure => simp [intOf]; omega
    · go_wp2
      go_ret
      exact ⟨ret_str (by rw [← HTT.out, show j = (n - 0 - t.length) by omega]; apply ByteArray.ext; simp), hw1⟩

set_option maxRecDepth 100000 in
set_option maxHeartbeats 1000000 in
theorem shown_sn_left (Z : Bool) (n : Nat) (q : Int) (k m : Int) (s : ByteArray) (w : World) (hn : n ≤ 99) (hs : s.size ≤ 65536) (hk : (k == 110) = false) (t : List UInt8) (p : Int) (h1 : p < 0) (hi : s.data.toList = t) :
    Calls Tryz.prog 72 #[.agg #[.bool true, .bool Z, .int .i64 n, .int .i64 p, .int .i64 q, .int .u8 115], .agg #[.int .u8 k, .int .i64 m, .string s]] w fun e w' =>
      e = .returned (.string ⟨([] ++ (t ++ List.replicate (n - 0 - t.length) 32)).toArray⟩) ∧ Below w.heap.size w w' := by
  have hl : t.length ≤ 65536 := by rw [← hi, len_eq]; exact hs
  obtain rfl : s = ⟨t.toArray⟩ := by rw [← hi]
  clear hi
  go_enter Tryz.func72, Tryz.ntmps72
  go_wp2_with fail
  refine (refText_any _ _ _ _ hk).mono ?_
  rintro e w1 ⟨rfl, hb1⟩
  obtain ⟨qa1, qb1, hz1, hw1⟩ := box2n hb1
  clear hb1
  have hz9 : w.heap.size < w1.heap.size := by omega
  go_wp2
  go_loop [5, 6, 8] (fun x g c => ∃ j : Nat, j ≤ (n - 0 - t.length) ∧ c = .int .i64 j ∧ x = .string ⟨(t ++ List.replicate j 32).toArray⟩ ∧ g = .string ⟨([] : List UInt8).toArray⟩) (fun _ _ c => (n + 1) - (intOf c).toNat)
  case atStart => exact ⟨0, by omega, rfl, st_left rfl 32, rfl⟩
  case round =>
    obtain ⟨j, hj, rfl, rfl, rfl⟩ := hrel
    have hlen : (t ++ List.replicate j (32 : UInt8)).length ≤ 70000 := by simp; omega
    obtain ⟨tt, HTT⟩ : ∃ tt, Hid ((t ++ List.replicate j (32 : UInt8)) = tt) := ⟨_, rfl⟩
    rw [HTT.out] at hlen ⊢
    by_cases hlt : (j : Int) < (n : Int) - 0 - t.length
    · go_wp2
      go_round
      case rel => exact ⟨j + 1, by omega, by go_num, by rw [← HTT.out]; exact up_left t j 32, rfl⟩
      case measure => simp [intOf]; omega
    · go_wp2
      go_ret
      exact ⟨ret_str (by rw [← HTT.out, show j = (n - 0 - t.length) by omega]; apply ByteArray.ext; simp), hw1⟩

set_option maxRecDepth 100000 in
set_option maxHeartbeats 1000000 in
theorem shown_sl_left (Z : Bool) (n : Nat) (q : Int) (k m : Int) (s : ByteArray) (w : World) (hn : n ≤ 99) (hs : s.size ≤ 65536) (hk : (k == 110) = false) (t : List UInt8) (p : Int) (h1 : (s.size : Int) ≤ p) (hi : s.data.toList = t) :
    Calls Tryz.prog 72 #[.agg #[.bool true, .bool Z, .int .i64 n, .int .i64 p, .int .i64 q, .int .u8 115], .agg #[.int .u8 k, .int .i64 m, .string s]] w fun e w' =>
      e = .returned (.string ⟨([] ++ (t ++ List.replicate (n - 0 - t.length) 32)).toArray⟩) ∧ Below w.heap.size w w' := by
  have hl : t.length ≤ 65536 := by rw [← hi, len_eq]; exact hs
  obtain rfl : s = ⟨t.toArray⟩ := by rw [← hi]
  clear hi
  rw [size_mk] at h1
  have hp0 : 0 ≤ p := by omega
  go_enter Tryz.func72, Tryz.ntmps72
  go_wp2_with fail
  refine (refText_any _ _ _ _ hk).mono ?_
  rintro e w1 ⟨rfl, hb1⟩
  obtain ⟨qa1, qb1, hz1, hw1⟩ := box2n hb1
  clear hb1
  have hz9 : w.heap.size < w1.heap.size := by omega
  go_wp2
  go_loop [5, 6, 8] (fun x g c => ∃ j : Nat, j ≤ (n - 0 - t.length) ∧ c = .int .i64 j ∧ x = .string ⟨(t ++ List.replicate j 32).toArray⟩ ∧ g = .string ⟨([] : List UInt8).toArray⟩) (fun _ _ c => (n + 1) - (intOf c).toNat)
  case atStart => exact ⟨0, by omega, rfl, st_left rfl 32, rfl⟩
  case round =>
    obtain ⟨j, hj, rfl, rfl, rfl⟩ := hrel
    have hlen : (t ++ List.replicate j (32 : UInt8)).length ≤ 70000 := by simp; omega
    obtain ⟨tt, HTT⟩ : ∃ tt, Hid ((t ++ List.replicate j (32 : UInt8)) = tt) := ⟨_, rfl⟩
    rw [HTT.out] at hlen ⊢
    by_cases hlt : (j : Int) < (n : Int) - 0 - t.length
    · go_wp2
      go_round
      case rel => exact ⟨j + 1, by omega, by go_num, by rw [← HTT.out]; exact up_left t j 32, rfl⟩
      case measure => simp [intOf]; omega
    · go_wp2
      go_ret
      exact ⟨ret_str (by rw [← HTT.out, show j = (n - 0 - t.length) by omega]; apply ByteArray.ext; simp), hw1⟩

set_option maxRecDepth 100000 in
set_option maxHeartbeats 1000000 in
theorem shown_sp_blank0 (n : Nat) (q : Int) (k m : Int) (s : ByteArray) (w : World) (hn : n ≤ 99) (hk : (k == 110) = false) (t : List UInt8) (p : Nat) (hp : p ≤ 99) (h1 : p < s.size) (hi : s.data.toList.take p = t) :
    Calls Tryz.prog 72 #[.agg #[.bool false, .bool false, .int .i64 n, .int .i64 p, .int .i64 q, .int .u8 115], .agg #[.int .u8 k, .int .i64 m, .string s]] w fun e w' =>
      e = .returned (.string ⟨([] ++ (List.replicate (n - 0 - t.length) 32 ++ t)).toArray⟩) ∧ Below w.heap.size w w' := by
  have hl : t.length ≤ 100 := by rw [← hi]; simp; omega
  have htl : t.length = p := by rw [← hi, List.length_take, len_eq]; omega
  have hext : s.extract 0 p = ⟨t.toArray⟩ := by rw [extract_take, hi]
  have HP := hide htl
  clear hi htl
  go_enter Tryz.func72, Tryz.ntmps72
  go_wp2_with fail
  refine (refText_any _ _ _ _ hk).mono ?_
  rintro e w1 ⟨rfl, hb1⟩
  obtain ⟨qa1, qb1, hz1, hw1⟩ := box2n hb1
  clear hb1
  have hz9 : w.heap.size < w1.heap.size := by omega
  go_wp2
  go_loop [5, 6, 8] (fun x g c => ∃ j : Nat, j ≤ (n - 0 - t.length) ∧ c = .int .i64 j ∧ x = .string ⟨(List.replicate j 32 ++ t).toArray⟩ ∧ g = .string ⟨([] : List UInt8).toArray⟩) (fun _ _ c => (n + 1) - (intOf c).toNat)
  case atStart => exact ⟨0, by omega, rfl, st_right rfl 32, rfl⟩
  case round =>
    obtain ⟨j, hj, rfl, rfl, rfl⟩ := hrel
    have hlen : (List.replicate j (32 : UInt8) ++ t).length ≤ 70000 := by simp; omega
    obtain ⟨tt, HTT⟩ : ∃ tt, Hid ((List.replicate j (32 : UInt8) ++ t) = tt) := ⟨_, rfl⟩
    rw [HTT.out] at hlen ⊢
    by_cases hlt : (j : Int) < (n : Int) - 0 - t.length
    · go_wp2
      go_round
      case rel => exact ⟨j + 1, by omega, by go_num, by rw [← HTT.out]; exact up_right t j 32, rfl⟩
      case measure => simp [intOf]; omega
    · go_wp2
      go_ret
      exact ⟨ret_str (by rw [← HTT.out, show j = (n - 0 - t.length) by omega]; apply ByteArray.ext; simp), hw1⟩

set_option maxRecDepth 100000 in
set_option maxHeartbeats 1000000 in
theorem shown_sn_blank0 (n : Nat) (q : Int) (k m : Int) (s : ByteArray) (w : World) (hn : n ≤ 99) (hs : s.size ≤ 65536) (hk : (k == 110) = false) (t : List UInt8) (p : Int) (h1 : p < 0) (hi : s.data.toList = t) :
    Calls Tryz.prog 72 #[.agg #[.bool false, .bool false, .int .i64 n, .int .i64 p, .int .i64 q, .int .u8 115], .agg #[.int .u8 k, .int .i64 m, .string s]] w fun e w' =>
      e = .returned (.string ⟨([] ++ (List.replicate (n - 0 - t.length) 32 ++ t)).toArray⟩) ∧ Below w.heap.size w w' := by
  have hl : t.length ≤ 65536 := by rw [← hi, len_eq]; exact hs
  obtain rfl : s = ⟨t.toArray⟩ := by rw [← hi]
  clear hi
  go_enter Tryz.func72, Tryz.ntmps72
  go_wp2_with fail
  refine (refText_any _ _ _ _ hk).mono ?_
  rintro e w1 ⟨rfl, hb1⟩
  obtain ⟨qa1, qb1, hz1, hw1⟩ := box2n hb1
  clear hb1
  have hz9 : w.heap.size < w1.heap.size := by omega
  go_wp2
  go_loop [5, 6, 8] (fun x g c => ∃ j : Nat, j ≤ (n - 0 - t.length) ∧ c = .int .i64 j ∧ x = .string ⟨(List.replicate j 32 ++ t).toArray⟩ ∧ g = .string ⟨([] : List UInt8).toArray⟩) (fun _ _ c => (n + 1) - (intOf c).toNat)
  case atStart => exact ⟨0, by omega, rfl, st_right rfl 32, rfl⟩
  case round =>
    obtain ⟨j, hj, rfl, rfl, rfl⟩ := hrel
    have hlen : (List.replicate j (32 : UInt8) ++ t).length ≤ 70000 := by simp; omega
    obtain ⟨tt, HTT⟩ : ∃ tt, Hid ((List.replicate j (32 : UInt8) ++ t) = tt) := ⟨_, rfl⟩
    rw [HTT.out] at hlen ⊢
    by_cases hlt : (j : Int) < (n : Int) - 0 - t.length
    · go_wp2
      go_round
      case rel => exact ⟨j + 1, by omega, by go_num, by rw [← HTT.out]; exact up_right t j 32, rfl⟩
      case measure => simp [intOf]; omega
    · go_wp2
      go_ret
      exact ⟨ret_str (by rw [← HTT.out, show j = (n - 0 - t.length) by omega]; apply ByteArray.ext; simp), hw1⟩

set_option maxRecDepth 100000 in
set_option maxHeartbeats 1000000 in
theorem shown_sl_blank0 (n : Nat) (q : Int) (k m : Int) (s : ByteArray) (w : World) (hn : n ≤ 99) (hs : s.size ≤ 65536) (hk : (k == 110) = false) (t : List UInt8) (p : Int) (h1 : (s.size : Int) ≤ p) (hi : s.data.toList = t) :
    Calls Tryz.prog 72 #[.agg #[.bool false, .bool false, .int .i64 n, .int .i64 p, .int .i64 q, .int .u8 115], .agg #[.int .u8 k, .int .i64 m, .string s]] w fun e w' =>
      e = .returned (.string ⟨([] ++ (List.replicate (n - 0 - t.length) 32 ++ t)).toArray⟩) ∧ Below w.heap.size w w' := by
  have hl : t.length ≤ 65536 := by rw [← hi, len_eq]; exact hs
  obtain rfl : s = ⟨t.toArray⟩ := by rw [← hi]
  clear hi
  rw [size_mk] at h1
  have hp0 : 0 ≤ p := by omega
  go_enter Tryz.func72, Tryz.ntmps72
  go_wp2_with fail
  refine (refText_any _ _ _ _ hk).mono ?_
  rintro e w1 ⟨rfl, hb1⟩
  obtain ⟨qa1, qb1, hz1, hw1⟩ := box2n hb1
  clear hb1
  have hz9 : w.heap.size < w1.heap.size := by omega
  go_wp2
  go_loop [5, 6, 8] (fun x g c => ∃ j : Nat, j ≤ (n - 0 - t.length) ∧ c = .int .i64 j ∧ x = .string ⟨(List.replicate j 32 ++ t).toArray⟩ ∧ g = .string ⟨([] : List UInt8).toArray⟩) (fun _ _ c => (n + 1) - (intOf c).toNat)
  case atStart => exact ⟨0, by omega, rfl, st_right rfl 32, rfl⟩
  case round =>
    obtain ⟨j, hj, rfl, rfl, rfl⟩ := hrel
    have hlen : (List.replicate j (32 : UInt8) ++ t).length ≤ 70000 := by simp; omega
    obtain ⟨tt, HTT⟩ : ∃ tt, Hid ((List.replicate j (32 : UInt8) ++ t) = tt) := ⟨_, rfl⟩
    rw [HTT.out] at hlen ⊢
    by_cases hlt : (j : Int) < (n : Int) - 0 - t.length
    · go_wp2
      go_round
      case rel => exact ⟨j + 1, by omega, by go_num, by rw [← HTT.out]; exact up_right t j 32, rfl⟩
      case measure => simp [intOf]; omega
    · go_wp2
      go_ret
      exact ⟨ret_str (by rw [← HTT.out, show j = (n - 0 - t.length) by omega]; apply ByteArray.ext; simp), hw1⟩

set_option maxRecDepth 100000 in
set_option maxHeartbeats 1000000 in
theorem shown_sp_blank1 (n : Nat) (q : Int) (k m : Int) (s : ByteArray) (w : World) (hn : n ≤ 99) (hk : (k == 110) = false) (t : List UInt8) (p : Nat) (hp : p ≤ 99) (h1 : p < s.size) (hi : s.data.toList.take p = t) :
    Calls Tryz.prog 72 #[.agg #[.bool false, .bool true, .int .i64 n, .int .i64 p, .int .i64 q, .int .u8 115], .agg #[.int .u8 k, .int .i64 m, .string s]] w fun e w' =>
      e = .returned (.string ⟨([] ++ (List.replicate (n - 0 - t.length) 32 ++ t)).toArray⟩) ∧ Below w.heap.size w w' := by
  have hl : t.length ≤ 100 := by rw [← hi]; simp; omega
  have htl : t.length = p := by rw [← hi, List.length_take, len_eq]; omega
  have hext : s.extract 0 p = ⟨t.toArray⟩ := by rw [extract_take, hi]
  have HP := hide htl
  clear hi htl
  go_enter Tryz.func72, Tryz.ntmps72
  go_wp2_with fail
  refine (refText_any _ _ _ _ hk).mono ?_
  rintro e w1 ⟨rfl, hb1⟩
  obtain ⟨qa1, qb1, hz1, hw1⟩ := box2n hb1
  clear hb1
  have hz9 : w.heap.size < w1.heap.size := by omega
  go_wp2
  go_loop [5, 6, 8] (fun x g c => ∃ j : Nat, j ≤ (n - 0 - t.length) ∧ c = .int .i64 j ∧ x = .string ⟨(List.replicate j 32 ++ t).toArray⟩ ∧ g = .string ⟨([] : List UInt8).toArray⟩) (fun _ _ c => (n + 1) - (intOf c).toNat)
  case atStart => exact ⟨0, by omega, rfl, st_right rfl 32, rfl⟩
  case round =>
    obtain ⟨j, hj, rfl, rfl, rfl⟩ := hrel
    have hlen : (List.replicate j (32 : UInt8) ++ t).length ≤ 70000 := by simp; omega
    obtain ⟨tt, HTT⟩ : ∃ tt, Hid ((List.replicate j (32 : UInt8) ++ t) = tt) := ⟨_, rfl⟩
    rw [HTT.out] at hlen ⊢
    by_cases hlt : (j : Int) < (n : Int) - 0 - t.length
    · go_wp2
      go_round
      case rel => exact ⟨j + 1, by omega, by go_num, by rw [← HTT.out]; exact up_right t j 32, rfl⟩
      case measure => simp [intOf]; omega
    · go_wp2
      go_ret
      exact ⟨ret_str (by rw [← HTT.out, show j = (n - 0 - t.length) by omega]; apply ByteArray.ext; simp), hw1⟩

set_option maxRecDepth 100000 in
set_option maxHeartbeats 1000000 in
theorem shown_sn_blank1 (n : Nat) (q : Int) (k m : Int) (s : ByteArray) (w : World) (hn : n ≤ 99) (hs : s.size ≤ 65536) (hk : (k == 110) = false) (t : List UInt8) (p : Int) (h1 : p < 0) (hi : s.data.toList = t) :
    Calls Tryz.prog 72 #[.agg #[.bool false, .bool true, .int .i64 n, .int .i64 p, .int .i64 q, .int .u8 115], .agg #[.int .u8 k, .int .i64 m, .string s]] w fun e w' =>
      e = .returned (.string ⟨([] ++ (List.replicate (n - 0 - t.length) 32 ++ t)).toArray⟩) ∧ Below w.heap.size w w' := by
  have hl : t.length ≤ 65536 := by rw [← hi, len_eq]; exact hs
  obtain rfl : s = ⟨t.toArray⟩ := by rw [← hi]
  clear hi
  go_enter Tryz.func72, Tryz.ntmps72
  go_wp2_with fail
  refine (refText_any _ _ _ _ hk).mono ?_
  rintro e w1 ⟨rfl, hb1⟩
  obtain ⟨qa1, qb1, hz1, hw1⟩ := box2n hb1
  clear hb1
  have hz9 : w.heap.size < w1.heap.size := by omega
  go_wp2
  go_loop [5, 6, 8] (fun x g c => ∃ j : Nat, j ≤ (n - 0 - t.length) ∧ c = .int .i64 j ∧ x = .string ⟨(List.replicate j 32 ++ t).toArray⟩ ∧ g = .string ⟨([] : List UInt8).toArray⟩) (fun _ _ c => (n + 1) - (intOf c).toNat)
  case atStart => exact ⟨0, by omega, rfl, st_right rfl 32, rfl⟩
  case round =>
    obtain ⟨j, hj, rfl, rfl, rfl⟩ := hrel
    have hlen : (List.replicate j (32 : UInt8) ++ t).length ≤ 70000 := by simp; omega
    obtain ⟨tt, HTT⟩ : ∃ tt, Hid ((List.replicate j (32 : UInt8) ++ t) = tt) := ⟨_, rfl⟩
    rw [HTT.out] at hlen ⊢
    by_cases hlt : (j : Int) < (n : Int) - 0 - t.length
    · go_wp2
      go_round
      case rel => exact ⟨j + 1, by omega, by go_num, by rw [← HTT.out]; exact up_right t j 32, rfl⟩
      case measure => simp [intOf]; omega
    · go_wp2
      go_ret
      exact ⟨ret_str (by rw [← HTT.out, show j = (n - 0 - t.length) by omega]; apply ByteArray.ext; simp), hw1⟩

set_option maxRecDepth 100000 in
set_option maxHeartbeats 1000000 in
theorem shown_sl_blank1 (n : Nat) (q : Int) (k m : Int) (s : ByteArray) (w : World) (hn : n ≤ 99) (hs : s.size ≤ 65536) (hk : (k == 110) = false) (t : List UInt8) (p : Int) (h1 : (s.size : Int) ≤ p) (hi : s.data.toList = t) :
    Calls Tryz.prog 72 #[.agg #[.bool false, .bool true, .int .i64 n, .int .i64 p, .int .i64 q, .int .u8 115], .agg #[.int .u8 k, .int .i64 m, .string s]] w fun e w' =>
      e = .returned (.string ⟨([] ++ (List.replicate (n - 0 - t.length) 32 ++ t)).toArray⟩) ∧ Below w.heap.size w w' := by
  have hl : t.length ≤ 65536 := by rw [← hi, len_eq]; exact hs
  obtain rfl : s = ⟨t.toArray⟩ := by rw [← hi]
  clear hi
  rw [size_mk] at h1
  have hp0 : 0 ≤ p := by omega
  go_enter Tryz.func72, Tryz.ntmps72
  go_wp2_with fail
  refine (refText_any _ _ _ _ hk).mono ?_
  rintro e w1 ⟨rfl, hb1⟩
  obtain ⟨qa1, qb1, hz1, hw1⟩ := box2n hb1
  clear hb1
  have hz9 : w.heap.size < w1.heap.size := by omega
  go_wp2
  go_loop [5, 6, 8] (fun x g c => ∃ j : Nat, j ≤ (n - 0 - t.length) ∧ c = .int .i64 j ∧ x = .string ⟨(List.replicate j 32 ++ t).toArray⟩ ∧ g = .string ⟨([] : List UInt8).toArray⟩) (fun _ _ c => (n + 1) - (intOf c).toNat)
  case atStart => exact ⟨0, by omega, rfl, st_right rfl 32, rfl⟩
  case round =>
    obtain ⟨j, hj, rfl, rfl, rfl⟩ := hrel
    have hlen : (List.replicate j (32 : UInt8) ++ t).length ≤ 70000 := by simp; omega
    obtain ⟨tt, HTT⟩ : ∃ tt, Hid ((List.replicate j (32 : UInt8) ++ t) = tt) := ⟨_, rfl⟩
    rw [HTT.out] at hlen ⊢
    by_cases hlt : (j : Int) < (n : Int) - 0 - t.length
    · go_wp2
      go_round
      case rel => exact ⟨j + 1, by omega, by go_num, by rw [← HTT.out]; exact up_right t j 32, rfl⟩
      case measure => simp [intOf]; omega
    · go_wp2
      go_ret
      exact ⟨ret_str (by rw [← HTT.out, show j = (n - 0 - t.length) by omega]; apply ByteArray.ext; simp), hw1⟩
end Go.Proofs.YthhiofppbpgipaaGreatDoor
