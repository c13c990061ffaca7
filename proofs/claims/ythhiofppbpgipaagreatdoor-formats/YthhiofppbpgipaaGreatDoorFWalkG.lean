import Derived.Test.YthhiofppbpgipaaGreatDoorHexW
import Derived.WalkSmall
namespace Go.Proofs.YthhiofppbpgipaaGreatDoor
open Go.RowKit

theorem below_grow (w : World) (k : Nat) (os : Array Obj) : Below w.heap.size w (Sort.grow (w.drewN k) os) :=
  ⟨rfl, rfl, rfl, by show w.heap.size ≤ (w.heap ++ os).size; rw [Array.size_append]; omega, fun i hi => by show (w.heap ++ os)[i]? = _; rw [Array.getElem?_append_left hi]⟩
/-- The tables that the walks read: the powers of ten; the sixteenth cell of the table of trailing zeros. -/
structure Tabs (w : World) : Prop where
  pow : Lib.TabIs Tryz.prog w "internal/strconv.uint64pow10" .u64 Lib.pow10Tab
  tz : w.cell? ⟨13, 15, none⟩ = some (.int .u8 4)
  big : 14 ≤ w.heap.size
theorem g_pow : Tryz.prog.globalNamed "internal/strconv.uint64pow10" = some 10 := by kernel_rfl
theorem Tabs.below {w w' : World} {B : Nat} (h : Tabs w) (hb : Below B w w') (hB : 14 ≤ B) : Tabs w' :=
  ⟨var?_below hb g_pow (by omega) h.pow, by rw [hb.cell (p := ⟨13, 15, none⟩) (show 13 < B by omega)]; exact h.tz, Nat.le_trans h.big hb.size⟩
theorem Tabs.alloc {w : World} (h : Tabs w) (o : Obj) : Tabs (w.alloc o) := h.below ((Below.refl _ _).alloc (Nat.le_refl _) o) h.big
theorem Tabs.drew {w : World} (h : Tabs w) : Tabs w.drew := h.below ((Below.refl w.heap.size _).drew) h.big
theorem fmtInt (n : Int) (h0 : -9223372036854775808 ≤ n) (h1 : n ≤ 9223372036854775807) (w : World) (ht : Tabs w) :
    Calls Tryz.prog 124 #[.int .i64 n, .int .i64 10] w fun e w' => e = .returned (.string ⟨(Lib.itoa n).toArray⟩) ∧ Below w.heap.size w w' :=
  (Tryz.strconv_FormatInt_10 n h0 h1 w ht.pow).mono fun _ _ ⟨he, k, os, hw⟩ => ⟨he, hw ▸ below_grow w k os⟩
theorem itoa_any (n : Int) (h0 : -9223372036854775808 ≤ n) (h1 : n ≤ 9223372036854775807) (w : World) (ht : Tabs w) :
    Calls Tryz.prog 86 #[.int .i64 n] w fun e w' => e = .returned (.string ⟨(Lib.itoa n).toArray⟩) ∧ Below w.heap.size w w' :=
  (Tryz.strconv_Itoa n h0 h1 w ht.pow).mono fun _ _ ⟨he, k, os, hw⟩ => ⟨he, hw ▸ below_grow w k os⟩
/-- The number of a value of package value. -/
def numOf (k n : Int) (s : List UInt8) : Int := if k = 2 then leadNum s else n
theorem number_any (k n : Int) (s : ByteArray) (w : World) (hs : s.size ≤ 65536) :
    Calls Tryz.prog 125 #[.agg #[.int .i64 k, .int .i64 n, .string s]] w fun e w' => e = .returned (.int .i64 (numOf k n s.data.toList)) ∧ Below w.heap.size w w' := by
  unfold numOf
  by_cases h : k = 2
  · subst h; exact number_text n s w (by unfold maxLen; omega)
  · rw [if_neg h]; exact number_else k n s w (by rw [beq_eq_false_iff_ne]; exact h)
theorem fillNumber_any (L Z : Bool) (n : Nat) (p : Bool) (q : Int) (c : Int) (s : ByteArray) (w : World) (hn : n ≤ 99) (hs : s.size ≤ 65536) :
    Calls Tryz.prog 123 #[.agg #[.bool L, .bool Z, .int .i64 n, .bool p, .int .i64 q, .int .u8 c], .string s] w fun e w' => e = .returned (.string ⟨(fillN L Z n s.data.toList).toArray⟩) ∧ Below w.heap.size w w' := by
  cases h : (L || !Z)
  · cases L
    · cases Z
      · cases h
      · exact fillNumber_zero n p q c s w hn hs
    · cases h
  · exact fillNumber_fill L Z n p q c s w hn hs h
theorem box2 {w w1 : World} {A B : Array Value} {t u : TypeId} (hb : Below ((w.alloc (.cells A t)).alloc (.cells B u)).drew.heap.size ((w.alloc (.cells A t)).alloc (.cells B u)).drew w1) :
    (∀ i, w1.cell? ⟨w.heap.size, i, none⟩ = A[i]?) ∧ (∀ i, w1.cell? ⟨w.heap.size + 1, i, none⟩ = B[i]?) ∧ w.heap.size + 2 ≤ w1.heap.size ∧ Below w.heap.size w w1 := by
  have hs : ((w.alloc (.cells A t)).alloc (.cells B u)).drew.heap.size = w.heap.size + 2 := by simp
  refine ⟨fun i => ?_, fun i => ?_, by have := hb.size; rw [hs] at this; exact this, ?_⟩
  · rw [hb.cell (p := ⟨w.heap.size, i, none⟩) (by rw [hs]; show w.heap.size < _; omega)]
    show ((w.alloc (.cells A t)).alloc (.cells B u)).cell? ⟨w.heap.size, i, none⟩ = _
    rw [World.cell?_alloc_past _ _ _ (by simp), World.cell?_alloc_at _ _ _ _ rfl]
  · rw [hb.cell (p := ⟨w.heap.size + 1, i, none⟩) (by rw [hs]; show w.heap.size + 1 < _; omega)]
    show ((w.alloc (.cells A t)).alloc (.cells B u)).cell? ⟨w.heap.size + 1, i, none⟩ = _
    rw [World.cell?_alloc_at _ _ _ _ (by simp)]
  · exact ((((Below.refl _ _).alloc (Nat.le_refl _) _).alloc (by simp) _).drew).trans (hb.mono (by rw [hs]; omega))
theorem box_on {w1 w2 : World} {b : Nat} {A : Array Value} (h : ∀ i, w1.cell? ⟨b, i, none⟩ = A[i]?) (hb : Below w1.heap.size w1 w2) (hB : b < w1.heap.size) : ∀ i, w2.cell? ⟨b, i, none⟩ = A[i]? := fun i => by
  rw [hb.cell (p := ⟨b, i, none⟩) hB]; exact h i
theorem decDigits_len : ∀ (f u : Nat), u < 10 ^ (f + 1) → (Lib.decDigits u).length ≤ f + 1
  | 0, u, h => by rw [Lib.decDigits]; simp at h; simp [h]
  | f + 1, u, h => by
    rw [Lib.decDigits]
    split
    · simp
    · have := decDigits_len f (u / 10) (by rw [Nat.div_lt_iff_lt_mul (by omega)]; rw [Nat.pow_succ] at h; exact h)
      simp; omega
theorem itoa_len (n : Int) (h0 : -9223372036854775808 ≤ n) (h1 : n ≤ 9223372036854775807) : (Lib.itoa n).length ≤ 100 := by
  unfold Lib.itoa
  split
  · have := decDigits_len 19 n.natAbs (by omega)
    simp; omega
  · have := decDigits_len 19 n.toNat (by omega)
    omega
def charL (k n : Int) (s : List UInt8) : List UInt8 := if k = 2 then s.take 1 else [UInt8.ofNat (IntKind.u8.wrap n).toNat]
theorem byteStr_eq (n : Int) : byteStr n = ⟨[UInt8.ofNat n.toNat].toArray⟩ := by unfold byteStr strOfNums; rfl
theorem char_any (k n : Int) (s : ByteArray) (w : World) (hs : s.size ≤ 65536) :
    Calls Tryz.prog 128 #[.agg #[.int .i64 k, .int .i64 n, .string s]] w fun e w' => e = .returned (.string ⟨(charL k n s.data.toList).toArray⟩) ∧ Below w.heap.size w w' := by
  unfold charL
  by_cases h : k = 2
  · subst h; exact char_text n s w hs
  · rw [if_neg h, ← byteStr_eq]; exact char_else k n s w (by rw [beq_eq_false_iff_ne]; exact h)
theorem charL_len (k n : Int) (s : List UInt8) : (charL k n s).length ≤ 1 := by
  unfold charL; split
  · simp; omega
  · simp
theorem shortL_len (p : Bool) (q : Nat) (s : List UInt8) : (shortL p q s).length ≤ s.length := by
  unfold shortL; split
  · simp; omega
  · omega

set_option maxHeartbeats 1000000 in
theorem text_d (L Z : Bool) (n : Nat) (p : Bool) (q : Int) (k m : Int) (s : ByteArray) (w : World) (ht : Tabs w) (hn : n ≤ 99) (hs : s.size ≤ 65536) (h0 : -9223372036854775808 ≤ numOf k m s.data.toList) (h1 : numOf k m s.data.toList ≤ 9223372036854775807) :
    Calls Tryz.prog 67 #[.agg #[.bool L, .bool Z, .int .i64 n, .bool p, .int .i64 q, .int .u8 100], .agg #[.int .i64 k, .int .i64 m, .string s]] w fun e w' =>
      e = .returned (.string ⟨(fillN L Z n (Lib.itoa (numOf k m s.data.toList))).toArray⟩) ∧ Below w.heap.size w w' := by
  have hl := itoa_len _ h0 h1
  go_enter Tryz.func67, Tryz.ntmps67
  go_wp2
  go_region_with (first
    | (go_at_call 125; refine (number_any k m s _ hs).mono ?_; rintro e w1 ⟨rfl, hb1⟩; obtain ⟨qa1, qb1, hz1, hw1⟩ := box2 hb1; have ht1 : Tabs w1 := ht.below hw1 ht.big; clear hb1)
    | (go_at_call 124; refine (fmtInt _ h0 h1 _ ht1).mono ?_; rintro e w2 ⟨rfl, hb2⟩; have qa2 := box_on qa1 hb2 (by omega); have qb2 := box_on qb1 hb2 (by omega); have hz2 := hb2.size; have hw2 := hw1.trans (hb2.mono (by omega)))
    | (go_at_call 123; refine (fillNumber_any L Z n p q 100 _ _ hn (by rw [size_mk]; omega)).mono ?_; rintro e w3 ⟨rfl, hb3⟩; have hw3 := hw2.trans (hb3.mono (by omega))))
  all_goals
    go_wp2
    go_ret
    exact ⟨rfl, hw3⟩

set_option maxHeartbeats 1000000 in
theorem text_x (L Z : Bool) (n : Nat) (p : Bool) (q : Int) (k m : Int) (s : ByteArray) (w : World) (ht : Tabs w) (hn : n ≤ 99) (hs : s.size ≤ 65536) :
    Calls Tryz.prog 67 #[.agg #[.bool L, .bool Z, .int .i64 n, .bool p, .int .i64 q, .int .u8 120], .agg #[.int .i64 k, .int .i64 m, .string s]] w fun e w' =>
      e = .returned (.string ⟨(fillN L Z n (hexL (IntKind.u64.wrap (numOf k m s.data.toList)).toNat)).toArray⟩) ∧ Below w.heap.size w w' := by
  have hu0 : 0 ≤ IntKind.u64.wrap (numOf k m s.data.toList) ∧ IntKind.u64.wrap (numOf k m s.data.toList) < 18446744073709551616 := by rw [IntKind.wrap_u64]; omega
  obtain ⟨u, hu⟩ : ∃ u : Nat, IntKind.u64.wrap (numOf k m s.data.toList) = (u : Int) := ⟨_, (Int.toNat_of_nonneg hu0.1).symm⟩
  have hu1 : u < 18446744073709551616 := by have := hu0.2; rw [hu] at this; omega
  clear hu0
  rw [show (IntKind.u64.wrap (numOf k m s.data.toList)).toNat = u by rw [hu]; rfl]
  have hl := hexL_len u
  go_enter Tryz.func67, Tryz.ntmps67
  go_wp2
  go_region_with (first
    | (go_at_call 125; refine (number_any k m s _ hs).mono ?_; rintro e w1 ⟨rfl, hb1⟩; obtain ⟨qa1, qb1, hz1, hw1⟩ := box2 hb1; have ht1 : Tabs w1 := ht.below hw1 ht.big; clear hb1)
    | (go_at_call 126; refine (uint16 u hu1 _ ht1.tz (by have := ht1.big; omega)).mono ?_; rintro e w2 ⟨rfl, hb2⟩; have qa2 := box_on qa1 hb2 (by omega); have qb2 := box_on qb1 hb2 (by omega); have hz2 := hb2.size; have hw2 := hw1.trans (hb2.mono (by omega)))
    | (go_at_call 123; refine (fillNumber_any L Z n p q 120 _ _ hn (by rw [size_mk]; omega)).mono ?_; rintro e w3 ⟨rfl, hb3⟩; have hw3 := hw2.trans (hb3.mono (by omega))))
  all_goals
    go_wp2
    go_ret
    exact ⟨rfl, hw3⟩

set_option maxHeartbeats 1000000 in
theorem text_c (L Z : Bool) (n : Nat) (p : Bool) (q : Int) (k m : Int) (s : ByteArray) (w : World) (hn : n ≤ 99) (hs : s.size ≤ 65536) :
    Calls Tryz.prog 67 #[.agg #[.bool L, .bool Z, .int .i64 n, .bool p, .int .i64 q, .int .u8 99], .agg #[.int .i64 k, .int .i64 m, .string s]] w fun e w' =>
      e = .returned (.string ⟨(fillL L n (charL k m s.data.toList)).toArray⟩) ∧ Below w.heap.size w w' := by
  have hl := charL_len k m s.data.toList
  go_enter Tryz.func67, Tryz.ntmps67
  go_wp2
  go_region_with (first
    | (go_at_call 128; refine (char_any k m s _ hs).mono ?_; rintro e w1 ⟨rfl, hb1⟩; obtain ⟨qa1, qb1, hz1, hw1⟩ := box2 hb1; clear hb1)
    | (go_at_call 127; refine (fill_any L Z n p q 99 _ _ hn (by rw [size_mk]; omega)).mono ?_; rintro e w3 ⟨rfl, hb3⟩; have hw3 := hw1.trans (hb3.mono (by omega))))
  all_goals
    go_wp2
    go_ret
    exact ⟨rfl, hw3⟩
end Go.Proofs.YthhiofppbpgipaaGreatDoor
