import Derived.Test.YthhiofppbpgipaaGreatDoorRWalk
import Derived.Test.YthhiofppbpgipaaGreatDoorFmtP
namespace Go.Proofs.YthhiofppbpgipaaGreatDoor
open Go.RowKit

theorem dig_ge (d : Nat) (h : d < 10) : 48 ≤ (48 + UInt8.ofNat d).toNat := by
  rw [UInt8.toNat_add, UInt8.toNat_ofNat']
  show 48 ≤ (48 + d % 2 ^ 8) % 2 ^ 8
  omega
theorem decDigits_ge : ∀ (f u : Nat), u < 10 ^ (f + 1) → ∀ c ∈ Lib.decDigits u, 48 ≤ c.toNat
  | 0, u, h, c, hc => by
    rw [Lib.decDigits] at hc; simp at h; simp [h] at hc; subst hc
    exact dig_ge u h
  | f + 1, u, h, c, hc => by
    rw [Lib.decDigits] at hc
    split at hc
    · rename_i hu; simp at hc; subst hc; exact dig_ge u hu
    · have ih := decDigits_ge f (u / 10) (by rw [Nat.div_lt_iff_lt_mul (by omega)]; rw [Nat.pow_succ] at h; exact h)
      simp at hc
      rcases hc with hc | hc
      · exact ih c hc
      · subst hc; exact dig_ge _ (by omega)
theorem decDigits_ne (u : Nat) : Lib.decDigits u ≠ [] := by rw [Lib.decDigits]; split <;> simp
theorem head_ge (t : List UInt8) (h : ∀ c ∈ t, 48 ≤ c.toNat) : ∀ h0 : 0 < (⟨t.toArray⟩ : ByteArray).size, (((⟨t.toArray⟩ : ByteArray)[0].toNat : Int) == 45) = false := by
  intro h0
  cases t with
  | nil => simp [ByteArray.size] at h0
  | cons c r =>
    have := h c (by simp)
    show ((c.toNat : Int) == 45) = false
    rw [beq_eq_false_iff_ne]; omega
theorem prefix_ge (t : List UInt8) (h : ∀ c ∈ t, 48 ≤ c.toNat) : Lib.hasPrefix t [45] = false := by
  cases t with
  | nil => rfl
  | cons c r =>
    have := h c (by simp)
    have hne : (45 : UInt8) ≠ c := by intro e; subst e; simp at this
    simp [Lib.hasPrefix, List.isPrefixOf, hne]
theorem hx_ge (d : Nat) (h : d < 16) : 48 ≤ (hx d).toNat := by
  unfold hx; split <;> rw [UInt8.toNat_ofNat'] <;> omega
theorem hexFrom_ge (u : Nat) : ∀ i, ∀ c ∈ hexFrom u i, 48 ≤ c.toNat
  | 0, c, h => by simp [hexFrom] at h
  | i + 1, c, h => by
    simp only [hexFrom, List.mem_cons] at h
    rcases h with h | h
    · subst h; exact hx_ge _ (by omega)
    · exact hexFrom_ge u i c h
theorem hexL_ge (u : Nat) : ∀ c ∈ hexL u, 48 ≤ c.toNat := hexFrom_ge u _

theorem fill_left (Z : Bool) (n : Nat) (t : List UInt8) : fillN true Z n t = t ++ List.replicate (n - t.length) 32 := by simp [fillN, fillL]
theorem fill_blank (n : Nat) (t : List UInt8) : fillN false false n t = List.replicate (n - t.length) 32 ++ t := by simp [fillN, fillL]
theorem fill_zero (n : Nat) (t : List UInt8) (h : Lib.hasPrefix t [45] = false) : fillN false true n t = List.replicate (n - t.length) 48 ++ t := by simp [fillN, h]
theorem fill_zero_neg (n : Nat) (t : List UInt8) : fillN false true n (45 :: t) = [45] ++ (List.replicate (n - (t.length + 1)) 48 ++ t) := by
  have h : Lib.hasPrefix (45 :: t) [45] = true := by simp [Lib.hasPrefix, List.isPrefixOf]
  simp [fillN, h]
theorem ret_list {a b : List UInt8} {w : World} {P : World → Prop} {e : Ending} (h : a = b) (hh : e = .returned (.string ⟨a.toArray⟩) ∧ P w) : e = .returned (.string ⟨b.toArray⟩) ∧ P w := by rw [← h]; exact hh
/-- The decimal and the hex verb of the reference. -/
theorem refShown_d (L Z : Bool) (n : Nat) (p q : Int) (k m : Int) (s : ByteArray) (w : World) (ht : Tabs w) (hn : n ≤ 99) (hs : s.size ≤ 65536) (hk : (k == 110) = false)
    (h0 : -9223372036854775808 ≤ rnumOf k m s.data.toList) (h1 : rnumOf k m s.data.toList ≤ 9223372036854775807) :
    Calls Tryz.prog 72 #[.agg #[.bool L, .bool Z, .int .i64 n, .int .i64 p, .int .i64 q, .int .u8 100], .agg #[.int .u8 k, .int .i64 m, .string s]] w fun e w' =>
      e = .returned (.string ⟨(fillN L Z n (Lib.itoa (rnumOf k m s.data.toList))).toArray⟩) ∧ Below w.heap.size w w' := by
  by_cases hneg : rnumOf k m s.data.toList < 0
  · have hi : Lib.itoa (rnumOf k m s.data.toList) = 45 :: Lib.decDigits (rnumOf k m s.data.toList).natAbs := by unfold Lib.itoa; rw [if_pos hneg]
    rw [hi]
    cases L
    · cases Z
      · exact (shown_dn_blank n q k m s w hn hs hk _ ht p h0 h1 hi).mono fun e w' hh => ret_list (by rw [fill_blank]; simp; omega) hh
      · exact (shown_dn_zero n q k m s w hn hs hk _ ht p h0 h1 hi).mono fun e w' hh => ret_list (by rw [fill_zero_neg]; simp; omega) hh
    · exact (shown_dn_left Z n q k m s w hn hs hk _ ht p h0 h1 hi).mono fun e w' hh => ret_list (by rw [fill_left]; simp; omega) hh
  · have hi : Lib.itoa (rnumOf k m s.data.toList) = Lib.decDigits (rnumOf k m s.data.toList).toNat := by unfold Lib.itoa; rw [if_neg hneg]
    have hge := decDigits_ge 19 (rnumOf k m s.data.toList).toNat (by omega)
    have hne := decDigits_ne (rnumOf k m s.data.toList).toNat
    rw [hi]
    have hpos : 0 < (Lib.decDigits (rnumOf k m s.data.toList).toNat).length := List.length_pos_iff.2 hne
    cases L
    · cases Z
      · exact (shown_dp_blank n q k m s w hn hs hk _ ht p h0 h1 hi hpos (head_ge _ hge)).mono fun e w' hh => ret_list (by rw [fill_blank]; simp) hh
      · exact (shown_dp_zero n q k m s w hn hs hk _ ht p h0 h1 hi hpos (head_ge _ hge)).mono fun e w' hh => ret_list (by rw [fill_zero _ _ (prefix_ge _ hge)]; simp) hh
    · exact (shown_dp_left Z n q k m s w hn hs hk _ ht p h0 h1 hi hpos (head_ge _ hge)).mono fun e w' hh => ret_list (by rw [fill_left]; simp) hh
theorem refShown_x (L Z : Bool) (n : Nat) (p q : Int) (k m : Int) (s : ByteArray) (w : World) (ht : Tabs w) (hn : n ≤ 99) (hs : s.size ≤ 65536) (hk : (k == 110) = false) :
    Calls Tryz.prog 72 #[.agg #[.bool L, .bool Z, .int .i64 n, .int .i64 p, .int .i64 q, .int .u8 120], .agg #[.int .u8 k, .int .i64 m, .string s]] w fun e w' =>
      e = .returned (.string ⟨(fillN L Z n (hexL (IntKind.u64.wrap (rnumOf k m s.data.toList)).toNat)).toArray⟩) ∧ Below w.heap.size w w' := by
  have hge := hexL_ge (IntKind.u64.wrap (rnumOf k m s.data.toList)).toNat
  cases L
  · cases Z
    · exact (shown_x_blank n q k m s w hn hs hk _ ht p rfl).mono fun e w' hh => ret_list (by rw [fill_blank]; simp) hh
    · exact (shown_x_zero n q k m s w hn hs hk _ ht p rfl).mono fun e w' hh => ret_list (by rw [fill_zero _ _ (prefix_ge _ hge)]; simp) hh
  · exact (shown_x_left Z n q k m s w hn hs hk _ ht p rfl).mono fun e w' hh => ret_list (by rw [fill_left]; simp) hh
def rcharL (k n : Int) (s : List UInt8) : List UInt8 := if k = 115 then s.take 1 else [UInt8.ofNat (IntKind.u8.wrap n).toNat]
theorem refShown_c (L Z : Bool) (n : Nat) (p q : Int) (k m : Int) (s : ByteArray) (w : World) (hn : n ≤ 99) (hk : (k == 110) = false) :
    Calls Tryz.prog 72 #[.agg #[.bool L, .bool Z, .int .i64 n, .int .i64 p, .int .i64 q, .int .u8 99], .agg #[.int .u8 k, .int .i64 m, .string s]] w fun e w' =>
      e = .returned (.string ⟨(fillL L n (rcharL k m s.data.toList)).toArray⟩) ∧ Below w.heap.size w w' := by
  unfold rcharL
  by_cases h : k = 115
  · rw [if_pos h]
    by_cases h1 : 1 < s.size
    · cases L
      · cases Z
        · exact (shown_ct_blank0 n q k m s w hn hk _ p h h1 rfl).mono fun e w' hh => ret_list (by simp [fillL]) hh
        · exact (shown_ct_blank1 n q k m s w hn hk _ p h h1 rfl).mono fun e w' hh => ret_list (by simp [fillL]) hh
      · exact (shown_ct_left Z n q k m s w hn hk _ p h h1 rfl).mono fun e w' hh => ret_list (by simp [fillL]) hh
    · have ht : s.data.toList.take 1 = s.data.toList := List.take_of_length_le (by rw [len_eq]; omega)
      rw [ht]
      cases L
      · cases Z
        · exact (shown_cu_blank0 n q k m s w hn hk _ p h (by omega) rfl).mono fun e w' hh => ret_list (by simp [fillL]) hh
        · exact (shown_cu_blank1 n q k m s w hn hk _ p h (by omega) rfl).mono fun e w' hh => ret_list (by simp [fillL]) hh
      · exact (shown_cu_left Z n q k m s w hn hk _ p h (by omega) rfl).mono fun e w' hh => ret_list (by simp [fillL]) hh
  · rw [if_neg h]
    have h' : (k == 115) = false := by rw [beq_eq_false_iff_ne]; exact h
    cases L
    · cases Z
      · exact (shown_c_blank0 n q k m s w hn hk _ p h' rfl).mono fun e w' hh => ret_list (by simp [fillL]) hh
      · exact (shown_c_blank1 n q k m s w hn hk _ p h' rfl).mono fun e w' hh => ret_list (by simp [fillL]) hh
    · exact (shown_c_left Z n q k m s w hn hk _ p h' rfl).mono fun e w' hh => ret_list (by simp [fillL]) hh
theorem refShown_s (L Z : Bool) (n : Nat) (dot : Bool) (p : Nat) (q : Int) (k m : Int) (s : ByteArray) (w : World) (hn : n ≤ 99) (hp : p ≤ 99) (hs : s.size ≤ 65536) (hk : (k == 110) = false) :
    Calls Tryz.prog 72 #[.agg #[.bool L, .bool Z, .int .i64 n, .int .i64 (if dot then (p : Int) else -1), .int .i64 q, .int .u8 115], .agg #[.int .u8 k, .int .i64 m, .string s]] w fun e w' =>
      e = .returned (.string ⟨(fillL L n (shortL dot p s.data.toList)).toArray⟩) ∧ Below w.heap.size w w' := by
  unfold shortL
  cases dot
  · simp only [Bool.false_eq_true, if_false]
    cases L
    · cases Z
      · exact (shown_sn_blank0 n q k m s w hn hs hk _ (-1) (by omega) rfl).mono fun e w' hh => ret_list (by simp [fillL]) hh
      · exact (shown_sn_blank1 n q k m s w hn hs hk _ (-1) (by omega) rfl).mono fun e w' hh => ret_list (by simp [fillL]) hh
    · exact (shown_sn_left Z n q k m s w hn hs hk _ (-1) (by omega) rfl).mono fun e w' hh => ret_list (by simp [fillL]) hh
  · simp only [if_true]
    by_cases h1 : p < s.size
    · cases L
      · cases Z
        · exact (shown_sp_blank0 n q k m s w hn hk _ p hp h1 rfl).mono fun e w' hh => ret_list (by simp [fillL]) hh
        · exact (shown_sp_blank1 n q k m s w hn hk _ p hp h1 rfl).mono fun e w' hh => ret_list (by simp [fillL]) hh
      · exact (shown_sp_left Z n q k m s w hn hk _ p hp h1 rfl).mono fun e w' hh => ret_list (by simp [fillL]) hh
    · have ht : s.data.toList.take p = s.data.toList := List.take_of_length_le (by rw [len_eq]; omega)
      rw [ht]
      cases L
      · cases Z
        · exact (shown_sl_blank0 n q k m s w hn hs hk _ p (by omega) rfl).mono fun e w' hh => ret_list (by simp [fillL]) hh
        · exact (shown_sl_blank1 n q k m s w hn hs hk _ p (by omega) rfl).mono fun e w' hh => ret_list (by simp [fillL]) hh
      · exact (shown_sl_left Z n q k m s w hn hs hk _ p (by omega) rfl).mono fun e w' hh => ret_list (by simp [fillL]) hh
/-- A value of the reference, as its three cells. -/
def refKind : Option (List UInt8) → Int
  | none => 117
  | some s => if numeralB s then 109 else 115
theorem refKind_n (a : Option (List UInt8)) : (refKind a == 110) = false := by
  cases a with
  | none => rfl
  | some s => unfold refKind; cases h : numeralB s <;> simp [h]
theorem rnumOf_ref (a : Option (List UInt8)) : rnumOf (refKind a) (codeNum a) (argText a) = argNum a := by
  cases a with
  | none => simp [rnumOf, refKind, codeNum, argNum]
  | some s => unfold rnumOf refKind codeNum argNum argText; cases h : numeralB s <;> simp [h]
theorem rcharL_ref (a : Option (List UInt8)) : rcharL (refKind a) (codeNum a) (argText a) = argChar a := by
  cases a with
  | none => simp [rcharL, refKind, codeNum, argChar, argIsText, argNum]
  | some s => unfold rcharL refKind codeNum argChar argIsText argText argNum; cases h : numeralB s <;> simp [h]
theorem shown_item (l : List UInt8) (k : Nat) (q : Int) (a : Option (List UInt8)) (s : ByteArray) (hsa : s.data.toList = argText a) (hs : s.size ≤ 500) (ho : itOk l k = true) (w : World) (ht : Tabs w) :
    Calls Tryz.prog 72 #[.agg #[.bool (itLeft l k), .bool (itZero l k), .int .i64 (itWidth l k), .int .i64 (itPr l k), .int .i64 q, .int .u8 (itLetter l k).toNat], .agg #[.int .u8 (refKind a), .int .i64 (codeNum a), .string s]] w fun e w' =>
      e = .returned (.string ⟨(itemText l k a).toArray⟩) ∧ Below w.heap.size w w' := by
  have hw := itWidth_le l k
  have hr := argNum_range a
  have hq := itPrec_le l k
  have hk := refKind_n a
  simp only [itOk, Bool.and_eq_true, decide_eq_true_eq, knownB, Bool.or_eq_true, beq_iff_eq] at ho
  unfold itemText
  by_cases h1 : ((itLetter l k).toNat : Int) = 100
  · rw [if_pos h1, h1]
    have := refShown_d (itLeft l k) (itZero l k) (itWidth l k) (itPr l k) q (refKind a) (codeNum a) s w ht hw (by omega) hk (by rw [hsa, rnumOf_ref]; exact hr.1) (by rw [hsa, rnumOf_ref]; exact hr.2)
    rw [hsa, rnumOf_ref] at this
    exact this
  · rw [if_neg h1]
    by_cases h2 : ((itLetter l k).toNat : Int) = 120
    · rw [if_pos h2, h2]
      have := refShown_x (itLeft l k) (itZero l k) (itWidth l k) (itPr l k) q (refKind a) (codeNum a) s w ht hw (by omega) hk
      rw [hsa, rnumOf_ref] at this
      exact this
    · rw [if_neg h2]
      by_cases h3 : ((itLetter l k).toNat : Int) = 99
      · rw [if_pos h3, h3]
        have := refShown_c (itLeft l k) (itZero l k) (itWidth l k) (itPr l k) q (refKind a) (codeNum a) s w hw hk
        rw [hsa, rcharL_ref] at this
        exact this
      · rw [if_neg h3]
        have h4 : ((itLetter l k).toNat : Int) = 115 := by
          rcases ho.2 with h | h
          · exact h
          · simp at h; omega
        rw [h4]
        have := refShown_s (itLeft l k) (itZero l k) (itWidth l k) (itDot l k) (itPrec l k) q (refKind a) (codeNum a) s w hw hq (by omega) hk
        rw [hsa] at this
        exact this
end Go.Proofs.YthhiofppbpgipaaGreatDoor
