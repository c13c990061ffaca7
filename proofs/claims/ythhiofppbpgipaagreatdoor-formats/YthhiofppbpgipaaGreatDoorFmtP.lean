import Derived.Test.YthhiofppbpgipaaGreatDoorFWalkH
import Derived.Test.YthhiofppbpgipaaGreatDoorHexP
/- The plain function that a format makes: what the code and the reference are both held against. -/
namespace Go.Proofs.YthhiofppbpgipaaGreatDoor
open Go.RowKit

theorem wrap64_range (n : Int) : -9223372036854775808 ≤ wrap64 n ∧ wrap64 n ≤ 9223372036854775807 := by
  unfold wrap64; omega
theorem foldl_range (l : List UInt8) : ∀ n, (-9223372036854775808 ≤ n ∧ n ≤ 9223372036854775807) → (-9223372036854775808 ≤ l.foldl accD n ∧ l.foldl accD n ≤ 9223372036854775807) := by
  induction l with
  | nil => intro n h; exact h
  | cons c r ih => intro n _; exact ih _ (wrap64_range _)
theorem leadNum_range (l : List UInt8) : -9223372036854775808 ≤ leadNum l ∧ leadNum l ≤ 9223372036854775807 := by
  unfold leadNum
  split
  · exact wrap64_range _
  · exact foldl_range _ 0 (by omega)

/-- An argument: nothing yet, or a text that was read. -/
def argNum : Option (List UInt8) → Int
  | none => 0
  | some s => leadNum s
def argText : Option (List UInt8) → List UInt8
  | none => []
  | some s => s
def argIsText : Option (List UInt8) → Bool
  | none => false
  | some s => !numeralB s
theorem argNum_range (a : Option (List UInt8)) : -9223372036854775808 ≤ argNum a ∧ argNum a ≤ 9223372036854775807 := by
  cases a with
  | none => simp [argNum]
  | some s => exact leadNum_range s
def argChar (a : Option (List UInt8)) : List UInt8 := if argIsText a then (argText a).take 1 else [UInt8.ofNat (IntKind.u8.wrap (argNum a)).toNat]
def itemText (l : List UInt8) (k : Nat) (a : Option (List UInt8)) : List UInt8 :=
  if ((itLetter l k).toNat : Int) = 100 then fillN (itLeft l k) (itZero l k) (itWidth l k) (Lib.itoa (argNum a))
  else if ((itLetter l k).toNat : Int) = 120 then fillN (itLeft l k) (itZero l k) (itWidth l k) (hexL (IntKind.u64.wrap (argNum a)).toNat)
  else if ((itLetter l k).toNat : Int) = 99 then fillL (itLeft l k) (itWidth l k) (argChar a)
  else fillL (itLeft l k) (itWidth l k) (shortL (itDot l k) (itPrec l k) (argText a))

/-- What a format makes: the text, and 0; or why not: 10, 8. -/
def fmtRun (l : List UInt8) : Nat → Nat → List UInt8 → List (List UInt8) → List UInt8 × Nat
  | 0, _, made, _ => (made, 0)
  | f + 1, p, made, ar =>
    if l.length ≤ p then (made, 0)
    else if isAt l p 37 = false then
      (if 500 < made.length + 1 then ([], 8) else fmtRun l f (p + 1) (made ++ [l[p]?.getD 0]) ar)
    else if isAt l (p + 1) 37 = true then
      (if 500 < made.length + 1 then ([], 8) else fmtRun l f (p + 2) (made ++ [37]) ar)
    else if itOk l (p + 1) = false then ([], 10)
    else (if 500 < made.length + (itemText l (p + 1) ar.head?).length then ([], 8) else fmtRun l f (pE l (p + 1) + 1) (made ++ itemText l (p + 1) ar.head?) ar.tail)

theorem fmt_end {l : List UInt8} {f p : Nat} {made : List UInt8} {ar : List (List UInt8)} (h : l.length ≤ p) : fmtRun l f p made ar = (made, 0) := by
  cases f with
  | zero => rfl
  | succ f => simp [fmtRun, h]
theorem fmt_byte {l : List UInt8} {f p : Nat} {made : List UInt8} {ar : List (List UInt8)} (h : p < l.length) (h1 : isAt l p 37 = false) :
    fmtRun l (f + 1) p made ar = if 500 < made.length + 1 then ([], 8) else fmtRun l f (p + 1) (made ++ [l[p]?.getD 0]) ar := by
  rw [fmtRun, if_neg (by omega), if_pos h1]
theorem fmt_pct {l : List UInt8} {f p : Nat} {made : List UInt8} {ar : List (List UInt8)} (h : p < l.length) (h1 : isAt l p 37 = true) (h2 : isAt l (p + 1) 37 = true) :
    fmtRun l (f + 1) p made ar = if 500 < made.length + 1 then ([], 8) else fmtRun l f (p + 2) (made ++ [37]) ar := by
  rw [fmtRun, if_neg (by omega), if_neg (by rw [h1]; decide), if_pos h2]
theorem fmt_no {l : List UInt8} {f p : Nat} {made : List UInt8} {ar : List (List UInt8)} (h : p < l.length) (h1 : isAt l p 37 = true) (h2 : isAt l (p + 1) 37 = false) (h3 : itOk l (p + 1) = false) :
    fmtRun l (f + 1) p made ar = ([], 10) := by
  rw [fmtRun, if_neg (by omega), if_neg (by rw [h1]; decide), if_neg (by rw [h2]; decide), if_pos h3]
theorem fmt_item {l : List UInt8} {f p : Nat} {made : List UInt8} {ar : List (List UInt8)} (h : p < l.length) (h1 : isAt l p 37 = true) (h2 : isAt l (p + 1) 37 = false) (h3 : itOk l (p + 1) = true) :
    fmtRun l (f + 1) p made ar = if 500 < made.length + (itemText l (p + 1) ar.head?).length then ([], 8) else fmtRun l f (pE l (p + 1) + 1) (made ++ itemText l (p + 1) ar.head?) ar.tail := by
  rw [fmtRun, if_neg (by omega), if_neg (by rw [h1]; decide), if_neg (by rw [h2]; decide), if_neg (by rw [h3]; decide)]
theorem itWidth_le (l : List UInt8) (k : Nat) : itWidth l k ≤ 99 := by
  unfold itWidth
  have := numN_lt l (fE l k) (d2m l (fE l k)) (d2m_le2 _ _) ?_
  · exact this.1
  · intro r hr
    unfold d2m at hr
    split at hr
    · rename_i h0
      split at hr
      · rename_i h1
        have : r = 0 ∨ r = 1 := by omega
        rcases this with rfl | rfl
        · exact h0
        · exact h1
      · obtain rfl : r = 0 := by omega
        exact h0
    · omega
theorem numN_le (l : List UInt8) (k : Nat) : numN l k (d2m l k) ≤ 99 := by
  have := numN_lt l k (d2m l k) (d2m_le2 _ _) ?_
  · exact this.1
  · intro r hr
    unfold d2m at hr
    split at hr
    · rename_i h0
      split at hr
      · rename_i h1
        have : r = 0 ∨ r = 1 := by omega
        rcases this with rfl | rfl
        · exact h0
        · exact h1
      · obtain rfl : r = 0 := by omega
        exact h0
    · omega
theorem itPrec_le (l : List UInt8) (k : Nat) : itPrec l k ≤ 99 := by
  unfold itPrec; split
  · exact numN_le _ _
  · omega
theorem fillL_len (L : Bool) (n : Nat) (t : List UInt8) : (fillL L n t).length ≤ n + t.length := by
  unfold fillL; split <;> simp <;> omega
theorem fillN_len (L Z : Bool) (n : Nat) (t : List UInt8) : (fillN L Z n t).length ≤ n + t.length := by
  unfold fillN; split
  · exact fillL_len L n t
  · split
    · rename_i h
      have : 1 ≤ t.length := by
        cases t with
        | nil => simp [Lib.hasPrefix] at h
        | cons c r => simp
      simp <;> omega
    · simp <;> omega
theorem itemText_len (l : List UInt8) (k : Nat) (a : Option (List UInt8)) (h : (argText a).length ≤ 500) : (itemText l k a).length ≤ 1000 := by
  have hw := itWidth_le l k
  unfold itemText
  have hr := argNum_range a
  split
  · have := fillN_len (itLeft l k) (itZero l k) (itWidth l k) (Lib.itoa (argNum a))
    have := itoa_len _ hr.1 hr.2
    omega
  · split
    · have := fillN_len (itLeft l k) (itZero l k) (itWidth l k) (hexL (IntKind.u64.wrap (argNum a)).toNat)
      have := hexL_len (IntKind.u64.wrap (argNum a)).toNat
      omega
    · split
      · have := fillL_len (itLeft l k) (itWidth l k) (argChar a)
        have : (argChar a).length ≤ 1 := by unfold argChar; split <;> simp <;> omega
        omega
      · have := fillL_len (itLeft l k) (itWidth l k) (shortL (itDot l k) (itPrec l k) (argText a))
        have := shortL_len (itDot l k) (itPrec l k) (argText a)
        omega

/-- The precision as the reference holds it. -/
def itPr (l : List UInt8) (k : Nat) : Int := if itDot l k then (itPrec l k : Int) else -1
/-- A value of package value, as its three cells. -/
def codeKind : Option (List UInt8) → Int
  | none => 0
  | some s => if numeralB s then 3 else 2
def codeNum : Option (List UInt8) → Int
  | none => 0
  | some s => if numeralB s then leadNum s else 0
theorem numOf_code (a : Option (List UInt8)) : numOf (codeKind a) (codeNum a) (argText a) = argNum a := by
  cases a with
  | none => simp [numOf, codeKind, codeNum, argNum]
  | some s => unfold numOf codeKind codeNum argNum argText; cases h : numeralB s <;> simp [h]
theorem charL_code (a : Option (List UInt8)) : charL (codeKind a) (codeNum a) (argText a) = argChar a := by
  cases a with
  | none => simp [charL, codeKind, codeNum, argChar, argIsText, argNum]
  | some s => unfold charL codeKind codeNum argChar argIsText argText argNum; cases h : numeralB s <;> simp [h]
theorem codeKind_ne (a : Option (List UInt8)) : (codeKind a == 1) = false := by
  cases a with
  | none => rfl
  | some s =>
    show ((if numeralB s = true then (3 : Int) else 2) == 1) = false
    cases numeralB s <;> rfl
theorem text_item (l : List UInt8) (k : Nat) (a : Option (List UInt8)) (s : ByteArray) (hsa : s.data.toList = argText a) (hs : s.size ≤ 500) (ho : itOk l k = true) (w : World) (ht : Tabs w) :
    Calls Tryz.prog 67 #[.agg #[.bool (itLeft l k), .bool (itZero l k), .int .i64 (itWidth l k), .bool (itDot l k), .int .i64 (itPrec l k), .int .u8 (itLetter l k).toNat], .agg #[.int .i64 (codeKind a), .int .i64 (codeNum a), .string s]] w fun e w' =>
      e = .returned (.string ⟨(itemText l k a).toArray⟩) ∧ Below w.heap.size w w' := by
  have hw := itWidth_le l k
  have hr := argNum_range a
  have hq := itPrec_le l k
  simp only [itOk, Bool.and_eq_true, decide_eq_true_eq, knownB, Bool.or_eq_true, beq_iff_eq] at ho
  unfold itemText
  by_cases h1 : ((itLetter l k).toNat : Int) = 100
  · rw [if_pos h1, h1]
    have := text_d (itLeft l k) (itZero l k) (itWidth l k) (itDot l k) (itPrec l k) (codeKind a) (codeNum a) s w ht hw (by omega) (by rw [hsa, numOf_code]; exact hr.1) (by rw [hsa, numOf_code]; exact hr.2)
    rw [hsa, numOf_code] at this
    exact this
  · rw [if_neg h1]
    by_cases h2 : ((itLetter l k).toNat : Int) = 120
    · rw [if_pos h2, h2]
      have := text_x (itLeft l k) (itZero l k) (itWidth l k) (itDot l k) (itPrec l k) (codeKind a) (codeNum a) s w ht hw (by omega)
      rw [hsa, numOf_code] at this
      exact this
    · rw [if_neg h2]
      by_cases h3 : ((itLetter l k).toNat : Int) = 99
      · rw [if_pos h3, h3]
        have := text_c (itLeft l k) (itZero l k) (itWidth l k) (itDot l k) (itPrec l k) (codeKind a) (codeNum a) s w hw (by omega)
        rw [hsa, charL_code] at this
        exact this
      · rw [if_neg h3]
        have h4 : ((itLetter l k).toNat : Int) = 115 := by
          rcases ho.2 with h | h
          · exact h
          · simp at h; omega
        rw [h4]
        have := text_s (itLeft l k) (itZero l k) (itWidth l k) (itDot l k) (itPrec l k) (codeKind a) (codeNum a) s w hw (by omega) hq (codeKind_ne a)
        rw [hsa] at this
        exact this
end Go.Proofs.YthhiofppbpgipaaGreatDoor
