import Derived.Test.YthkknpjoifoanaaGreatDoorQ01
import Derived.Deep.RegionWith
import Derived.Deep.QuietTactic
import Derived.BigQuiet
import Derived.WalkKit
import Derived.Below
import Derived.Deep.Draws
import Derived.WalkSmall
import Derived.Laws.BitsAllLaws
namespace Go.Proofs.YthkknpjoifoanaaGreatDoor
open Go.RowKit

theorem ret2_int {a a' b b' : Int} (h1 : a = a') (h2 : b = b') : Ending.returned (.tuple #[.int .i64 a, .int .i64 b]) = .returned (.tuple #[.int .i64 a', .int .i64 b']) := by rw [h1, h2]
end Go.Proofs.YthkknpjoifoanaaGreatDoor

namespace Go.Proofs.YthkknpjoifoanaaGreatDoor
open Go.RowKit

theorem spEnd_pos {l : List UInt8} (h : leadOk l = true) : 0 < spEnd l := by
  rw [spEnd_yes h]; simp [leadOk] at h; omega
theorem spEnd_le (l : List UInt8) : spEnd l ≤ l.length := by
  unfold spEnd; split
  · exact leadEnd_le l
  · omega
def readVal (nb : Bool) (n : Int) (s : ByteArray) : Value := if nb then .agg #[.int .u8 109, .int .i64 n, .string s] else .agg #[.int .u8 115, .int .i64 0, .string s]
end Go.Proofs.YthkknpjoifoanaaGreatDoor

/- Plain functions on lists of bytes: an item of a format. Nothing of the program is imported. -/
namespace Go.Proofs.YthkknpjoifoanaaGreatDoor
open Go.RowKit

def flagB (c : UInt8) : Bool := (c.toNat : Int) == 45 || (c.toNat : Int) == 48
def hasIn (c : Int) (l : List UInt8) (a b : Nat) : Bool := ((l.drop a).take (b - a)).any fun x => (x.toNat : Int) == c
theorem hasIn_self (c : Int) (l : List UInt8) (a : Nat) : hasIn c l a a = false := by simp [hasIn]
theorem hasIn_step {l : List UInt8} {a b : Nat} {x : UInt8} (c : Int) (h : l[b]? = some x) (hab : a ≤ b) : hasIn c l a (b + 1) = (hasIn c l a b || ((x.toNat : Int) == c)) := by
  unfold hasIn
  have hc : (l.drop a)[b - a]? = some x := by rw [List.getElem?_drop, show a + (b - a) = b by omega]; exact h
  rw [show b + 1 - a = (b - a) + 1 by omega, List.take_add_one, hc]
  simp

def digAt (l : List UInt8) (k : Nat) : Bool := match l[k]? with | some c => digB c | none => false
def d2m (l : List UInt8) (k : Nat) : Nat := if digAt l k then (if digAt l (k + 1) then 2 else 1) else 0
def numN (l : List UInt8) (k : Nat) : Nat → Nat
  | 0 => 0
  | m + 1 => numN l k m * 10 + ((l[k + m]?.getD 0).toNat - 48)
theorem d2m_eq {l : List UInt8} {k m : Nat} (hm : m ≤ 2) (h : ∀ r, r < m → digAt l (k + r) = true) (he : m = 2 ∨ digAt l (k + m) = false) : d2m l k = m := by
  unfold d2m
  have c0 : m = 0 ∨ m = 1 ∨ m = 2 := by omega
  rcases c0 with rfl | rfl | rfl
  · rcases he with he | he
    · omega
    · simp at he; simp [he]
  · have h0 := h 0 (by omega)
    rcases he with he | he
    · omega
    · simp at h0; simp [h0, he]
  · have h0 := h 0 (by omega)
    have h1 := h 1 (by omega)
    simp at h0; simp [h0, h1]
theorem digAt_lt {l : List UInt8} {k : Nat} (h : digAt l k = true) : k < l.length := by
  by_cases hk : k < l.length
  · exact hk
  · simp [digAt, List.getElem?_eq_none (show l.length ≤ k by omega)] at h
theorem d2m_le {l : List UInt8} {k : Nat} (hk : k ≤ l.length) : k + d2m l k ≤ l.length := by
  unfold d2m
  split
  · rename_i h0
    have := digAt_lt h0
    split
    · rename_i h1
      have := digAt_lt h1
      omega
    · omega
  · omega
theorem d2m_le2 (l : List UInt8) (k : Nat) : d2m l k ≤ 2 := by unfold d2m; split <;> (try split) <;> omega
theorem numN_lt (l : List UInt8) (k m : Nat) (hm : m ≤ 2) (h : ∀ r, r < m → digAt l (k + r) = true) : numN l k m ≤ 99 ∧ (m ≤ 1 → numN l k m ≤ 9) := by
  have d : ∀ r, r < m → (l[k + r]?.getD 0).toNat - 48 ≤ 9 := by
    intro r hr
    have := h r hr
    unfold digAt at this
    cases hc : l[k + r]? with
    | none => simp [hc] at this
    | some c => simp [hc, digB] at this; simp; omega
  have c0 : m = 0 ∨ m = 1 ∨ m = 2 := by omega
  rcases c0 with rfl | rfl | rfl
  · simp [numN]
  · have := d 0 (by omega); simp [numN] at this ⊢; omega
  · have := d 0 (by omega); have := d 1 (by omega); simp [numN] at *; omega

def fE (l : List UInt8) (k : Nat) : Nat := runTo flagB l k
def wE (l : List UInt8) (k : Nat) : Nat := fE l k + d2m l (fE l k)
def itWidth (l : List UInt8) (k : Nat) : Nat := numN l (fE l k) (d2m l (fE l k))
def itDot (l : List UInt8) (k : Nat) : Bool := isAt l (wE l k) 46
def pE (l : List UInt8) (k : Nat) : Nat := if itDot l k then wE l k + 1 + d2m l (wE l k + 1) else wE l k
def itPrec (l : List UInt8) (k : Nat) : Nat := if itDot l k then numN l (wE l k + 1) (d2m l (wE l k + 1)) else 0
def itLetter (l : List UInt8) (k : Nat) : UInt8 := l[pE l k]?.getD 0
def itLeft (l : List UInt8) (k : Nat) : Bool := hasIn 45 l k (fE l k)
def itZero (l : List UInt8) (k : Nat) : Bool := hasIn 48 l k (fE l k)
def knownB (c : Int) (dot : Bool) : Bool := c == 115 || (!dot && (c == 100 || c == 120 || c == 99))
def itOk (l : List UInt8) (k : Nat) : Bool := decide (pE l k < l.length) && knownB (itLetter l k).toNat (itDot l k)

theorem isAt_ltB {l : List UInt8} {k : Nat} {c : Int} (h : isAt l k c = true) : k < l.length := by
  by_cases hk : k < l.length
  · exact hk
  · simp [isAt, List.getElem?_eq_none (show l.length ≤ k by omega)] at h
theorem fE_le {l : List UInt8} {k : Nat} (h : k ≤ l.length) : fE l k ≤ l.length := runTo_le h
theorem wE_le {l : List UInt8} {k : Nat} (h : k ≤ l.length) : wE l k ≤ l.length := d2m_le (fE_le h)
theorem pE_le {l : List UInt8} {k : Nat} (h : k ≤ l.length) : pE l k ≤ l.length := by
  unfold pE
  split
  · rename_i hd
    exact d2m_le (isAt_ltB hd)
  · exact wE_le h
end Go.Proofs.YthkknpjoifoanaaGreatDoor

namespace Go.Proofs.YthkknpjoifoanaaGreatDoor
open Go.RowKit

set_option maxHeartbeats 400000 in
theorem layDigit_any (c : UInt8) (w : World) :
    Calls Tryz.prog 471 #[.int .u8 c.toNat] w fun e w' => e = .returned (.bool (digB c)) ∧ w' = w := by
  have HD : Hid (digB c = (decide (48 ≤ (c.toNat : Int)) && decide ((c.toNat : Int) ≤ 57))) := by
    show digB c = (decide (48 ≤ (c.toNat : Int)) && decide ((c.toNat : Int) ≤ 57))
    rw [Bool.eq_iff_iff, digB_iff]; simp
  go_enter Tryz.func471, Tryz.ntmps471
  go_wp2
  all_goals
    go_ret
    exact ⟨ret_bool (by rw [HD.out] <;> simp [*] <;> omega), rfl⟩
theorem digAt_of_lt (s : ByteArray) (k : Nat) (h : k < s.size) : digAt s.data.toList k = digB s[k] := by unfold digAt; rw [get_of_lt s k h]
theorem digAt_of_ge (s : ByteArray) (k : Nat) (h : s.size ≤ k) : digAt s.data.toList k = false := by unfold digAt; rw [get_none s k h]
theorem numN_succ (s : ByteArray) (k m : Nat) (h : k + m < s.size) : numN s.data.toList k (m + 1) = numN s.data.toList k m * 10 + (s[k + m].toNat - 48) := by
  show numN s.data.toList k m * 10 + ((s.data.toList[k + m]?.getD 0).toNat - 48) = _
  rw [get_of_lt s (k + m) h]; rfl

set_option maxHeartbeats 1000000 in
theorem layDigits_a (s : ByteArray) (k : Nat) (w : World) (hs : s.size ≤ 65536) (hk : k ≤ s.size) (h2 : k + 2 ≤ s.size) :
    Calls Tryz.prog 457 #[.string s, .int .i64 k] w fun e w' => e = .returned (.tuple #[.int .i64 (numN s.data.toList k (d2m s.data.toList k)), .int .i64 ((k + d2m s.data.toList k : Nat))]) ∧ w' = w := by
  go_enter Tryz.func457, Tryz.ntmps457
  go_wp2
  go_loop [1, 6] (fun i n => ∃ m : Nat, m ≤ 2 ∧ k + m ≤ s.size ∧ i = .int .i64 ((k + m : Nat)) ∧ n = .int .i64 (numN s.data.toList k m) ∧ ∀ r, r < m → digAt s.data.toList (k + r) = true) (fun i _ => s.size + 2 - (intOf i).toNat)
  case atStart => exact ⟨0, by omega, by omega, by go_num, rfl, fun r hr => by omega⟩
  case round =>
    obtain ⟨m, hm, hj, rfl, rfl, hd⟩ := hrel
    have HA : Hid (∀ r, r < m → digAt s.data.toList (k + r) = true) := hd
    have hb := numN_lt s.data.toList k m hm hd
    clear hd
    by_cases hl : k + m < s.size ∧ m < 2
    · obtain ⟨hl1, hl2⟩ := hl
      have hb2 := hb.2 (by omega)
      cases hd : digB s[k + m]
      · have HD : Hid (digB s[k + m] = false) := hd
        clear hd
        have HM : Hid (d2m s.data.toList k = m) := d2m_eq hm HA.out (Or.inr (by rw [digAt_of_lt s _ hl1]; exact HD.out))
        go_wp2_with (go_at_call 471; refine (layDigit_any _ _).mono ?_; rintro e w' ⟨rfl, rfl⟩; rw [HD.out])
        go_ret2
        exact ⟨ret2_int (by rw [HM.out]) (by rw [HM.out] <;> omega), rfl⟩
      · have HD : Hid (digB s[k + m] = true) := hd
        obtain ⟨hd1, hd2⟩ := (digB_iff _).1 hd
        clear hd
        have HS := hide (numN_succ s k m hl1)
        have HX : Hid (∀ r, r < m + 1 → digAt s.data.toList (k + r) = true) := by
          intro r hr
          by_cases h : r < m
          · exact HA.out r h
          · rw [show r = m by omega, digAt_of_lt s _ hl1]; exact HD.out
        generalize numN s.data.toList k m = n at *
        go_wp2_with (go_at_call 471; refine (layDigit_any _ _).mono ?_; rintro e w' ⟨rfl, rfl⟩; rw [HD.out])
        go_round
        case rel => exact ⟨m + 1, by omega, by omega, by go_num, by rw [HS.out]; congr 1; omega, HX.out⟩
        case measure => simp [intOf]; omega
    · have HM : Hid (d2m s.data.toList k = m) := d2m_eq hm HA.out (by
        by_cases h2 : m = 2
        · exact Or.inl h2
        · exact Or.inr (digAt_of_ge s _ (by omega)))
      go_wp2
      go_ret2
      exact ⟨ret2_int (by rw [HM.out]) (by rw [HM.out] <;> omega), rfl⟩

set_option maxHeartbeats 1000000 in
theorem layDigits_b (s : ByteArray) (k : Nat) (w : World) (hs : s.size ≤ 65536) (hk : k ≤ s.size) (h2 : s.size < k + 2) :
    Calls Tryz.prog 457 #[.string s, .int .i64 k] w fun e w' => e = .returned (.tuple #[.int .i64 (numN s.data.toList k (d2m s.data.toList k)), .int .i64 ((k + d2m s.data.toList k : Nat))]) ∧ w' = w := by
  go_enter Tryz.func457, Tryz.ntmps457
  go_wp2
  go_loop [1, 6] (fun i n => ∃ m : Nat, m ≤ 2 ∧ k + m ≤ s.size ∧ i = .int .i64 ((k + m : Nat)) ∧ n = .int .i64 (numN s.data.toList k m) ∧ ∀ r, r < m → digAt s.data.toList (k + r) = true) (fun i _ => s.size + 2 - (intOf i).toNat)
  case atStart => exact ⟨0, by omega, by omega, by go_num, rfl, fun r hr => by omega⟩
  case round =>
    obtain ⟨m, hm, hj, rfl, rfl, hd⟩ := hrel
    have HA : Hid (∀ r, r < m → digAt s.data.toList (k + r) = true) := hd
    have hb := numN_lt s.data.toList k m hm hd
    clear hd
    by_cases hl : k + m < s.size ∧ m < 2
    · obtain ⟨hl1, hl2⟩ := hl
      have hb2 := hb.2 (by omega)
      cases hd : digB s[k + m]
      · have HD : Hid (digB s[k + m] = false) := hd
        clear hd
        have HM : Hid (d2m s.data.toList k = m) := d2m_eq hm HA.out (Or.inr (by rw [digAt_of_lt s _ hl1]; exact HD.out))
        go_wp2_with (go_at_call 471; refine (layDigit_any _ _).mono ?_; rintro e w' ⟨rfl, rfl⟩; rw [HD.out])
        go_ret2
        exact ⟨ret2_int (by rw [HM.out]) (by rw [HM.out] <;> omega), rfl⟩
      · have HD : Hid (digB s[k + m] = true) := hd
        obtain ⟨hd1, hd2⟩ := (digB_iff _).1 hd
        clear hd
        have HS := hide (numN_succ s k m hl1)
        have HX : Hid (∀ r, r < m + 1 → digAt s.data.toList (k + r) = true) := by
          intro r hr
          by_cases h : r < m
          · exact HA.out r h
          · rw [show r = m by omega, digAt_of_lt s _ hl1]; exact HD.out
        generalize numN s.data.toList k m = n at *
        go_wp2_with (go_at_call 471; refine (layDigit_any _ _).mono ?_; rintro e w' ⟨rfl, rfl⟩; rw [HD.out])
        go_round
        case rel => exact ⟨m + 1, by omega, by omega, by go_num, by rw [HS.out]; congr 1; omega, HX.out⟩
        case measure => simp [intOf]; omega
    · have HM : Hid (d2m s.data.toList k = m) := d2m_eq hm HA.out (by
        by_cases h2 : m = 2
        · exact Or.inl h2
        · exact Or.inr (digAt_of_ge s _ (by omega)))
      go_wp2
      go_ret2
      exact ⟨ret2_int (by rw [HM.out]) (by rw [HM.out] <;> omega), rfl⟩

theorem layDigits_any (s : ByteArray) (k : Nat) (w : World) (hs : s.size ≤ 65536) (hk : k ≤ s.size) :
    Calls Tryz.prog 457 #[.string s, .int .i64 k] w fun e w' => e = .returned (.tuple #[.int .i64 (numN s.data.toList k (d2m s.data.toList k)), .int .i64 ((k + d2m s.data.toList k : Nat))]) ∧ w' = w := by
  by_cases h2 : k + 2 ≤ s.size
  · exact layDigits_a s k w hs hk h2
  · exact layDigits_b s k w hs hk (by omega)
end Go.Proofs.YthkknpjoifoanaaGreatDoor

namespace Go.Proofs.YthkknpjoifoanaaGreatDoor
open Go.RowKit

def itemCells (L Z : Bool) (n : Int) (p : Bool) (q : Int) (c : Int) : Array Value := #[.bool L, .bool Z, .int .i64 n, .bool p, .int .i64 q, .int .u8 c]
theorem flagB_eq (c : UInt8) : flagB c = ((c.toNat : Int) == 45 || (c.toNat : Int) == 48) := rfl
set_option maxHeartbeats 1000000 in
theorem flags_any (W : World) (b : Nat) (hb : b = W.heap.size) (s : ByteArray) (k : Nat) (hs : s.size ≤ 65536) (hk : k ≤ s.size) :
    Calls Tryz.prog 456 #[.pointer (some ⟨b, 0, none⟩), .string s, .int .i64 k] (W.alloc (.cells #[.bool false, .bool false, .int .i64 0, .bool false, .int .i64 0, .int .u8 0] 517)) fun e w' =>
      e = .returned (.int .i64 (fE s.data.toList k)) ∧ w' = W.alloc (.cells #[.bool (itLeft s.data.toList k), .bool (itZero s.data.toList k), .int .i64 0, .bool false, .int .i64 0, .int .u8 0] 517) := by
  subst hb
  go_enter Tryz.func456, Tryz.ntmps456
  go_wp2
  go_loopw [2] (fun i wr => ∃ j : Nat, k ≤ j ∧ j ≤ s.size ∧ i = .int .i64 j ∧ wr = W.alloc (.cells #[.bool (hasIn 45 s.data.toList k j), .bool (hasIn 48 s.data.toList k j), .int .i64 0, .bool false, .int .i64 0, .int .u8 0] 517) ∧ runTo flagB s.data.toList j = runTo flagB s.data.toList k) (fun i _ => s.size - (intOf i).toNat)
  case atStart => exact ⟨k, by omega, hk, rfl, by rw [hasIn_self, hasIn_self], rfl⟩
  case round =>
    obtain ⟨j, hj0, hj, rfl, rfl, hr⟩ := hrel
    have HR : Hid (runTo flagB s.data.toList j = runTo flagB s.data.toList k) := hr
    clear hr
    by_cases hl : j < s.size
    · have HG : Hid (s.data.toList[j]? = some s[j]) := get_of_lt s j hl
      have HF := hide (flagB_eq s[j])
      have H5 := hide (hasIn_step 45 HG.out hj0)
      have H8 := hide (hasIn_step 48 HG.out hj0)
      cases h45 : ((s[j].toNat : Int) == 45)
      · cases h48 : ((s[j].toNat : Int) == 48)
        · have HE : Hid (fE s.data.toList k = j) := by
            show runTo flagB s.data.toList k = j
            rw [← HR.out, runTo_stop (fun c hc => ?_)]
            rw [HG.out] at hc; cases hc; rw [HF.out, h45, h48]; rfl
          go_wp2
          go_ret
          exact ⟨ret_int (by rw [HE.out]), by unfold itLeft itZero; rw [HE.out]⟩
        · go_wp2
          go_roundw
          case rel => exact ⟨j + 1, by omega, by omega, by go_num, by rw [H5.out, H8.out, h45, h48, Bool.or_false, Bool.or_true], by rw [runTo_step HG.out (by rw [HF.out, h45, h48]; rfl)]; exact HR.out⟩
          case measure => simp [intOf]; omega
      · have h48 : ((s[j].toNat : Int) == 48) = false := by
          rw [beq_iff_eq] at h45; rw [beq_eq_false_iff_ne]; omega
        go_wp2
        go_roundw
        case rel => exact ⟨j + 1, by omega, by omega, by go_num, by rw [H5.out, H8.out, h45, h48, Bool.or_false, Bool.or_true], by rw [runTo_step HG.out (by rw [HF.out, h45]; rfl)]; exact HR.out⟩
        case measure => simp [intOf]; omega
    · have HE : Hid (fE s.data.toList k = j) := by
        show runTo flagB s.data.toList k = j
        rw [← HR.out, runTo_stop (fun c hc => ?_)]
        rw [get_none s j (by omega)] at hc; cases hc
      go_wp2
      go_ret
      exact ⟨ret_int (by rw [HE.out]), by unfold itLeft itZero; rw [HE.out]⟩
set_option maxHeartbeats 1000000 in
theorem known_any (L Z : Bool) (n : Int) (p : Bool) (q : Int) (c : Int) (w : World) :
    Calls Tryz.prog 458 #[.agg #[.bool L, .bool Z, .int .i64 n, .bool p, .int .i64 q, .int .u8 c]] w fun e w' => e = .returned (.bool (knownB c p)) ∧ w' = w.alloc (.cells #[.bool L, .bool Z, .int .i64 n, .bool p, .int .i64 q, .int .u8 c] 517) := by
  have HK : Hid (knownB c p = (c == 115 || (!p && (c == 100 || c == 120 || c == 99)))) := rfl
  cases h1 : (c == 115)
  · cases h2 : (c == 100)
    · cases h3 : (c == 120)
      · cases h4 : (c == 99)
        all_goals
          go_enter Tryz.func458, Tryz.ntmps458
          go_wp2
          go_ret
          exact ⟨ret_bool (by rw [HK.out]; simp [*]), rfl⟩
      · go_enter Tryz.func458, Tryz.ntmps458
        go_wp2
        go_ret
        exact ⟨ret_bool (by rw [HK.out]; simp [*]), rfl⟩
    · go_enter Tryz.func458, Tryz.ntmps458
      go_wp2
      go_ret
      exact ⟨ret_bool (by rw [HK.out]; simp [*]), rfl⟩
  · go_enter Tryz.func458, Tryz.ntmps458
    go_wp2
    go_ret
    exact ⟨ret_bool (by rw [HK.out]; simp [*]), rfl⟩
end Go.Proofs.YthkknpjoifoanaaGreatDoor


namespace Go.Proofs.YthkknpjoifoanaaGreatDoor
open Go.RowKit
/-- A reader lies at a place of memory. -/
def RdAt (w : World) (b o : Nat) (s : ByteArray) (i : Nat) : Prop := w.cell? ⟨b, o, none⟩ = some (.string s) ∧ w.cell? ⟨b, o + 1, none⟩ = some (.int .i64 i)
theorem RdAt.drewN {w b o s i} (h : RdAt w b o s i) (n : Nat) : RdAt (w.drewN n) b o s i := h
set_option maxHeartbeats 1000000 in
theorem ended_any (b o : Nat) (s : ByteArray) (i : Nat) (w : World) (h : RdAt w b o s i) :
    Calls Tryz.prog 51 #[.pointer (some ⟨b, o, none⟩)] w fun e w' => e = .returned (.bool (decide (i = s.size))) ∧ ∃ n, w' = w.drewN n := by
  obtain ⟨c0, c1⟩ := h
  go_enter Tryz.func51, Tryz.ntmps51
  go_wp2
  go_quiet (fail)
  go_wp2
  go_ret
  refine ⟨ret_bool ?_, _, rfl⟩
  rw [Bool.eq_iff_iff, beq_iff_eq, decide_eq_true_iff]
  omega
theorem ended_no (b o : Nat) (s : ByteArray) (i : Nat) (hi : i < s.size) (w : World) (h : RdAt w b o s i) :
    Calls Tryz.prog 51 #[.pointer (some ⟨b, o, none⟩)] w fun e w' => e = .returned (.bool false) ∧ ∃ n, w' = w.drewN n := by
  have := ended_any b o s i w h
  rwa [decide_eq_false (by omega)] at this
theorem ended_yes (b o : Nat) (s : ByteArray) (i : Nat) (hi : i = s.size) (w : World) (h : RdAt w b o s i) :
    Calls Tryz.prog 51 #[.pointer (some ⟨b, o, none⟩)] w fun e w' => e = .returned (.bool true) ∧ ∃ n, w' = w.drewN n := by
  have := ended_any b o s i w h
  rwa [decide_eq_true hi] at this
set_option maxHeartbeats 1000000 in
theorem sees_any (b o : Nat) (s : ByteArray) (i : Nat) (hi : i ≤ s.size) (c : Nat) (w : World) (h : RdAt w b o s i) :
    Calls Tryz.prog 90 #[.pointer (some ⟨b, o, none⟩), .int .u8 c] w fun e w' => e = .returned (.bool (hasB s.data.toList i c)) ∧ ∃ n, w' = w.drewN n := by
  have HR := hide h
  obtain ⟨c0, c1⟩ := h
  by_cases hlt : i < s.size
  · have HG := hide (get_of_lt s i hlt)
    go_enter Tryz.func90, Tryz.ntmps90
    go_wp2
    go_quiet (first | (go_at_call 51; exact Calls.quiet_of (ended_no b o s i hlt _ HR.out)))
    go_wp2
    go_ret
    refine ⟨ret_bool ?_, _, rfl⟩
    unfold hasB
    rw [HG.out, Bool.eq_iff_iff, beq_iff_eq, beq_iff_eq]
    omega
  · have HG := hide (get_none s i (by omega))
    have hend : i = s.size := by omega
    go_enter Tryz.func90, Tryz.ntmps90
    go_wp2
    go_quiet (first | (go_at_call 51; exact Calls.quiet_of (ended_yes b o s i hend _ HR.out)))
    go_wp2
    go_ret
    refine ⟨ret_bool ?_, _, rfl⟩
    unfold hasB
    rw [HG.out]
end Go.Proofs.YthkknpjoifoanaaGreatDoor

/- What a call may have turned in memory: the blocks of D, of those that were there. Nothing of the program is imported. -/
namespace Go.Proofs.YthkknpjoifoanaaGreatDoor
open Go.RowKit
structure Only (D : Nat → Prop) (w w' : World) : Prop where
  os : w'.os = w.os
  tape : w'.tape = w.tape
  output : w'.output = w.output
  size : w.heap.size ≤ w'.heap.size
  block : ∀ k, k < w.heap.size → ¬ D k → w'.heap[k]? = w.heap[k]?
theorem Only.refl (D : Nat → Prop) (w : World) : Only D w w := ⟨rfl, rfl, rfl, Nat.le_refl _, fun _ _ _ => rfl⟩
theorem Only.trans {D E : Nat → Prop} {a b c : World} (h : Only D a b) (k : Only E b c) (hE : ∀ i, i < a.heap.size → E i → D i) : Only D a c :=
  ⟨k.os.trans h.os, k.tape.trans h.tape, k.output.trans h.output, Nat.le_trans h.size k.size, fun i hi hd => (k.block i (Nat.lt_of_lt_of_le hi h.size) (fun he => hd (hE i hi he))).trans (h.block i hi hd)⟩
theorem Only.mono {D E : Nat → Prop} {a b : World} (h : Only D a b) (hE : ∀ i, i < a.heap.size → D i → E i) : Only E a b :=
  ⟨h.os, h.tape, h.output, h.size, fun i hi he => h.block i hi (fun hd => he (hE i hi hd))⟩
theorem Only.drewN {D : Nat → Prop} {a w : World} (h : Only D a w) (n : Nat) : Only D a (w.drewN n) := ⟨h.os, h.tape, h.output, h.size, h.block⟩
theorem Only.alloc {D : Nat → Prop} {a w : World} (h : Only D a w) (o : Obj) : Only D a (w.alloc o) :=
  ⟨h.os, h.tape, h.output, by have := h.size; simp; omega, fun k hk hd => (Below.heap_alloc _ _ _ (by have := h.size; omega)).trans (h.block k hk hd)⟩
theorem Only.setCell {D : Nat → Prop} {a w : World} (h : Only D a w) {p : Addr} (hp : p.block < a.heap.size → D p.block) (u : Value) : Only D a (w.setCell p u) :=
  ⟨h.os, h.tape, h.output, by have := h.size; simp [World.setCell]; omega, fun k hk hd => (Below.heap_setCell _ _ _ _ (fun e => by subst e; exact hd (hp hk))).trans (h.block k hk hd)⟩
theorem Only.grown {D : Nat → Prop} {a w w' : World} {row : Option Nat} (h : Only D a w) (hg : w.grownBy w' row) (hr : ∀ k, row = some k → k < a.heap.size → D k) : Only D a w' :=
  ⟨hg.os.trans h.os, hg.tape.trans h.tape, hg.output.trans h.output, Nat.le_trans h.size hg.size, fun k hk hd => (hg.block k (Nat.lt_of_lt_of_le hk h.size) (fun e => hd (hr k e.symm hk))).trans (h.block k hk hd)⟩
theorem Only.below {D : Nat → Prop} {a b : World} (h : Only D a b) {B : Nat} (hB : B ≤ a.heap.size) (hD : ∀ k, k < B → ¬ D k) : Below B a b :=
  ⟨h.os, h.tape, h.output, h.size, fun k hk => h.block k (by omega) (hD k hk)⟩
theorem Only.ofBelow {a b : World} (h : Below a.heap.size a b) (D : Nat → Prop) : Only D a b := ⟨h.os, h.tape, h.output, h.size, fun k hk _ => h.block k hk⟩
theorem Only.cell {D : Nat → Prop} {a b : World} (h : Only D a b) {p : Addr} (hp : p.block < a.heap.size) (hd : ¬ D p.block) : b.cell? p = a.cell? p := World.cell?_of_block (w := a) (h.block p.block hp hd)
theorem heap_setCell_same {w : World} {b o : Nat} {c : Array Value} {t : TypeId} (h : w.heap[b]? = some (.cells c t (0, 0))) (v : Value) : (w.setCell ⟨b, o, none⟩ v).heap[b]? = some (.cells (c.setIfInBounds o v) t (0, 0)) := by
  simp only [World.setCell, Array.getElem?_modify]
  rw [if_pos True.intro, h]; rfl
theorem heap_lt {w : World} {b : Nat} {o : Obj} (h : w.heap[b]? = some o) : b < w.heap.size := (Array.getElem?_eq_some_iff.1 h).1
theorem cell_of {w : World} {b o : Nat} {c : Array Value} {t : TypeId} {v : Value} (h : w.heap[b]? = some (.cells c t (0, 0))) (hv : c[o]? = some v) : w.cell? ⟨b, o, none⟩ = some v := by
  simp [World.cell?, h, hv]
theorem free_of {w : World} {b : Nat} {c : Array Value} {t : TypeId} (h : w.heap[b]? = some (.cells c t (0, 0))) (o : Nat) : w.frozen? ⟨b, o, none⟩ = false := by
  simp [World.frozen?, h]
end Go.Proofs.YthkknpjoifoanaaGreatDoor

namespace Go.Proofs.YthkknpjoifoanaaGreatDoor
open Go.RowKit
/-- A reader is a block of its own. -/
def RdB (w : World) (b : Nat) (s : ByteArray) (i : Nat) : Prop := w.heap[b]? = some (.cells #[.string s, .int .i64 i] 131 (0, 0))
theorem RdB.at {w b s i} (h : RdB w b s i) : RdAt w b 0 s i := ⟨cell_of h rfl, cell_of h rfl⟩
theorem RdB.free {w b s i} (h : RdB w b s i) (o : Nat) : w.frozen? ⟨b, o, none⟩ = false := free_of h o
theorem RdB.only {w w' b s i D} (h : RdB w b s i) (ho : Only D w w') (hd : ¬ D b) : RdB w' b s i := (ho.block b (heap_lt h) hd).trans h
theorem RdB.set {w b s i} (h : RdB w b s i) (j : Nat) : RdB (w.setCell ⟨b, 1, none⟩ (.int .i64 j)) b s j := by
  unfold RdB at *
  rw [heap_setCell_same h]; rfl
theorem RdB.drewN {w b s i} (h : RdB w b s i) (n : Nat) : RdB (w.drewN n) b s i := h
set_option maxHeartbeats 1000000 in
theorem take_some (b : Nat) (s : ByteArray) (hs : s.size ≤ maxLen) (i : Nat) (hi : i < s.size) (w : World) (h : RdB w b s i) :
    Calls Tryz.prog 222 #[.pointer (some ⟨b, 0, none⟩)] w fun e w' => e = .returned (.tuple #[.int .u8 (s[i].toNat), .bool true]) ∧ RdB w' b s (i + 1) ∧ Only (fun k => k = b) w w' := by
  unfold maxLen at hs
  have HR := hide h
  obtain ⟨c0, c1⟩ := h.at
  have hf := h.free 1
  simp only [Nat.zero_add] at c1
  clear h
  go_enter Tryz.func222, Tryz.ntmps222
  go_wp2_with (go_at_call 51; refine (ended_no b 0 s i hi _ HR.out.at).mono ?_; rintro e w' ⟨rfl, n, rfl⟩)
  go_quiet (fail)
  go_wp2
  go_ret2
  exact ⟨rfl, ((HR.out.drewN n).set (i + 1)).drewN nq, (((Only.refl (fun k => k = b) w).drewN n).setCell (p := ⟨b, 1, none⟩) (fun _ => rfl) _).drewN nq⟩
set_option maxHeartbeats 1000000 in
theorem take_none (b : Nat) (s : ByteArray) (w : World) (h : RdB w b s s.size) :
    Calls Tryz.prog 222 #[.pointer (some ⟨b, 0, none⟩)] w fun e w' => e = .returned (.tuple #[.int .u8 0, .bool false]) ∧ RdB w' b s s.size ∧ Only (fun k => k = b) w w' := by
  have HR := hide h
  clear h
  go_enter Tryz.func222, Tryz.ntmps222
  go_wp2_with (go_at_call 51; refine (ended_yes b 0 s s.size rfl _ HR.out.at).mono ?_; rintro e w' ⟨rfl, n, rfl⟩)
  go_ret2
  exact ⟨rfl, HR.out.drewN n, (Only.refl _ w).drewN n⟩
/-- Does a range follow? -/
def rngB (l : List UInt8) (j : Nat) : Bool := hasB l j 45 && decide (j + 1 < l.length) && !hasB l (j + 1) 93
theorem sees_is (b o : Nat) (s : ByteArray) (i : Nat) (hi : i ≤ s.size) (c : Nat) (v : Bool) (hv : hasB s.data.toList i c = v) (w : World) (h : RdAt w b o s i) :
    Calls Tryz.prog 90 #[.pointer (some ⟨b, o, none⟩), .int .u8 c] w fun e w' => e = .returned (.bool v) ∧ ∃ n, w' = w.drewN n := by
  subst hv; exact sees_any b o s i hi c w h
set_option maxHeartbeats 1000000 in
theorem range_any (b : Nat) (s : ByteArray) (hs : s.size ≤ maxLen) (i : Nat) (hi : i ≤ s.size) (w : World) (h : RdB w b s i) :
    Calls Tryz.prog 407 #[.pointer (some ⟨b, 0, none⟩)] w fun e w' => e = .returned (.bool (rngB s.data.toList i)) ∧ ∃ n, w' = w.drewN n := by
  unfold maxLen at hs
  have HR := hide h
  obtain ⟨c0, c1⟩ := h.at
  simp only [Nat.zero_add] at c1
  clear h
  cases h1 : hasB s.data.toList i 45
  · have H1 := hide h1
    clear h1
    go_enter Tryz.func407, Tryz.ntmps407
    go_wp2
    go_quiet (first | (go_at_call 90; exact Calls.quiet_of (sees_is b 0 s i hi 45 false H1.out _ HR.out.at)))
    go_wp2
    go_ret
    exact ⟨ret_bool (by unfold rngB; rw [H1.out]; rfl), _, rfl⟩
  · have H1 := hide h1
    have hlt := hasB_lt h1
    rw [len_eq] at hlt
    clear h1
    obtain ⟨k, hk⟩ : ∃ k, k = i + 1 := ⟨_, rfl⟩
    have hwr : IntKind.i64.wrap ((i : Int) + 1) = (k : Int) := by rw [IntKind.wrap_i64]; omega
    have HK := hide hk
    by_cases h2 : k < s.size
    · have HG := hide (get_of_lt s k h2)
      have hd : decide ((k : Int) < (s.size : Int)) = true := decide_eq_true (by omega)
      have HL : Hid (decide (i + 1 < s.data.toList.length) = true) := decide_eq_true (by rw [len_eq]; omega)
      clear hk
      go_enter Tryz.func407, Tryz.ntmps407
      go_wp2
      go_quiet (first | (go_at_call 90; exact Calls.quiet_of (sees_is b 0 s i hi 45 true H1.out _ HR.out.at)))
      go_wp2
      go_ret
      refine ⟨ret_bool ?_, _, rfl⟩
      unfold rngB
      rw [H1.out, HL.out]
      unfold hasB
      rw [← HK.out, HG.out]
      simp only [Bool.true_and]
      have hq : ((s[k].toNat : Int) == 93) = (s[k].toNat == 93) := by rw [Bool.eq_iff_iff, beq_iff_eq, beq_iff_eq]; omega
      simp [bne, hq]
    · have hd : decide ((k : Int) < (s.size : Int)) = false := decide_eq_false (by omega)
      have HL : Hid (decide (i + 1 < s.data.toList.length) = false) := decide_eq_false (by rw [len_eq]; omega)
      clear hk
      go_enter Tryz.func407, Tryz.ntmps407
      go_wp2
      go_quiet (first | (go_at_call 90; exact Calls.quiet_of (sees_is b 0 s i hi 45 true H1.out _ HR.out.at)))
      go_wp2
      go_ret
      exact ⟨ret_bool (by unfold rngB; rw [HL.out, H1.out]; rfl), _, rfl⟩
end Go.Proofs.YthkknpjoifoanaaGreatDoor

namespace Go.Proofs.YthkknpjoifoanaaGreatDoor
open Go.RowKit
/-- Four words, a bit a byte. -/
def SetIs (xs : Nat → Nat) (S : UInt8 → Bool) : Prop := (∀ k, xs k < 18446744073709551616) ∧ ∀ c : UInt8, S c = (xs (c.toNat / 64)).testBit (c.toNat % 64)
def SetAt (w : World) (b o : Nat) (xs : Nat → Nat) : Prop := ∀ k, k < 4 → w.cell? ⟨b, o + k, none⟩ = some (.int .u64 (xs k))
theorem bit_eq (X m : Nat) (hx : X < 18446744073709551616) : (bits BinOp.and IntKind.u64 ((X : Int) / 2 ^ m) 1 == 1) = X.testBit m := by
  have h1 : (X : Int) / 2 ^ m = ((X / 2 ^ m : Nat) : Int) := by simp
  have h2 : X / 2 ^ m ≤ X := Nat.div_le_self _ _
  have h3 : (0 : Int) ≤ ((X / 2 ^ m : Nat) : Int) := Int.natCast_nonneg _
  have h4 : ((X / 2 ^ m : Nat) : Int) ≤ (X : Int) := Int.ofNat_le.2 h2
  rw [h1, and_one_u64 _ h3 (by omega), Nat.testBit_eq_decide_div_mod_eq, Bool.eq_iff_iff, beq_iff_eq, decide_eq_true_iff]
  omega
set_option maxHeartbeats 1000000 in
theorem has_any (b o : Nat) (xs : Nat → Nat) (S : UInt8 → Bool) (hS : SetIs xs S) (c : UInt8) (w : World) (h : SetAt w b o xs) :
    Calls Tryz.prog 93 #[.pointer (some ⟨b, o, none⟩), .int .u8 c.toNat] w fun e w' => e = .returned (.bool (S c)) ∧ w' = w := by
  have hc := c.toNat_lt
  have c0 := h (c.toNat / 64) (by omega)
  have HS := hide (hS.2 c)
  have hx := hS.1 (c.toNat / 64)
  have h1 : 0 ≤ (c.toNat : Int) / 64 % 256 ∧ (c.toNat : Int) / 64 % 256 < 4 := by omega
  clear h hS
  generalize xs (c.toNat / 64) = X at *
  go_enter Tryz.func93, Tryz.ntmps93
  go_wp2
  go_ret
  refine ⟨ret_bool ?_, rfl⟩
  rw [HS.out, bit_eq X _ hx]
def setCs (xs : Nat → Nat) : Array Value := #[.int .u64 (xs 0), .int .u64 (xs 1), .int .u64 (xs 2), .int .u64 (xs 3)]
def SetB (w : World) (b : Nat) (xs : Nat → Nat) : Prop := w.heap[b]? = some (.cells (setCs xs) 72 (0, 0))
theorem SetB.at {w b xs} (h : SetB w b xs) : SetAt w b 0 xs := by
  intro k hk
  match k, hk with
  | 0, _ => exact cell_of h rfl
  | 1, _ => exact cell_of h rfl
  | 2, _ => exact cell_of h rfl
  | 3, _ => exact cell_of h rfl
def upd (xs : Nat → Nat) (k v : Nat) (j : Nat) : Nat := if j = k then v else xs j
theorem SetB.set {w b xs} (h : SetB w b xs) (k v : Nat) (hk : k < 4) : SetB (w.setCell ⟨b, k, none⟩ (.int .u64 v)) b (upd xs k v) := by
  unfold SetB at *
  rw [heap_setCell_same h]
  match k, hk with
  | 0, _ => rfl
  | 1, _ => rfl
  | 2, _ => rfl
  | 3, _ => rfl
theorem or_eq (X m : Nat) (hx : X < 18446744073709551616) (hm : m < 64) : bits BinOp.or IntKind.u64 (X : Int) (IntKind.u64.wrap (2 ^ m)) = ((X ||| 2 ^ m : Nat) : Int) := by
  have h2 : 2 ^ m < 18446744073709551616 := by
    have : 2 ^ m < 2 ^ 64 := Nat.pow_lt_pow_right (by decide) hm
    omega
  have h1 : IntKind.u64.wrap (2 ^ m) = ((2 ^ m : Nat) : Int) := by
    have h3 : ((2 ^ m : Nat) : Int) = (2 : Int) ^ m := by simp
    rw [IntKind.wrap_u64, ← h3]
    generalize 2 ^ m = y at *
    omega
  rw [h1, u64_or_nat X _ hx h2]
theorem SetIs.add {xs : Nat → Nat} {S T : UInt8 → Bool} {j : Nat} (h : SetIs xs S) (hT : ∀ c : UInt8, T c = (S c || decide (c.toNat = j))) : SetIs (upd xs (j / 64) (xs (j / 64) ||| 2 ^ (j % 64))) T := by
  constructor
  · intro k
    unfold upd
    split
    · have h1 : xs (j / 64) < 2 ^ 64 := by have := h.1 (j / 64); omega
      have h2 : 2 ^ (j % 64) < 2 ^ 64 := Nat.pow_lt_pow_right (by decide) (Nat.mod_lt _ (by decide))
      have := Nat.or_lt_two_pow h1 h2
      omega
    · exact h.1 k
  · intro c
    rw [hT, h.2 c]
    unfold upd
    split
    · rename_i hk
      rw [hk, Nat.testBit_or, Nat.testBit_two_pow]
      congr 1
      rw [Bool.eq_iff_iff, decide_eq_true_iff, decide_eq_true_iff]
      omega
    · rename_i hk
      rw [show decide (c.toNat = j) = false from decide_eq_false (fun e => hk (by rw [e])), Bool.or_false]
theorem Only.drew {D : Nat → Prop} {a w : World} (h : Only D a w) : Only D a w.drew := ⟨h.os, h.tape, h.output, h.size, h.block⟩
set_option maxHeartbeats 1000000 in
theorem add_any (b : Nat) (xs : Nat → Nat) (S : UInt8 → Bool) (hS : SetIs xs S) (lo hi : UInt8) (w : World) (h : SetB w b xs) :
    Calls Tryz.prog 342 #[.pointer (some ⟨b, 0, none⟩), .int .u8 lo.toNat, .int .u8 hi.toNat] w fun e w' => e = .returned (.tuple #[]) ∧ (∃ ys, SetIs ys (orS S (rangeS lo hi)) ∧ SetB w' b ys) ∧ Only (fun k => k = b) w w' := by
  have hlo := lo.toNat_lt
  have hhi := hi.toNat_lt
  go_enter Tryz.func342, Tryz.ntmps342
  go_wp2
  go_loopw [6] (fun i wr => ∃ (j : Nat) (ys : Nat → Nat), lo.toNat ≤ j ∧ (j ≤ hi.toNat + 1 ∨ j = lo.toNat) ∧ i = .int .i64 j ∧ SetIs ys (orS S (fun c => decide (lo.toNat ≤ c.toNat) && decide (c.toNat < j))) ∧ SetB wr b ys ∧ Only (fun k => k = b) w wr) (fun i _ => 256 - (intOf i).toNat)
  case atStart =>
    refine ⟨lo.toNat, xs, Nat.le_refl _, Or.inr rfl, by go_num, ?_, h, Only.refl _ _⟩
    refine ⟨hS.1, fun c => ?_⟩
    rw [← hS.2 c]
    show (S c || (decide (lo.toNat ≤ c.toNat) && decide (c.toNat < lo.toNat))) = S c
    by_cases hc : lo.toNat ≤ c.toNat
    · rw [decide_eq_false (show ¬ c.toNat < lo.toNat by omega), Bool.and_false, Bool.or_false]
    · rw [decide_eq_false hc, Bool.false_and, Bool.or_false]
  case round =>
    obtain ⟨j, ys, h1, h2, rfl, h3, h4, h5⟩ := hrel
    by_cases hj : j ≤ hi.toNat
    · have c0 := h4.at (j / 64) (by omega)
      have hf := free_of h4 (j / 64)
      simp only [Nat.zero_add] at c0
      have H3 : Hid (SetIs (upd ys (j / 64) (ys (j / 64) ||| 2 ^ (j % 64))) (orS S (fun c => decide (lo.toNat ≤ c.toNat) && decide (c.toNat < j + 1)))) := h3.add (fun c => by
        unfold orS
        rw [Bool.or_assoc]
        congr 1
        rw [Bool.eq_iff_iff]
        simp only [Bool.and_eq_true, Bool.or_eq_true, decide_eq_true_iff]
        omega)
      have hx := h3.1 (j / 64)
      have H4 : Hid (SetB ((wr.setCell ⟨b, j / 64, none⟩ (.int .u64 ((ys (j / 64) ||| 2 ^ (j % 64) : Nat))))) b (upd ys (j / 64) (ys (j / 64) ||| 2 ^ (j % 64)))) := h4.set (j / 64) _ (by omega)
      have H5 := hide h5
      have HO := hide (or_eq (ys (j / 64)) (j % 64) hx (by omega))
      clear h h3 h4 h5
      generalize ys (j / 64) = X at *
      go_wp2
      go_region
      rw [HO.out]
      go_wp2
      go_roundw
      case rel => exact ⟨j + 1, _, by omega, Or.inl (by omega), by go_num, H3.out, H4.out, (H5.out.setCell (p := ⟨b, j / 64, none⟩) (fun _ => rfl) _).drew⟩
      case measure => simp [intOf]; omega
    · have H3 : Hid (SetIs ys (orS S (rangeS lo hi))) := by
        refine ⟨h3.1, fun c => ?_⟩
        rw [← h3.2 c]
        unfold orS rangeS
        congr 1
        rw [Bool.eq_iff_iff]
        simp only [Bool.and_eq_true, decide_eq_true_iff]
        omega
      have H4 := hide h4
      have H5 := hide h5
      clear h h3 h4 h5
      go_wp2
      go_end0
      exact ⟨rfl, ⟨_, H3.out, H4.out⟩, H5.out⟩
end Go.Proofs.YthkknpjoifoanaaGreatDoor

namespace Go.Proofs.YthkknpjoifoanaaGreatDoor
open Go.RowKit
theorem SetIs.none : SetIs (fun _ => 0) (fun _ => false) := ⟨fun _ => by simp, fun c => by simp⟩
theorem SetIs.congr {xs S T} (h : SetIs xs S) (e : ∀ c, S c = T c) : SetIs xs T := ⟨h.1, fun c => by rw [← e]; exact h.2 c⟩
theorem new0 (w : World) (a : Obj) : (w.alloc a).heap[w.heap.size]? = some a := heap_alloc_new w a
theorem new1 (w : World) (a b : Obj) : ((w.alloc a).alloc b).heap[w.heap.size + 1]? = some b := by
  have := heap_alloc_new (w.alloc a) b
  rwa [show (w.alloc a).heap.size = w.heap.size + 1 by simp] at this
theorem old1 (w : World) (a b : Obj) : ((w.alloc a).alloc b).heap[w.heap.size]? = some a := by
  rw [Below.heap_alloc _ _ _ (by simp)]; exact new0 w a
set_option maxHeartbeats 1000000 in
theorem single_any (c : UInt8) (w : World) :
    Calls Tryz.prog 226 #[.int .u8 c.toNat] w fun e w' => ∃ ys, e = .returned (.agg (setCs ys)) ∧ SetIs ys (oneS c) ∧ Only (fun _ => False) w w' := by
  go_enter Tryz.func226, Tryz.ntmps226
  go_wp2_with fail
  refine (add_any _ (fun _ => 0) _ SetIs.none c c _ (new1 w _ _)).mono ?_
  rintro e w1 ⟨rfl, ⟨ys, hy, hb⟩, ho⟩
  have q : w1.heap[w.heap.size]? = some (.cells (setCs (fun _ => 0)) 72 (0, 0)) := by
    rw [ho.block w.heap.size (by simp; omega) (by omega)]
    exact old1 w _ _
  have HY : Hid (SetIs ys (oneS c)) := hy.congr (fun d => by simp [orS, oneS])
  have c0 : w1.cell? ⟨w.heap.size + 1, 0, none⟩ = some (.int .u64 (ys 0)) := cell_of hb rfl
  have c1 : w1.cell? ⟨w.heap.size + 1, 1, none⟩ = some (.int .u64 (ys 1)) := cell_of hb rfl
  have c2 : w1.cell? ⟨w.heap.size + 1, 2, none⟩ = some (.int .u64 (ys 2)) := cell_of hb rfl
  have c3 : w1.cell? ⟨w.heap.size + 1, 3, none⟩ = some (.int .u64 (ys 3)) := cell_of hb rfl
  have d0 : w1.cell? ⟨w.heap.size, 0, none⟩ = some (.int .u64 0) := cell_of q rfl
  have d1 : w1.cell? ⟨w.heap.size, 1, none⟩ = some (.int .u64 0) := cell_of q rfl
  have d2 : w1.cell? ⟨w.heap.size, 2, none⟩ = some (.int .u64 0) := cell_of q rfl
  have d3 : w1.cell? ⟨w.heap.size, 3, none⟩ = some (.int .u64 0) := cell_of q rfl
  have f0 := free_of q 0
  have f1 := free_of q 1
  have f2 := free_of q 2
  have f3 := free_of q 3
  have HO := hide ho
  have HQ := hide q
  clear hy hb ho q
  go_wp2
  have hn : ∀ o, w.heap.size < w.heap.size → (fun _ => False) (Addr.block ⟨w.heap.size, o, none⟩) := fun _ h => by omega
  refine bodyPost_ret (v := .agg (setCs ys)) (by simp [results, Tryz.results226, go_sem, setCs, d0, d1, d2, d3]) rfl ⟨ys, rfl, HY.out, ?_⟩
  exact (((((((Only.refl (fun _ => False) w).alloc _).alloc _).trans HO.out (fun i h e => by omega)).setCell (p := ⟨w.heap.size, 0, none⟩) (hn 0) _).setCell (p := ⟨w.heap.size, 1, none⟩) (hn 1) _).setCell (p := ⟨w.heap.size, 2, none⟩) (hn 2) _).setCell (p := ⟨w.heap.size, 3, none⟩) (hn 3) _
def notW (X : Nat) : Nat := 18446744073709551615 - X
theorem SetIs.not {xs S} (h : SetIs xs S) : SetIs (fun k => notW (xs k)) (notS S) := by
  refine ⟨fun k => by show 18446744073709551615 - xs k < _; omega, fun c => ?_⟩
  show (! S c) = (18446744073709551615 - xs (c.toNat / 64)).testBit (c.toNat % 64)
  have hx := h.1 (c.toNat / 64)
  rw [h.2 c, show 18446744073709551615 - xs (c.toNat / 64) = 2 ^ 64 - (xs (c.toNat / 64) + 1) by omega, Nat.testBit_two_pow_sub_succ (by omega)]
  have hm : c.toNat % 64 < 64 := Nat.mod_lt _ (by decide)
  simp [hm]
theorem xor_eq (X : Nat) (hx : X < 18446744073709551616) : bits BinOp.xor IntKind.u64 (if IntKind.u64.signed = true then -1 else IntKind.u64.max) (X : Int) = (notW X : Int) := by
  rw [show (if IntKind.u64.signed = true then -1 else IntKind.u64.max) = ((18446744073709551615 : Nat) : Int) from rfl, u64_xor_nat _ X (by omega) hx]
  congr 1
  unfold notW
  apply Nat.eq_of_testBit_eq
  intro i
  rw [Nat.testBit_xor, show 18446744073709551615 = 2 ^ 64 - 1 by rfl, Nat.testBit_two_pow_sub_one, show 2 ^ 64 - 1 - X = 2 ^ 64 - (X + 1) by omega, Nat.testBit_two_pow_sub_succ (by omega)]
  by_cases h : i < 64
  · simp [h]
  · have : X.testBit i = false := Nat.testBit_lt_two_pow (Nat.lt_of_lt_of_le (show X < 2 ^ 64 by omega) (Nat.pow_le_pow_right (by decide) (by omega)))
    simp [h, this]
def notTo (xs : Nat → Nat) (j k : Nat) : Nat := if k < j then notW (xs k) else xs k
theorem notTo_step (xs : Nat → Nat) (j : Nat) : upd (notTo xs j) j (notW (xs j)) = notTo xs (j + 1) := by
  funext k
  unfold upd notTo
  by_cases h : k = j
  · subst h; simp
  · rw [if_neg h]
    by_cases h2 : k < j
    · rw [if_pos h2, if_pos (by omega)]
    · rw [if_neg h2, if_neg (by omega)]
set_option maxHeartbeats 1000000 in
theorem others_any (xs : Nat → Nat) (S : UInt8 → Bool) (hS : SetIs xs S) (w : World) :
    Calls Tryz.prog 225 #[.agg (setCs xs)] w fun e w' => ∃ ys, e = .returned (.agg (setCs ys)) ∧ SetIs ys (notS S) ∧ Only (fun _ => False) w w' := by
  have HN := hide hS.not
  have HX := hide hS.1
  clear hS
  unfold setCs
  go_enter Tryz.func225, Tryz.ntmps225
  go_wp2
  go_loopw [4] (fun i wr => ∃ j : Nat, j ≤ 4 ∧ i = .int .i64 j ∧ SetB wr w.heap.size (notTo xs j) ∧ SetB wr (w.heap.size + 1) (fun _ => 0) ∧ Only (fun _ => False) w wr) (fun i _ => 4 - (intOf i).toNat)
  case atStart => exact ⟨0, by omega, rfl, old1 w _ _, new1 w _ _, ((Only.refl _ w).alloc _).alloc _⟩
  case round =>
    obtain ⟨j, h1, rfl, h3, h4, h5⟩ := hrel
    by_cases hj : j < 4
    · have c0 : wr.cell? ⟨w.heap.size, j, none⟩ = some (.int .u64 (xs j)) := by
        have := h3.at j hj
        rw [Nat.zero_add] at this
        rw [this]; simp [notTo]
      have f0 := free_of h3 j
      have hx := HX.out j
      have H3 : Hid (SetB (wr.setCell ⟨w.heap.size, j, none⟩ (.int .u64 (notW (xs j)))) w.heap.size (notTo xs (j + 1))) := by
        have := h3.set j (notW (xs j)) hj
        rw [notTo_step] at this
        exact this
      have H4 : Hid (SetB (wr.setCell ⟨w.heap.size, j, none⟩ (.int .u64 (notW (xs j)))) (w.heap.size + 1) (fun _ => 0)) := by
        show SetB _ _ _
        unfold SetB
        rw [Below.heap_setCell _ _ _ _ (show w.heap.size + 1 ≠ w.heap.size by omega)]; exact h4
      have H5 := hide (h5.setCell (p := ⟨w.heap.size, j, none⟩) (fun h => absurd h (Nat.lt_irrefl _)) (.int .u64 (notW (xs j))))
      have HO := hide (xor_eq (xs j) hx)
      clear h3 h4 h5
      go_wp2
      rw [HO.out]
      go_roundw
      case rel => exact ⟨j + 1, by omega, by go_num, H3.out, H4.out, H5.out⟩
      case measure => simp [intOf]; omega
    · obtain rfl : j = 4 := by omega
      have c0 : wr.cell? ⟨w.heap.size, 0, none⟩ = some (.int .u64 (notW (xs 0))) := cell_of h3 rfl
      have c1 : wr.cell? ⟨w.heap.size, 1, none⟩ = some (.int .u64 (notW (xs 1))) := cell_of h3 rfl
      have c2 : wr.cell? ⟨w.heap.size, 2, none⟩ = some (.int .u64 (notW (xs 2))) := cell_of h3 rfl
      have c3 : wr.cell? ⟨w.heap.size, 3, none⟩ = some (.int .u64 (notW (xs 3))) := cell_of h3 rfl
      have d0 : wr.cell? ⟨w.heap.size + 1, 0, none⟩ = some (.int .u64 0) := cell_of h4 rfl
      have d1 : wr.cell? ⟨w.heap.size + 1, 1, none⟩ = some (.int .u64 0) := cell_of h4 rfl
      have d2 : wr.cell? ⟨w.heap.size + 1, 2, none⟩ = some (.int .u64 0) := cell_of h4 rfl
      have d3 : wr.cell? ⟨w.heap.size + 1, 3, none⟩ = some (.int .u64 0) := cell_of h4 rfl
      have f0 := free_of h4 0
      have f1 := free_of h4 1
      have f2 := free_of h4 2
      have f3 := free_of h4 3
      have hn : ∀ o, w.heap.size + 1 < w.heap.size → (fun _ => False) (Addr.block ⟨w.heap.size + 1, o, none⟩) := fun _ h => by omega
      have H5 := hide h5
      clear h3 h4 h5
      go_wp2
      refine bodyPost_ret (v := .agg (setCs (fun k => notW (xs k)))) (by simp [results, Tryz.results225, go_sem, setCs, d0, d1, d2, d3]) rfl ⟨_, rfl, HN.out, ?_⟩
      exact (((H5.out.setCell (p := ⟨w.heap.size + 1, 0, none⟩) (hn 0) _).setCell (p := ⟨w.heap.size + 1, 1, none⟩) (hn 1) _).setCell (p := ⟨w.heap.size + 1, 2, none⟩) (hn 2) _).setCell (p := ⟨w.heap.size + 1, 3, none⟩) (hn 3) _
end Go.Proofs.YthkknpjoifoanaaGreatDoor


namespace Go.Proofs.YthkknpjoifoanaaGreatDoor
open Go.RowKit
theorem rngB_true {l : List UInt8} {j : Nat} (h : rngB l j = true) : hasB l j 45 = true ∧ j + 1 < l.length ∧ hasB l (j + 1) 93 = false := by
  unfold rngB at h
  simp only [Bool.and_eq_true, decide_eq_true_iff, Bool.not_eq_true'] at h
  exact ⟨h.1.1, h.1.2, h.2⟩
theorem memberP_one {l : List UInt8} {i j : Nat} {lo : UInt8} (h : lowP l i = some (lo, j)) (hr : rngB l j = false) : memberP l i = some (rangeS lo lo, j) := by
  unfold memberP
  rw [h]
  simp only
  split
  · rename_i c hd hb hc
    split
    · rfl
    · rename_i h93
      have : rngB l j = true := by
        unfold rngB
        rw [hb, decide_eq_true (some_lt hc)]
        unfold hasB
        rw [hc]
        simp [h93]
      rw [hr] at this; cases this
  · rfl
theorem memberP_two {l : List UInt8} {i j : Nat} {lo h : UInt8} (hl : lowP l i = some (lo, j)) (hr : rngB l j = true) (hh : l[j + 1]? = some h) :
    memberP l i = if h.toNat = 92 ∨ h.toNat < lo.toNat then none else some (rangeS lo h, j + 2) := by
  obtain ⟨h1, h2, h3⟩ := rngB_true hr
  unfold memberP
  rw [hl]
  simp only
  rw [h1, hh]
  simp only
  rw [if_neg]
  unfold hasB at h3
  rw [hh] at h3
  simpa using h3
set_option maxHeartbeats 2000000 in
theorem member_any (b g : Nat) (hgb : ¬ b = g) (s : ByteArray) (hs : s.size ≤ maxLen) (i : Nat) (hi : i ≤ s.size) (xs : Nat → Nat) (S : UInt8 → Bool) (hS : SetIs xs S) (w : World) (h : RdB w b s i) (hg : SetB w g xs) :
    Calls Tryz.prog 341 #[.pointer (some ⟨b, 0, none⟩), .pointer (some ⟨g, 0, none⟩)] w fun e w' => e = .returned (.bool (memberP s.data.toList i).isSome) ∧ Only (fun k => k = b ∨ k = g) w w' ∧
      ∀ T j, memberP s.data.toList i = some (T, j) → RdB w' b s j ∧ ∃ ys, SetIs ys (orS S T) ∧ SetB w' g ys := by
  have HS := hide hS
  have HR0 := hide h
  have HG0 := hide hg
  have hml : s.size ≤ 9223372036854775807 := hs
  clear h hg hS
  by_cases hlt : i < s.size
  · have HG1 := hide (get_of_lt s i hlt)
    go_enter Tryz.func341, Tryz.ntmps341
    go_wp2_with fail
    refine (take_some b s hs i hlt _ HR0.out).mono ?_
    rintro e w1 ⟨rfl, hr1, ho1⟩
    have HR1 := hide hr1
    have HG2 : Hid (SetB w1 g xs) := (ho1.block g (heap_lt HG0.out) (fun e => hgb e.symm)).trans HG0.out
    have HO1 := hide (ho1.mono (E := fun k => k = b ∨ k = g) (fun k _ e => Or.inl e))
    clear hr1 ho1
    by_cases hc : s[i].toNat = 92
    · by_cases hl2 : i + 1 < s.size
      · have HG3 := hide (get_of_lt s (i + 1) hl2)
        have HLow : Hid (lowP s.data.toList i = some (s[i + 1], i + 2)) := by
          show lowP _ _ = _
          unfold lowP; rw [HG1.out]; simp only; rw [if_pos hc, HG3.out]
        have hci : (s[i].toNat : Int) = 92 := by omega
        go_wp2_with fail
        refine (take_some b s hs (i + 1) hl2 _ HR1.out).mono ?_
        rintro e w2 ⟨rfl, hr2, ho2⟩
        obtain ⟨J, hJ⟩ : ∃ J, J = i + 2 := ⟨_, rfl⟩
        have hJs : J ≤ s.size := by omega
        have HRd : Hid (RdB w2 b s J) := by rw [hJ]; exact hr2
        rw [← hJ] at HLow
        generalize s[i + 1] = LW at *
        have HSt : Hid (SetB w2 g xs) := (ho2.block g (heap_lt HG2.out) (fun e => hgb e.symm)).trans HG2.out
        have HOn : Hid (Only (fun k => k = b ∨ k = g) w w2) := HO1.out.trans ho2 (fun k _ e => Or.inl e)
        clear hr2 ho2 hJ
        have c0 : w2.cell? ⟨b, 0, none⟩ = some (.string s) := HRd.out.at.1
        have c1 : w2.cell? ⟨b, 1, none⟩ = some (.int .i64 J) := HRd.out.at.2
        have f1 : w2.frozen? ⟨b, 1, none⟩ = false := HRd.out.free 1
        cases hr : rngB s.data.toList J
        · have HRng := hide hr
          have HM : Hid (memberP s.data.toList i = some (rangeS LW LW, J)) := memberP_one HLow.out hr
          clear hr
          go_wp2_with fail
          refine (range_any b s hs J hJs _ HRd.out).mono ?_
          rintro e w' ⟨rfl, n3, rfl⟩
          rw [HRng.out]
          go_wp2_with fail
          refine (add_any g xs S HS.out LW LW _ ?hset).mono ?_
          case hset => exact HSt.out
          rintro e w4 ⟨rfl, ⟨ys, hy, hb⟩, ho⟩
          have H1 := hide (RdB.only (HRd.out.drewN n3) ho hgb)
          have H2 := hide hy
          have H3 := hide hb
          have H4 := hide ((HOn.out.drewN n3).trans ho (fun k _ e => Or.inr e))
          clear hy hb ho
          go_wp2
          go_ret
          exact ⟨ret_bool (by rw [HM.out]; rfl), H4.out, fun T k h => by rw [HM.out] at h; cases h; exact ⟨H1.out, ys, H2.out, H3.out⟩⟩
        · have HRng := hide hr
          obtain ⟨_, hk2, _⟩ := rngB_true hr
          rw [len_eq] at hk2
          obtain ⟨k, hk⟩ : ∃ k, k = J + 1 := ⟨_, rfl⟩
          have hks : k < s.size := by omega
          have hwr : IntKind.i64.wrap ((J : Int) + 1) = (k : Int) := by rw [IntKind.wrap_i64]; omega
          obtain ⟨m, hm⟩ : ∃ m, m = J + 2 := ⟨_, rfl⟩
          have hwm : IntKind.i64.wrap ((J : Int) + 2) = (m : Int) := by rw [IntKind.wrap_i64]; omega
          have HG := hide (get_of_lt s k hks)
          have HM : Hid (memberP s.data.toList i = if s[k].toNat = 92 ∨ s[k].toNat < LW.toNat then none else some (rangeS LW s[k], m)) := by
            have h7 := memberP_two HLow.out hr (by rw [← hk]; exact HG.out)
            rw [← hm] at h7
            exact h7
          clear hr hk hm hk2
          go_wp2_with fail
          refine (range_any b s hs J hJs _ HRd.out).mono ?_
          rintro e w' ⟨rfl, n3, rfl⟩
          rw [HRng.out]
          go_wp2_with fail
          go_quiet (fail)
          by_cases h92 : (s[k].toNat : Int) = 92
          · go_wp2
            go_ret
            exact ⟨ret_bool (by rw [HM.out, if_pos (Or.inl (by omega))]; rfl), (HOn.out.drewN _).setCell (p := ⟨b, 1, none⟩) (fun _ => Or.inl rfl) _, fun T k h => by rw [HM.out, if_pos (Or.inl (by omega))] at h; cases h⟩
          · by_cases hlo : (s[k].toNat : Int) < (LW.toNat : Int)
            · go_wp2
              go_ret
              exact ⟨ret_bool (by rw [HM.out, if_pos (Or.inr (by omega))]; rfl), (HOn.out.drewN _).setCell (p := ⟨b, 1, none⟩) (fun _ => Or.inl rfl) _, fun T k h => by rw [HM.out, if_pos (Or.inr (by omega))] at h; cases h⟩
            · go_wp2_with fail
              refine (add_any g xs S HS.out LW s[k] _ ?hset).mono ?_
              case hset =>
                unfold SetB
                rw [Below.heap_setCell _ _ _ _ (fun e => hgb e.symm)]
                exact HSt.out
              rintro e w4 ⟨rfl, ⟨ys, hy, hb⟩, ho⟩
              have H1 : Hid (RdB w4 b s m) := RdB.only ((HRd.out.drewN _).set m) ho hgb
              have H2 := hide hy
              have H3 := hide hb
              have H4 := hide (((HOn.out.drewN _).setCell (p := ⟨b, 1, none⟩) (fun _ => Or.inl rfl) _).trans ho (fun k _ e => Or.inr e))
              have HN : Hid (¬ (s[k].toNat = 92 ∨ s[k].toNat < LW.toNat)) := by
                intro h
                omega
              clear hy hb ho
              go_wp2
              go_ret
              exact ⟨ret_bool (by rw [HM.out, if_neg HN.out]; rfl), H4.out, fun T k h => by rw [HM.out, if_neg HN.out] at h; cases h; exact ⟨H1.out, ys, H2.out, H3.out⟩⟩
      · have HM : Hid (memberP s.data.toList i = none) := by
          show memberP _ _ = _
          unfold memberP lowP
          rw [HG1.out]
          simp only
          rw [if_pos hc, get_none s (i + 1) (by omega)]
        have hci : (s[i].toNat : Int) = 92 := by omega
        have HR2 : Hid (RdB w1 b s s.size) := by
          have h7 : i + 1 = s.size := by omega
          rw [← h7]; exact HR1.out
        go_wp2_with fail
        refine (take_none b s _ HR2.out).mono ?_
        rintro e w2 ⟨rfl, hr2, ho2⟩
        have HOn : Hid (Only (fun k => k = b ∨ k = g) w w2) := HO1.out.trans ho2 (fun k _ e => Or.inl e)
        clear hr2 ho2
        go_wp2
        go_ret
        exact ⟨ret_bool (by rw [HM.out]; rfl), HOn.out, fun T k h => by rw [HM.out] at h; cases h⟩
    · have HLow : Hid (lowP s.data.toList i = some (s[i], i + 1)) := by
        show lowP _ _ = _
        unfold lowP; rw [HG1.out]; simp only; rw [if_neg hc]
      have hci : ¬ (s[i].toNat : Int) = 92 := by omega
      obtain ⟨J, hJ⟩ : ∃ J, J = i + 1 := ⟨_, rfl⟩
      have hJs : J ≤ s.size := by omega
      have HRd : Hid (RdB w1 b s J) := by rw [hJ]; exact HR1.out
      rw [← hJ] at HLow
      clear hJ
      have HSt := HG2
      have HOn := HO1
      have c0 : w1.cell? ⟨b, 0, none⟩ = some (.string s) := HRd.out.at.1
      have c1 : w1.cell? ⟨b, 1, none⟩ = some (.int .i64 J) := HRd.out.at.2
      have f1 : w1.frozen? ⟨b, 1, none⟩ = false := HRd.out.free 1
      cases hr : rngB s.data.toList J
      · have HRng := hide hr
        have HM : Hid (memberP s.data.toList i = some (rangeS s[i] s[i], J)) := memberP_one HLow.out hr
        clear hr
        go_wp2_with fail
        refine (range_any b s hs J hJs _ HRd.out).mono ?_
        rintro e w' ⟨rfl, n3, rfl⟩
        rw [HRng.out]
        go_wp2_with fail
        refine (add_any g xs S HS.out s[i] s[i] _ ?hset).mono ?_
        case hset => exact HSt.out
        rintro e w4 ⟨rfl, ⟨ys, hy, hb⟩, ho⟩
        have H1 := hide (RdB.only (HRd.out.drewN n3) ho hgb)
        have H2 := hide hy
        have H3 := hide hb
        have H4 := hide ((HOn.out.drewN n3).trans ho (fun k _ e => Or.inr e))
        clear hy hb ho
        go_wp2
        go_ret
        exact ⟨ret_bool (by rw [HM.out]; rfl), H4.out, fun T k h => by rw [HM.out] at h; cases h; exact ⟨H1.out, ys, H2.out, H3.out⟩⟩
      · have HRng := hide hr
        obtain ⟨_, hk2, _⟩ := rngB_true hr
        rw [len_eq] at hk2
        obtain ⟨k, hk⟩ : ∃ k, k = J + 1 := ⟨_, rfl⟩
        have hks : k < s.size := by omega
        have hwr : IntKind.i64.wrap ((J : Int) + 1) = (k : Int) := by rw [IntKind.wrap_i64]; omega
        obtain ⟨m, hm⟩ : ∃ m, m = J + 2 := ⟨_, rfl⟩
        have hwm : IntKind.i64.wrap ((J : Int) + 2) = (m : Int) := by rw [IntKind.wrap_i64]; omega
        have HG := hide (get_of_lt s k hks)
        have HM : Hid (memberP s.data.toList i = if s[k].toNat = 92 ∨ s[k].toNat < s[i].toNat then none else some (rangeS s[i] s[k], m)) := by
          have h7 := memberP_two HLow.out hr (by rw [← hk]; exact HG.out)
          rw [← hm] at h7
          exact h7
        clear hr hk hm hk2
        go_wp2_with fail
        refine (range_any b s hs J hJs _ HRd.out).mono ?_
        rintro e w' ⟨rfl, n3, rfl⟩
        rw [HRng.out]
        go_wp2_with fail
        go_quiet (fail)
        by_cases h92 : (s[k].toNat : Int) = 92
        · go_wp2
          go_ret
          exact ⟨ret_bool (by rw [HM.out, if_pos (Or.inl (by omega))]; rfl), (HOn.out.drewN _).setCell (p := ⟨b, 1, none⟩) (fun _ => Or.inl rfl) _, fun T k h => by rw [HM.out, if_pos (Or.inl (by omega))] at h; cases h⟩
        · by_cases hlo : (s[k].toNat : Int) < (s[i].toNat : Int)
          · go_wp2
            go_ret
            exact ⟨ret_bool (by rw [HM.out, if_pos (Or.inr (by omega))]; rfl), (HOn.out.drewN _).setCell (p := ⟨b, 1, none⟩) (fun _ => Or.inl rfl) _, fun T k h => by rw [HM.out, if_pos (Or.inr (by omega))] at h; cases h⟩
          · go_wp2_with fail
            refine (add_any g xs S HS.out s[i] s[k] _ ?hset).mono ?_
            case hset =>
              unfold SetB
              rw [Below.heap_setCell _ _ _ _ (fun e => hgb e.symm)]
              exact HSt.out
            rintro e w4 ⟨rfl, ⟨ys, hy, hb⟩, ho⟩
            have H1 : Hid (RdB w4 b s m) := RdB.only ((HRd.out.drewN _).set m) ho hgb
            have H2 := hide hy
            have H3 := hide hb
            have H4 := hide (((HOn.out.drewN _).setCell (p := ⟨b, 1, none⟩) (fun _ => Or.inl rfl) _).trans ho (fun k _ e => Or.inr e))
            have HN : Hid (¬ (s[k].toNat = 92 ∨ s[k].toNat < s[i].toNat)) := by
              intro h
              omega
            clear hy hb ho
            go_wp2
            go_ret
            exact ⟨ret_bool (by rw [HM.out, if_neg HN.out]; rfl), H4.out, fun T k h => by rw [HM.out, if_neg HN.out] at h; cases h; exact ⟨H1.out, ys, H2.out, H3.out⟩⟩
  · obtain rfl : i = s.size := by omega
    have HM : Hid (memberP s.data.toList s.size = none) := by
      show memberP _ _ = _
      unfold memberP lowP
      rw [get_none s s.size (Nat.le_refl _)]
    go_enter Tryz.func341, Tryz.ntmps341
    go_wp2_with fail
    refine (take_none b s _ HR0.out).mono ?_
    rintro e w2 ⟨rfl, hr2, ho2⟩
    have HOn : Hid (Only (fun k => k = b ∨ k = g) w w2) := ho2.mono (fun k _ e => Or.inl e)
    clear hr2 ho2
    go_wp2
    go_ret
    exact ⟨ret_bool (by rw [HM.out]; rfl), HOn.out, fun T k h => by rw [HM.out] at h; cases h⟩
end Go.Proofs.YthkknpjoifoanaaGreatDoor

