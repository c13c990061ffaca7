import Derived.Test.YtdbdbaepmdmnfaaGreatDoorProg
import Derived.WalkKit
import Derived.WalkSpells
import Derived.WalkLawsBesides
import Derived.Deep.RegionWith
import Derived.Deep.QuietTactic
import Derived.BigQuiet
import Derived.Below
import Derived.Deep.Draws
import Derived.WalkSmall
import Derived.Laws.BitsAllLaws
import Derived.Laws.AppendOwn
/- Plain functions on lists of bytes: blanks, leading numbers. Nothing of the program is imported. -/
namespace Go.Proofs.YtdbdbaepmdmnfaaGreatDoor
open Go.RowKit
def blankB (c : UInt8) : Bool := (c.toNat : Int) == 32 || (c.toNat : Int) == 9 || (c.toNat : Int) == 10
def digB (c : UInt8) : Bool := decide (48 ≤ c.toNat) && decide (c.toNat ≤ 57)
/-- The first place from k on where no byte of the kind p stands. -/
def runTo (p : UInt8 → Bool) (l : List UInt8) (k : Nat) : Nat := k + ((l.drop k).takeWhile p).length
theorem runTo_stop {p : UInt8 → Bool} {l : List UInt8} {k : Nat} (h : ∀ c, l[k]? = some c → p c = false) : runTo p l k = k := by
  unfold runTo
  cases hd : l.drop k with
  | nil => simp
  | cons c r =>
    have : l[k]? = some c := by
      have := congrArg (fun x => x[0]?) hd
      simpa using this
    simp [h c this]
theorem runTo_step {p : UInt8 → Bool} {l : List UInt8} {k : Nat} {c : UInt8} (h : l[k]? = some c) (hp : p c = true) : runTo p l (k + 1) = runTo p l k := by
  unfold runTo
  have hk : k < l.length := by
    by_cases hk : k < l.length
    · exact hk
    · rw [List.getElem?_eq_none (by omega)] at h; cases h
  have hc : l[k] = c := by rw [List.getElem?_eq_getElem hk] at h; exact Option.some.inj h
  rw [List.drop_eq_getElem_cons hk, List.takeWhile_cons, hc, hp]
  simp; omega
theorem runTo_ge (p : UInt8 → Bool) (l : List UInt8) (k : Nat) : k ≤ runTo p l k := by unfold runTo; omega
theorem runTo_le {p : UInt8 → Bool} {l : List UInt8} {k : Nat} (h : k ≤ l.length) : runTo p l k ≤ l.length := by
  unfold runTo
  have := List.takeWhile_prefix p (l := l.drop k) |>.length_le
  simp at this; omega
theorem get_of_lt (s : ByteArray) (k : Nat) (h : k < s.size) : s.data.toList[k]? = some s[k] := by
  rw [List.getElem?_eq_getElem (by simpa using h)]; rfl
theorem get_none (s : ByteArray) (k : Nat) (h : s.size ≤ k) : s.data.toList[k]? = none := by
  rw [List.getElem?_eq_none (by simpa using h)]
theorem len_eq (s : ByteArray) : s.data.toList.length = s.size := by rw [Array.length_toList]; rfl
def accD (n : Int) (c : UInt8) : Int := wrap64 (wrap64 (n * 10) + ((c.toNat : Int) - 48))
def numTo (l : List UInt8) (a b : Nat) : Int := ((l.drop a).take (b - a)).foldl accD 0
def isAt (l : List UInt8) (k : Nat) (c : Int) : Bool := match l[k]? with | some x => (x.toNat : Int) == c | none => false
def leadFirst (l : List UInt8) : Nat := if isAt l (runTo blankB l 0) 45 || isAt l (runTo blankB l 0) 43 then runTo blankB l 0 + 1 else runTo blankB l 0
def leadEnd (l : List UInt8) : Nat := runTo digB l (leadFirst l)
def leadNum (l : List UInt8) : Int := if isAt l (runTo blankB l 0) 45 then wrap64 (-(numTo l (leadFirst l) (leadEnd l))) else numTo l (leadFirst l) (leadEnd l)
def leadOk (l : List UInt8) : Bool := decide (leadFirst l < leadEnd l)
theorem numTo_self (l : List UInt8) (a : Nat) : numTo l a a = 0 := by simp [numTo]
theorem numTo_step {l : List UInt8} {a b : Nat} {c : UInt8} (h : l[b]? = some c) (hab : a ≤ b) : numTo l a (b + 1) = accD (numTo l a b) c := by
  unfold numTo
  have hb : b < l.length := by
    by_cases hk : b < l.length
    · exact hk
    · rw [List.getElem?_eq_none (by omega)] at h; cases h
  have hc : (l.drop a)[b - a]? = some c := by rw [List.getElem?_drop, show a + (b - a) = b by omega]; exact h
  rw [show b + 1 - a = (b - a) + 1 by omega, List.take_add_one, hc]
  simp
theorem leadFirst_le (l : List UInt8) : leadFirst l ≤ l.length := by
  have h := runTo_le (p := blankB) (l := l) (k := 0) (by omega)
  unfold leadFirst
  split
  · rename_i hh
    have : runTo blankB l 0 < l.length := by
      by_cases hk : runTo blankB l 0 < l.length
      · exact hk
      · simp [isAt, List.getElem?_eq_none (show l.length ≤ runTo blankB l 0 by omega)] at hh
    omega
  · exact h
theorem leadEnd_le (l : List UInt8) : leadEnd l ≤ l.length := runTo_le (leadFirst_le l)
def numeralB (l : List UInt8) : Bool := leadOk l && decide (runTo blankB l (leadEnd l) = l.length)
end Go.Proofs.YtdbdbaepmdmnfaaGreatDoor
namespace Go.Proofs.YtdbdbaepmdmnfaaGreatDoor
open Go.RowKit
theorem ret_bool {a b : Bool} (h : a = b) : Ending.returned (.bool a) = .returned (.bool b) := by rw [h]
theorem ret_int {k : IntKind} {a b : Int} (h : a = b) : Ending.returned (.int k a) = .returned (.int k b) := by rw [h]
theorem blankB_eq (c : UInt8) : blankB c = ((c.toNat : Int) == 32 || (c.toNat : Int) == 9 || (c.toNat : Int) == 10) := rfl
set_option maxHeartbeats 400000 in
theorem isBlank_any (c : UInt8) (w : World) :
    Calls Tryz.prog 51 #[.int .u8 c.toNat] w fun e w' => e = .returned (.bool (blankB c)) ∧ w' = w := by
  have hb := blankB_eq c
  have HB : Hid (blankB c = ((c.toNat : Int) == 32 || (c.toNat : Int) == 9 || (c.toNat : Int) == 10)) := hb
  clear hb
  go_enter Tryz.func51, Tryz.ntmps51
  go_wp2
  all_goals
    go_ret
    exact ⟨ret_bool (by rw [HB.out] <;> simp [*]), rfl⟩
set_option maxHeartbeats 400000 in
theorem skip_any (s : ByteArray) (k : Nat) (w : World) (hs : s.size ≤ maxLen) (hk : k ≤ s.size) :
    Calls Tryz.prog 233 #[.string s, .int .i64 k] w fun e w' => e = .returned (.int .i64 (runTo blankB s.data.toList k)) ∧ w' = w := by
  unfold maxLen at hs
  go_enter Tryz.func233, Tryz.ntmps233
  go_wp2
  go_loop [1] (fun i => ∃ j : Nat, j ≤ s.size ∧ i = .int .i64 j ∧ runTo blankB s.data.toList j = runTo blankB s.data.toList k) (fun i => s.size - (intOf i).toNat)
  case atStart => exact ⟨k, hk, rfl, rfl⟩
  case round =>
    obtain ⟨j, hj, rfl, hr⟩ := hrel
    have HR : Hid (runTo blankB s.data.toList j = runTo blankB s.data.toList k) := hr
    clear hr
    by_cases hlt : j < s.size
    · have hg := get_of_lt s j hlt
      have HG : Hid (s.data.toList[j]? = some s[j]) := hg
      clear hg
      cases hb : blankB s[j]
      · have HB : Hid (blankB s[j] = false) := hb
        clear hb
        go_wp2_with (go_at_call 51; refine (isBlank_any _ _).mono ?_; rintro e w' ⟨rfl, rfl⟩; rw [HB.out])
        go_ret
        refine ⟨ret_int ?_, rfl⟩
        rw [← HR.out, runTo_stop (fun c hc => ?_)]
        rw [HG.out] at hc; cases hc; exact HB.out
      · have HB : Hid (blankB s[j] = true) := hb
        clear hb
        go_wp2_with (go_at_call 51; refine (isBlank_any _ _).mono ?_; rintro e w' ⟨rfl, rfl⟩; rw [HB.out])
        go_round
        case rel => exact ⟨j + 1, by omega, by go_num, by rw [runTo_step HG.out HB.out]; exact HR.out⟩
        case measure => simp [intOf]; omega
    · go_wp2
      go_ret
      refine ⟨ret_int ?_, rfl⟩
      rw [← HR.out, runTo_stop (fun c hc => ?_)]
      rw [get_none s j (by omega)] at hc; cases hc
end Go.Proofs.YtdbdbaepmdmnfaaGreatDoor
namespace Go.Proofs.YtdbdbaepmdmnfaaGreatDoor
open Go.RowKit
theorem hide {p : Prop} (h : p) : Hid p := h
theorem ret3_lead {a a' b b' : Int} {c c' : Bool} (h1 : a = a') (h2 : b = b') (h3 : c = c') : Ending.returned (.tuple #[.int .i64 a, .int .i64 b, .bool c]) = .returned (.tuple #[.int .i64 a', .int .i64 b', .bool c']) := by rw [h1, h2, h3]
theorem isAt_lt (s : ByteArray) (a : Nat) (c : Int) (h : a < s.size) : isAt s.data.toList a c = ((s[a].toNat : Int) == c) := by
  unfold isAt; rw [get_of_lt s a h]
theorem isAt_ge (s : ByteArray) (a : Nat) (c : Int) (h : s.size ≤ a) : isAt s.data.toList a c = false := by
  unfold isAt; rw [get_none s a h]
theorem digB_iff (c : UInt8) : digB c = true ↔ 48 ≤ (c.toNat : Int) ∧ (c.toNat : Int) ≤ 57 := by
  unfold digB; simp; omega
set_option maxHeartbeats 1000000 in
theorem leading_minus (s : ByteArray) (w : World) (hs : s.size ≤ maxLen) (a : Nat) (HA : Hid (a = runTo blankB s.data.toList 0)) 
    (hlt : a < s.size) (h45 : ((s[a].toNat : Int) == 45) = true) :
    Calls Tryz.prog 165 #[.string s] w fun e w' => e = .returned (.tuple #[.int .i64 (leadNum s.data.toList), .int .i64 (leadEnd s.data.toList), .bool (leadOk s.data.toList)]) ∧ w' = w := by
  have hs' := hs
  unfold maxLen at hs
  have HF : Hid (leadFirst s.data.toList = a + 1) := by
    show leadFirst s.data.toList = a + 1
    unfold leadFirst; rw [← HA.out, isAt_lt s a _ hlt, h45]; rfl
  have HM : Hid (isAt s.data.toList (runTo blankB s.data.toList 0) 45 = true) := by
    show isAt s.data.toList (runTo blankB s.data.toList 0) 45 = true
    rw [← HA.out, isAt_lt s a _ hlt, h45]
  go_enter Tryz.func165, Tryz.ntmps165
  go_wp2_with (go_at_call 233; refine (skip_any s 0 _ hs' (by omega)).mono ?_; rintro e w' ⟨rfl, rfl⟩; rw [← HA.out])
  go_loop [5, 8] (fun i n => ∃ j : Nat, a + 1 ≤ j ∧ j ≤ s.size ∧ i = .int .i64 j ∧ n = .int .i64 (numTo s.data.toList (a + 1) j) ∧ runTo digB s.data.toList j = runTo digB s.data.toList (a + 1)) (fun i _ => s.size - (intOf i).toNat)
  case atStart => exact ⟨a + 1, by omega, by omega, by go_num, by rw [numTo_self], rfl⟩
  case round =>
    obtain ⟨j, hj0, hj, rfl, rfl, hr⟩ := hrel
    have HR : Hid (runTo digB s.data.toList j = runTo digB s.data.toList (a + 1)) := hr
    clear hr
    by_cases hl : j < s.size
    · have HG : Hid (s.data.toList[j]? = some s[j]) := get_of_lt s j hl
      by_cases hd : 48 ≤ (s[j].toNat : Int) ∧ (s[j].toNat : Int) ≤ 57
      · have HD : Hid (digB s[j] = true) := (digB_iff _).2 hd
        have HS : Hid (numTo s.data.toList (a + 1) (j + 1) = accD (numTo s.data.toList (a + 1) j) s[j]) := numTo_step HG.out hj0
        obtain ⟨hd1, hd2⟩ := hd
        generalize numTo s.data.toList (a + 1) j = n at *
        go_wp2
        go_round
        case rel => exact ⟨j + 1, by omega, by omega, by go_num, by rw [HS.out]; rfl, by rw [runTo_step HG.out HD.out]; exact HR.out⟩
        case measure => simp [intOf]; omega
      · have HD : Hid (digB s[j] = false) := by
          show digB s[j] = false
          cases h : digB s[j]
          · rfl
          · exact absurd ((digB_iff _).1 h) hd
        have HE : Hid (leadEnd s.data.toList = j) := by
          show leadEnd s.data.toList = j
          unfold leadEnd; rw [HF.out, ← HR.out, runTo_stop (fun c hc => ?_)]
          rw [HG.out] at hc; cases hc; exact HD.out
        by_cases hd1 : 48 ≤ (s[j].toNat : Int)
        · have hd2 : ¬ (s[j].toNat : Int) ≤ 57 := fun h => hd ⟨hd1, h⟩
          clear hd
          go_wp2
          go_ret3
          refine ⟨ret3_lead ?_ (by rw [HE.out]) ?_, rfl⟩
          · unfold leadNum; rw [HM.out]; simp only [if_true]; rw [HE.out]; rw [HF.out]
          · unfold leadOk; rw [HE.out, HF.out]; first | done | (simp <;> omega)
        · clear hd
          go_wp2
          go_ret3
          refine ⟨ret3_lead ?_ (by rw [HE.out]) ?_, rfl⟩
          · unfold leadNum; rw [HM.out]; simp only [if_true]; rw [HE.out]; rw [HF.out]
          · unfold leadOk; rw [HE.out, HF.out]; first | done | (simp <;> omega)
    · have HE : Hid (leadEnd s.data.toList = j) := by
        show leadEnd s.data.toList = j
        unfold leadEnd; rw [HF.out, ← HR.out, runTo_stop (fun c hc => ?_)]
        rw [get_none s j (by omega)] at hc; cases hc
      go_wp2
      go_ret3
      refine ⟨ret3_lead ?_ (by rw [HE.out]) ?_, rfl⟩
      · unfold leadNum; rw [HM.out]; simp only [if_true]; rw [HE.out]; rw [HF.out]
      · unfold leadOk; rw [HE.out, HF.out]; first | done | (simp <;> omega)
set_option maxHeartbeats 1000000 in
theorem leading_plus (s : ByteArray) (w : World) (hs : s.size ≤ maxLen) (a : Nat) (HA : Hid (a = runTo blankB s.data.toList 0)) 
    (hlt : a < s.size) (h45 : ((s[a].toNat : Int) == 45) = false) (h43 : ((s[a].toNat : Int) == 43) = true) :
    Calls Tryz.prog 165 #[.string s] w fun e w' => e = .returned (.tuple #[.int .i64 (leadNum s.data.toList), .int .i64 (leadEnd s.data.toList), .bool (leadOk s.data.toList)]) ∧ w' = w := by
  have hs' := hs
  unfold maxLen at hs
  have HF : Hid (leadFirst s.data.toList = a + 1) := by
    show leadFirst s.data.toList = a + 1
    unfold leadFirst; rw [← HA.out, isAt_lt s a _ hlt, isAt_lt s a _ hlt, h45, h43]; rfl
  have HM : Hid (isAt s.data.toList (runTo blankB s.data.toList 0) 45 = false) := by
    show isAt s.data.toList (runTo blankB s.data.toList 0) 45 = false
    rw [← HA.out, isAt_lt s a _ hlt, h45]
  go_enter Tryz.func165, Tryz.ntmps165
  go_wp2_with (go_at_call 233; refine (skip_any s 0 _ hs' (by omega)).mono ?_; rintro e w' ⟨rfl, rfl⟩; rw [← HA.out])
  go_loop [5, 8] (fun i n => ∃ j : Nat, a + 1 ≤ j ∧ j ≤ s.size ∧ i = .int .i64 j ∧ n = .int .i64 (numTo s.data.toList (a + 1) j) ∧ runTo digB s.data.toList j = runTo digB s.data.toList (a + 1)) (fun i _ => s.size - (intOf i).toNat)
  case atStart => exact ⟨a + 1, by omega, by omega, by go_num, by rw [numTo_self], rfl⟩
  case round =>
    obtain ⟨j, hj0, hj, rfl, rfl, hr⟩ := hrel
    have HR : Hid (runTo digB s.data.toList j = runTo digB s.data.toList (a + 1)) := hr
    clear hr
    by_cases hl : j < s.size
    · have HG : Hid (s.data.toList[j]? = some s[j]) := get_of_lt s j hl
      by_cases hd : 48 ≤ (s[j].toNat : Int) ∧ (s[j].toNat : Int) ≤ 57
      · have HD : Hid (digB s[j] = true) := (digB_iff _).2 hd
        have HS : Hid (numTo s.data.toList (a + 1) (j + 1) = accD (numTo s.data.toList (a + 1) j) s[j]) := numTo_step HG.out hj0
        obtain ⟨hd1, hd2⟩ := hd
        generalize numTo s.data.toList (a + 1) j = n at *
        go_wp2
        go_round
        case rel => exact ⟨j + 1, by omega, by omega, by go_num, by rw [HS.out]; rfl, by rw [runTo_step HG.out HD.out]; exact HR.out⟩
        case measure => simp [intOf]; omega
      · have HD : Hid (digB s[j] = false) := by
          show digB s[j] = false
          cases h : digB s[j]
          · rfl
          · exact absurd ((digB_iff _).1 h) hd
        have HE : Hid (leadEnd s.data.toList = j) := by
          show leadEnd s.data.toList = j
          unfold leadEnd; rw [HF.out, ← HR.out, runTo_stop (fun c hc => ?_)]
          rw [HG.out] at hc; cases hc; exact HD.out
        by_cases hd1 : 48 ≤ (s[j].toNat : Int)
        · have hd2 : ¬ (s[j].toNat : Int) ≤ 57 := fun h => hd ⟨hd1, h⟩
          clear hd
          go_wp2
          go_ret3
          refine ⟨ret3_lead ?_ (by rw [HE.out]) ?_, rfl⟩
          · unfold leadNum; rw [HM.out]; simp only [Bool.false_eq_true, if_false]; rw [HE.out]; rw [HF.out]
          · unfold leadOk; rw [HE.out, HF.out]; first | done | (simp <;> omega)
        · clear hd
          go_wp2
          go_ret3
          refine ⟨ret3_lead ?_ (by rw [HE.out]) ?_, rfl⟩
          · unfold leadNum; rw [HM.out]; simp only [Bool.false_eq_true, if_false]; rw [HE.out]; rw [HF.out]
          · unfold leadOk; rw [HE.out, HF.out]; first | done | (simp <;> omega)
    · have HE : Hid (leadEnd s.data.toList = j) := by
        show leadEnd s.data.toList = j
        unfold leadEnd; rw [HF.out, ← HR.out, runTo_stop (fun c hc => ?_)]
        rw [get_none s j (by omega)] at hc; cases hc
      go_wp2
      go_ret3
      refine ⟨ret3_lead ?_ (by rw [HE.out]) ?_, rfl⟩
      · unfold leadNum; rw [HM.out]; simp only [Bool.false_eq_true, if_false]; rw [HE.out]; rw [HF.out]
      · unfold leadOk; rw [HE.out, HF.out]; first | done | (simp <;> omega)
set_option maxHeartbeats 1000000 in
theorem leading_none (s : ByteArray) (w : World) (hs : s.size ≤ maxLen) (a : Nat) (HA : Hid (a = runTo blankB s.data.toList 0)) 
    (hlt : a < s.size) (h45 : ((s[a].toNat : Int) == 45) = false) (h43 : ((s[a].toNat : Int) == 43) = false) :
    Calls Tryz.prog 165 #[.string s] w fun e w' => e = .returned (.tuple #[.int .i64 (leadNum s.data.toList), .int .i64 (leadEnd s.data.toList), .bool (leadOk s.data.toList)]) ∧ w' = w := by
  have hs' := hs
  unfold maxLen at hs
  have HF : Hid (leadFirst s.data.toList = a) := by
    show leadFirst s.data.toList = a
    unfold leadFirst; rw [← HA.out, isAt_lt s a _ hlt, isAt_lt s a _ hlt, h45, h43]; rfl
  have HM : Hid (isAt s.data.toList (runTo blankB s.data.toList 0) 45 = false) := by
    show isAt s.data.toList (runTo blankB s.data.toList 0) 45 = false
    rw [← HA.out, isAt_lt s a _ hlt, h45]
  go_enter Tryz.func165, Tryz.ntmps165
  go_wp2_with (go_at_call 233; refine (skip_any s 0 _ hs' (by omega)).mono ?_; rintro e w' ⟨rfl, rfl⟩; rw [← HA.out])
  go_loop [5, 8] (fun i n => ∃ j : Nat, a ≤ j ∧ j ≤ s.size ∧ i = .int .i64 j ∧ n = .int .i64 (numTo s.data.toList (a) j) ∧ runTo digB s.data.toList j = runTo digB s.data.toList (a)) (fun i _ => s.size - (intOf i).toNat)
  case atStart => exact ⟨a, by omega, by omega, by go_num, by rw [numTo_self], rfl⟩
  case round =>
    obtain ⟨j, hj0, hj, rfl, rfl, hr⟩ := hrel
    have HR : Hid (runTo digB s.data.toList j = runTo digB s.data.toList (a)) := hr
    clear hr
    by_cases hl : j < s.size
    · have HG : Hid (s.data.toList[j]? = some s[j]) := get_of_lt s j hl
      by_cases hd : 48 ≤ (s[j].toNat : Int) ∧ (s[j].toNat : Int) ≤ 57
      · have HD : Hid (digB s[j] = true) := (digB_iff _).2 hd
        have HS : Hid (numTo s.data.toList (a) (j + 1) = accD (numTo s.data.toList (a) j) s[j]) := numTo_step HG.out hj0
        obtain ⟨hd1, hd2⟩ := hd
        generalize numTo s.data.toList (a) j = n at *
        go_wp2
        go_round
        case rel => exact ⟨j + 1, by omega, by omega, by go_num, by rw [HS.out]; rfl, by rw [runTo_step HG.out HD.out]; exact HR.out⟩
        case measure => simp [intOf]; omega
      · have HD : Hid (digB s[j] = false) := by
          show digB s[j] = false
          cases h : digB s[j]
          · rfl
          · exact absurd ((digB_iff _).1 h) hd
        have HE : Hid (leadEnd s.data.toList = j) := by
          show leadEnd s.data.toList = j
          unfold leadEnd; rw [HF.out, ← HR.out, runTo_stop (fun c hc => ?_)]
          rw [HG.out] at hc; cases hc; exact HD.out
        by_cases hd1 : 48 ≤ (s[j].toNat : Int)
        · have hd2 : ¬ (s[j].toNat : Int) ≤ 57 := fun h => hd ⟨hd1, h⟩
          clear hd
          go_wp2
          go_ret3
          refine ⟨ret3_lead ?_ (by rw [HE.out]) ?_, rfl⟩
          · unfold leadNum; rw [HM.out]; simp only [Bool.false_eq_true, if_false]; rw [HE.out]; rw [HF.out]
          · unfold leadOk; rw [HE.out, HF.out]; first | done | (simp <;> omega)
        · clear hd
          go_wp2
          go_ret3
          refine ⟨ret3_lead ?_ (by rw [HE.out]) ?_, rfl⟩
          · unfold leadNum; rw [HM.out]; simp only [Bool.false_eq_true, if_false]; rw [HE.out]; rw [HF.out]
          · unfold leadOk; rw [HE.out, HF.out]; first | done | (simp <;> omega)
    · have HE : Hid (leadEnd s.data.toList = j) := by
        show leadEnd s.data.toList = j
        unfold leadEnd; rw [HF.out, ← HR.out, runTo_stop (fun c hc => ?_)]
        rw [get_none s j (by omega)] at hc; cases hc
      go_wp2
      go_ret3
      refine ⟨ret3_lead ?_ (by rw [HE.out]) ?_, rfl⟩
      · unfold leadNum; rw [HM.out]; simp only [Bool.false_eq_true, if_false]; rw [HE.out]; rw [HF.out]
      · unfold leadOk; rw [HE.out, HF.out]; first | done | (simp <;> omega)
set_option maxHeartbeats 1000000 in
theorem leading_end (s : ByteArray) (w : World) (hs : s.size ≤ maxLen) (a : Nat) (HA : Hid (a = runTo blankB s.data.toList 0)) (ha2 : a ≤ s.size)
    (hlt : ¬ a < s.size) :
    Calls Tryz.prog 165 #[.string s] w fun e w' => e = .returned (.tuple #[.int .i64 (leadNum s.data.toList), .int .i64 (leadEnd s.data.toList), .bool (leadOk s.data.toList)]) ∧ w' = w := by
  have hs' := hs
  unfold maxLen at hs
  have HF : Hid (leadFirst s.data.toList = a) := by
    show leadFirst s.data.toList = a
    unfold leadFirst; rw [← HA.out, isAt_ge s a _ (by omega), isAt_ge s a _ (by omega)]; rfl
  have HM : Hid (isAt s.data.toList (runTo blankB s.data.toList 0) 45 = false) := by
    show isAt s.data.toList (runTo blankB s.data.toList 0) 45 = false
    rw [← HA.out, isAt_ge s a _ (by omega)]
  go_enter Tryz.func165, Tryz.ntmps165
  go_wp2_with (go_at_call 233; refine (skip_any s 0 _ hs' (by omega)).mono ?_; rintro e w' ⟨rfl, rfl⟩; rw [← HA.out])
  go_loop [5, 8] (fun i n => ∃ j : Nat, a ≤ j ∧ j ≤ s.size ∧ i = .int .i64 j ∧ n = .int .i64 (numTo s.data.toList (a) j) ∧ runTo digB s.data.toList j = runTo digB s.data.toList (a)) (fun i _ => s.size - (intOf i).toNat)
  case atStart => exact ⟨a, by omega, by omega, by go_num, by rw [numTo_self], rfl⟩
  case round =>
    obtain ⟨j, hj0, hj, rfl, rfl, hr⟩ := hrel
    have HR : Hid (runTo digB s.data.toList j = runTo digB s.data.toList (a)) := hr
    clear hr
    by_cases hl : j < s.size
    · exfalso; omega
    · have HE : Hid (leadEnd s.data.toList = j) := by
        show leadEnd s.data.toList = j
        unfold leadEnd; rw [HF.out, ← HR.out, runTo_stop (fun c hc => ?_)]
        rw [get_none s j (by omega)] at hc; cases hc
      go_wp2
      go_ret3
      refine ⟨ret3_lead ?_ (by rw [HE.out]) ?_, rfl⟩
      · unfold leadNum; rw [HM.out]; simp only [Bool.false_eq_true, if_false]; rw [HE.out]; rw [HF.out]
      · unfold leadOk; rw [HE.out, HF.out]; first | done | (simp <;> omega)
theorem leading_any (s : ByteArray) (w : World) (hs : s.size ≤ maxLen) :
    Calls Tryz.prog 165 #[.string s] w fun e w' => e = .returned (.tuple #[.int .i64 (leadNum s.data.toList), .int .i64 (leadEnd s.data.toList), .bool (leadOk s.data.toList)]) ∧ w' = w := by
  have ha2 : runTo blankB s.data.toList 0 ≤ s.size := by rw [← len_eq]; exact runTo_le (by omega)
  by_cases hlt : runTo blankB s.data.toList 0 < s.size
  · cases h45 : ((s[runTo blankB s.data.toList 0].toNat : Int) == 45)
    · cases h43 : ((s[runTo blankB s.data.toList 0].toNat : Int) == 43)
      · exact leading_none s w hs _ (hide rfl) hlt h45 h43
      · exact leading_plus s w hs _ (hide rfl) hlt h45 h43
    · exact leading_minus s w hs _ (hide rfl) hlt h45
  · exact leading_end s w hs _ (hide rfl) ha2 hlt
end Go.Proofs.YtdbdbaepmdmnfaaGreatDoor
namespace Go.Proofs.YtdbdbaepmdmnfaaGreatDoor
open Go.RowKit
set_option maxHeartbeats 400000 in
theorem read_num (s : ByteArray) (w : World) (hs : s.size ≤ maxLen) (hn : numeralB s.data.toList = true) :
    Calls Tryz.prog 400 #[.string s] w fun e w' => e = .returned (.agg #[.int .i64 3, .int .i64 (leadNum s.data.toList), .string s]) ∧ Below w.heap.size w w' := by
  have hs' := hs
  unfold maxLen at hs
  simp only [numeralB, Bool.and_eq_true, decide_eq_true_eq] at hn
  obtain ⟨h1, h2⟩ := hn
  have H1 : Hid (leadOk s.data.toList = true) := h1
  have H2 : Hid (runTo blankB s.data.toList (leadEnd s.data.toList) = s.size) := by rw [len_eq] at h2; exact h2
  clear h1 h2
  have hle := leadEnd_le s.data.toList
  rw [len_eq] at hle
  go_enter Tryz.func400, Tryz.ntmps400
  go_wp2_with (first | (go_at_call 165; refine (leading_any s _ hs').mono ?_; rintro e w' ⟨rfl, rfl⟩; rw [H1.out]) | (go_at_call 233; refine (skip_any s _ _ hs' hle).mono ?_; rintro e w' ⟨rfl, rfl⟩; rw [H2.out]))
  exact bodyPost_ret (v := .agg #[.int .i64 3, .int .i64 (leadNum s.data.toList), .string s]) (by simp [results, Tryz.results400, go_sem]) rfl ⟨rfl, (Below.refl _ _).alloc (Nat.le_refl _) _⟩
set_option maxHeartbeats 400000 in
theorem read_text (s : ByteArray) (w : World) (hs : s.size ≤ maxLen) (hn : numeralB s.data.toList = false) :
    Calls Tryz.prog 400 #[.string s] w fun e w' => e = .returned (.agg #[.int .i64 2, .int .i64 0, .string s]) ∧ Below w.heap.size w w' := by
  have hs' := hs
  unfold maxLen at hs
  have hle := leadEnd_le s.data.toList
  rw [len_eq] at hle
  cases h1 : leadOk s.data.toList
  · have H1 := hide h1
    clear h1
    go_enter Tryz.func400, Tryz.ntmps400
    go_wp2_with (first | (go_at_call 165; refine (leading_any s _ hs').mono ?_; rintro e w' ⟨rfl, rfl⟩; rw [H1.out]))
    exact bodyPost_ret (v := .agg #[.int .i64 2, .int .i64 0, .string s]) (by simp [results, Tryz.results400, go_sem]) rfl ⟨rfl, (Below.refl _ _).alloc (Nat.le_refl _) _⟩
  · simp [numeralB, h1] at hn
    have H1 := hide h1
    clear h1
    have h2 : ((runTo blankB s.data.toList (leadEnd s.data.toList) : Int) == s.size) = false := by
      rw [beq_eq_false_iff_ne]; omega
    clear hn
    go_enter Tryz.func400, Tryz.ntmps400
    go_wp2_with (first | (go_at_call 165; refine (leading_any s _ hs').mono ?_; rintro e w' ⟨rfl, rfl⟩; rw [H1.out]) | (go_at_call 233; refine (skip_any s _ _ hs' hle).mono ?_; rintro e w' ⟨rfl, rfl⟩))
    exact bodyPost_ret (v := .agg #[.int .i64 2, .int .i64 0, .string s]) (by simp [results, Tryz.results400, go_sem]) rfl ⟨rfl, (Below.refl _ _).alloc (Nat.le_refl _) _⟩
-- A value of package value: nothing (0), a number (1), a text (2), a numeral (3).
set_option maxHeartbeats 400000 in
theorem number_else (k n : Int) (s : ByteArray) (w : World) (hk : (k == 2) = false) :
    Calls Tryz.prog 131 #[.agg #[.int .i64 k, .int .i64 n, .string s]] w fun e w' => e = .returned (.int .i64 n) ∧ Below w.heap.size w w' := by
  go_enter Tryz.func131, Tryz.ntmps131
  go_wp2
  go_ret
  exact ⟨rfl, (Below.refl _ _).alloc (Nat.le_refl _) _⟩
set_option maxHeartbeats 400000 in
theorem text_any (k n : Int) (s : ByteArray) (w : World) (hk : (k == 1) = false) :
    Calls Tryz.prog 235 #[.agg #[.int .i64 k, .int .i64 n, .string s]] w fun e w' => e = .returned (.string s) ∧ Below w.heap.size w w' := by
  go_enter Tryz.func235, Tryz.ntmps235
  go_wp2
  go_ret
  exact ⟨rfl, (Below.refl _ _).alloc (Nat.le_refl _) _⟩
end Go.Proofs.YtdbdbaepmdmnfaaGreatDoor

namespace Go.Proofs.YtdbdbaepmdmnfaaGreatDoor
open Go.RowKit
end Go.Proofs.YtdbdbaepmdmnfaaGreatDoor
namespace Go.Proofs.YtdbdbaepmdmnfaaGreatDoor
open Go.RowKit
end Go.Proofs.YtdbdbaepmdmnfaaGreatDoor
/- Plain functions on lists of bytes: an item of a format. Nothing of the program is imported. -/
namespace Go.Proofs.YtdbdbaepmdmnfaaGreatDoor
open Go.RowKit
theorem isAt_ltB {l : List UInt8} {k : Nat} {c : Int} (h : isAt l k c = true) : k < l.length := by
  by_cases hk : k < l.length
  · exact hk
  · simp [isAt, List.getElem?_eq_none (show l.length ≤ k by omega)] at h
end Go.Proofs.YtdbdbaepmdmnfaaGreatDoor
namespace Go.Proofs.YtdbdbaepmdmnfaaGreatDoor
open Go.RowKit
end Go.Proofs.YtdbdbaepmdmnfaaGreatDoor
namespace Go.Proofs.YtdbdbaepmdmnfaaGreatDoor
open Go.RowKit
end Go.Proofs.YtdbdbaepmdmnfaaGreatDoor

/- A machine of states over a text, gone through from an end back to a beginning: its ways, and what each part of a pattern makes of it. Nothing of the program is imported. -/
namespace Go.Proofs.YtdbdbaepmdmnfaaGreatDoor
/-- A state: 0 takes a byte of the set, 1 wants the beginning, 2 the end, 3 forks, 4 ends. -/
structure St where
  kind : Nat
  set : UInt8 → Bool
  next : Nat
  other : Nat
def Step (Q : List St) (t : List UInt8) (q i q' i' : Nat) : Prop :=
  ∃ s, Q[q]? = some s ∧ (
    (s.kind = 0 ∧ ∃ c, t[i']? = some c ∧ s.set c = true ∧ q' = s.next ∧ i = i' + 1) ∨
    (s.kind = 1 ∧ i = 0 ∧ q' = s.next ∧ i' = i) ∨
    (s.kind = 2 ∧ i = t.length ∧ q' = s.next ∧ i' = i) ∨
    (s.kind = 3 ∧ (q' = s.next ∨ q' = s.other) ∧ i' = i))
def Steps (Q : List St) (t : List UInt8) : Nat → Nat → Nat → Nat → Nat → Prop
  | 0, q, i, q', i' => q' = q ∧ i' = i
  | n + 1, q, i, q', i' => ∃ r j, Step Q t q i r j ∧ Steps Q t n r j q' i'
def Done (Q : List St) (q : Nat) : Prop := ∃ s, Q[q]? = some s ∧ s.kind = 4
def AccN (Q : List St) (t : List UInt8) (n q i e : Nat) : Prop := ∃ d, Steps Q t n q i d e ∧ Done Q d
def Acc (Q : List St) (t : List UInt8) (q i e : Nat) : Prop := ∃ n, AccN Q t n q i e
theorem Steps.trans {Q t n m q i r j q' i'} (h : Steps Q t n q i r j) (h2 : Steps Q t m r j q' i') : Steps Q t (n + m) q i q' i' := by
  induction n generalizing q i with
  | zero => obtain ⟨rfl, rfl⟩ := h; simpa using h2
  | succ n ih =>
    obtain ⟨r1, j1, s1, h1⟩ := h
    rw [show n + 1 + m = (n + m) + 1 by omega]
    exact ⟨r1, j1, s1, ih h1⟩
theorem Steps.one {Q t q i q' i'} (h : Step Q t q i q' i') : Steps Q t 1 q i q' i' := ⟨q', i', h, rfl, rfl⟩
theorem Step.le {Q t q i q' i'} (h : Step Q t q i q' i') : i' ≤ i ∧ i ≤ i' + 1 := by
  obtain ⟨s, _, h | h | h | h⟩ := h
  · obtain ⟨_, c, _, _, _, rfl⟩ := h; omega
  · omega
  · omega
  · omega
theorem Steps.le {Q t n q i q' i'} (h : Steps Q t n q i q' i') : i' ≤ i := by
  induction n generalizing q i with
  | zero => obtain ⟨_, rfl⟩ := h; omega
  | succ n ih => obtain ⟨r, j, s1, h1⟩ := h; have := ih h1; have := s1.le; omega
theorem Acc.le {Q t q i e} (h : Acc Q t q i e) : e ≤ i := by obtain ⟨n, d, h, _⟩ := h; exact h.le
theorem AccN.step {Q t n q i e q' i'} (h : Step Q t q i q' i') (h2 : AccN Q t n q' i' e) : AccN Q t (n + 1) q i e := by
  obtain ⟨d, hs, hd⟩ := h2; exact ⟨d, ⟨q', i', h, hs⟩, hd⟩
theorem Acc.step {Q t q i e q' i'} (h : Step Q t q i q' i') (h2 : Acc Q t q' i' e) : Acc Q t q i e := by
  obtain ⟨n, h2⟩ := h2; exact ⟨n + 1, h2.step h⟩
/-- From state b on, back: R, and then as from next on. -/
def Built (Q : List St) (t : List UInt8) (b next : Nat) (R : Nat → Nat → Prop) : Prop :=
  (∀ n i e, AccN Q t n b i e → ∃ j m, m ≤ n ∧ R j i ∧ AccN Q t m next j e) ∧ (∀ i j e, R j i → Acc Q t next j e → Acc Q t b i e)
def byteR (S : UInt8 → Bool) (t : List UInt8) (i j : Nat) : Prop := j = i + 1 ∧ ∃ c, t[i]? = some c ∧ S c = true
def beginR (_ : List UInt8) (i j : Nat) : Prop := i = 0 ∧ j = i
def endR (t : List UInt8) (i j : Nat) : Prop := i = t.length ∧ j = i
def emptyR (_ : List UInt8) (i j : Nat) : Prop := j = i
def compR (R S : List UInt8 → Nat → Nat → Prop) (t : List UInt8) (i j : Nat) : Prop := ∃ k, R t i k ∧ S t k j
def orR (R S : List UInt8 → Nat → Nat → Prop) (t : List UInt8) (i j : Nat) : Prop := R t i j ∨ S t i j
def iterR (R : Nat → Nat → Prop) : Nat → Nat → Nat → Prop
  | 0, i, j => j = i
  | n + 1, i, j => ∃ k, R i k ∧ iterR R n k j
def starR (R : List UInt8 → Nat → Nat → Prop) (t : List UInt8) (i j : Nat) : Prop := ∃ n, iterR (R t) n i j
def plusR (R : List UInt8 → Nat → Nat → Prop) (t : List UInt8) (i j : Nat) : Prop := ∃ k, R t i k ∧ starR R t k j
def optR (R : List UInt8 → Nat → Nat → Prop) (t : List UInt8) (i j : Nat) : Prop := j = i ∨ R t i j
def rowR : List (List UInt8 → Nat → Nat → Prop) → List UInt8 → Nat → Nat → Prop
  | [] => emptyR
  | R :: l => compR R (rowR l)
def altR : List (List UInt8 → Nat → Nat → Prop) → List UInt8 → Nat → Nat → Prop
  | [] => fun _ _ _ => False
  | R :: l => orR R (altR l)
theorem Built.comp {Q t a m b} {R S : List UInt8 → Nat → Nat → Prop} (h1 : Built Q t a m (S t)) (h2 : Built Q t m b (R t)) : Built Q t a b (compR R S t) := by
  refine ⟨fun n i e h => ?_, fun i j e ⟨k, hr, hs⟩ h => h1.2 i k e hs (h2.2 k j e hr h)⟩
  obtain ⟨j, m1, hm1, hr, h⟩ := h1.1 n i e h
  obtain ⟨k, m2, hm2, hs, h⟩ := h2.1 m1 j e h
  exact ⟨k, m2, by omega, ⟨j, hs, hr⟩, h⟩
theorem Built.congr {Q t b next} {R S : Nat → Nat → Prop} (h : Built Q t b next R) (e : ∀ i j, R i j ↔ S i j) : Built Q t b next S :=
  ⟨fun n i x hx => by obtain ⟨j, m, h1, h2, h3⟩ := h.1 n i x hx; exact ⟨j, m, h1, (e j i).1 h2, h3⟩, fun i j x hr hx => h.2 i j x ((e j i).2 hr) hx⟩
end Go.Proofs.YtdbdbaepmdmnfaaGreatDoor
/- A search that follows all ways side by side, back from the text's end: what holds while it goes, in plain words. Nothing of the program is imported. -/
namespace Go.Proofs.YtdbdbaepmdmnfaaGreatDoor
def Takes (Q : List St) (q : Nat) : Prop := ∃ s, Q[q]? = some s ∧ s.kind = 0
def Eps (Q : List St) (t : List UInt8) (p q r : Nat) : Prop := ∃ n, Steps Q t n q p r p
def Reach (Q : List St) (t : List UInt8) (last b p q : Nat) : Prop := ∃ n, Steps Q t n last b q p
/-- There is one state at most at which a match begins. -/
def OneDone (Q : List St) : Prop := ∀ d d', Done Q d → Done Q d' → d = d'
theorem Eps.refl (Q t p q) : Eps Q t p q q := ⟨0, rfl, rfl⟩
theorem Eps.trans {Q t p q r s} (h : Eps Q t p q r) (h2 : Eps Q t p r s) : Eps Q t p q s := by
  obtain ⟨n, h⟩ := h; obtain ⟨m, h2⟩ := h2; exact ⟨n + m, h.trans h2⟩
theorem Eps.step {Q t p q r} (h : Step Q t q p r p) : Eps Q t p q r := ⟨1, Steps.one h⟩
theorem Reach.eps {Q t last b p q r} (h : Reach Q t last b p q) (h2 : Eps Q t p q r) : Reach Q t last b p r := by
  obtain ⟨n, h⟩ := h; obtain ⟨m, h2⟩ := h2; exact ⟨n + m, h.trans h2⟩
theorem Reach.step {Q t last b p q r p'} (h : Reach Q t last b p q) (h2 : Step Q t q p r p') : Reach Q t last b p' r := by
  obtain ⟨n, h⟩ := h; exact ⟨n + 1, h.trans (Steps.one h2)⟩
theorem eps_closed {Q t p} {M : Nat → Prop} (hc : ∀ q q', M q → Step Q t q p q' p → M q') {q r} (h : Eps Q t p q r) (hq : M q) : M r := by
  obtain ⟨n, h⟩ := h
  induction n generalizing q with
  | zero => obtain ⟨rfl, _⟩ := h; exact hq
  | succ n ih =>
    obtain ⟨s, j, h1, h2⟩ := h
    have a := h1.le; have b := h2.le
    obtain rfl : j = p := by omega
    exact ih (hc _ _ hq h1) h2
/-- While one thread is followed at a place. -/
structure FInv (Q : List St) (t : List UInt8) (p b q0 : Nat) (M0 : Nat → Prop) (O0 : List (Nat × Nat)) (best0 : Option Nat) (stack : List Nat) (M : Nat → Prop) (O : List (Nat × Nat)) (best : Option Nat) : Prop where
  closed : ∀ q q', M q → Step Q t q p q' p → M q' ∨ q' ∈ stack
  keep : ∀ q, M0 q → M q
  sound : ∀ q, M q → M0 q ∨ Eps Q t p q0 q
  stk : ∀ q ∈ stack, Eps Q t p q0 q
  start : M q0 ∨ q0 ∈ stack
  opn : ∃ N, O = O0 ++ N ∧ ∀ x, x ∈ N ↔ x.2 = b ∧ M x.1 ∧ ¬ M0 x.1 ∧ Takes Q x.1
  bst : (best = best0 ∧ ∀ d, M d → ¬ M0 d → ¬ Done Q d) ∨ ((∃ d, M d ∧ ¬ M0 d ∧ Done Q d) ∧ best = some b)
/-- At a place, the sources in Src followed. -/
structure PInv (Q : List St) (t : List UInt8) (p : Nat) (Src : Nat → Nat → Prop) (M : Nat → Prop) (O : List (Nat × Nat)) (best : Option Nat) : Prop where
  closed : ∀ q q', M q → Step Q t q p q' p → M q'
  src : ∀ q b, Src q b → M q
  sound : ∀ q, M q → ∃ q0 b, Src q0 b ∧ Eps Q t p q0 q
  opn : ∀ x ∈ O, Takes Q x.1 ∧ ∃ q0, Src q0 x.2 ∧ Eps Q t p q0 x.1
  all : ∀ q b r, Src q b → Eps Q t p q r → Takes Q r → ∃ b', b ≤ b' ∧ (r, b') ∈ O
  notes : ∀ q b r, Src q b → Eps Q t p q r → Done Q r → ∃ B, best = some B ∧ b ≤ B
  bestS : ∀ B, best = some B → ∃ q r, Src q B ∧ Eps Q t p q r ∧ Done Q r
  sorted : O.Pairwise (fun x y => y.2 ≤ x.2)
theorem PInv.follow {Q t p Src M0 O0 best1 b q0 M O best} (h : PInv Q t p Src M0 O0 best1) (hu : OneDone Q) (hf : FInv Q t p b q0 M0 O0 best1 [] M O best) (hb : ∀ q b', Src q b' → b ≤ b') :
    PInv Q t p (fun q b' => Src q b' ∨ (q = q0 ∧ b' = b)) M O best := by
  have hcl : ∀ q q', M q → Step Q t q p q' p → M q' := fun q q' hq hs => by
    rcases hf.closed q q' hq hs with h1 | h1
    · exact h1
    · simp at h1
  have hq0 : M q0 := by
    rcases hf.start with h1 | h1
    · exact h1
    · simp at h1
  obtain ⟨N, hN, hx⟩ := hf.opn
  refine { closed := hcl, src := ?_, sound := ?_, opn := ?_, all := ?_, notes := ?_, bestS := ?_, sorted := ?_ }
  · rintro q b' (h1 | ⟨rfl, rfl⟩)
    · exact hf.keep _ (h.src q b' h1)
    · exact hq0
  · intro q hq
    rcases hf.sound q hq with h1 | h1
    · obtain ⟨a, c, h2, h3⟩ := h.sound q h1
      exact ⟨a, c, Or.inl h2, h3⟩
    · exact ⟨q0, b, Or.inr ⟨rfl, rfl⟩, h1⟩
  · intro x hxo
    rw [hN, List.mem_append] at hxo
    rcases hxo with h1 | h1
    · obtain ⟨h2, a, h3, h4⟩ := h.opn x h1
      exact ⟨h2, a, Or.inl h3, h4⟩
    · obtain ⟨h2, h3, h4, h5⟩ := (hx x).1 h1
      refine ⟨h5, q0, Or.inr ⟨rfl, h2⟩, ?_⟩
      rcases hf.sound _ h3 with h6 | h6
      · exact absurd h6 h4
      · exact h6
  · rintro q b' r (h1 | ⟨rfl, rfl⟩) h2 h3
    · obtain ⟨c, h4, h5⟩ := h.all q b' r h1 h2 h3
      exact ⟨c, h4, by rw [hN]; exact List.mem_append_left _ h5⟩
    · have hr : M r := eps_closed hcl h2 hq0
      by_cases h0 : M0 r
      · obtain ⟨a, c, h4, h5⟩ := h.sound r h0
        obtain ⟨d, h6, h7⟩ := h.all a c r h4 h5 h3
        exact ⟨d, Nat.le_trans (hb _ _ h4) h6, by rw [hN]; exact List.mem_append_left _ h7⟩
      · exact ⟨b', Nat.le_refl _, by rw [hN]; exact List.mem_append_right _ ((hx (r, b')).2 ⟨rfl, hr, h0, h3⟩)⟩
  · rintro q b' r h1 h2 h3
    have hold : M0 r → best = best1 := fun h0 => by
      rcases hf.bst with ⟨h4, _⟩ | ⟨⟨d, h4, h5, h6⟩, _⟩
      · exact h4
      · rw [hu d r h6 h3] at h5; exact absurd h0 h5
    have hin : M0 r → b ≤ b' ∨ True → ∃ c, (∃ q1, Src q1 c ∧ Eps Q t p q1 r) := fun h0 _ => by
      obtain ⟨a, c, h4, h5⟩ := h.sound r h0; exact ⟨c, a, h4, h5⟩
    rcases h1 with h1 | ⟨rfl, rfl⟩
    · have h0 : M0 r := eps_closed h.closed h2 (h.src q b' h1)
      rw [hold h0]
      exact h.notes q b' r h1 h2 h3
    · have hr : M r := eps_closed hcl h2 hq0
      by_cases h0 : M0 r
      · obtain ⟨c, a, h4, h5⟩ := hin h0 (Or.inr trivial)
        obtain ⟨B, h6, h7⟩ := h.notes a c r h4 h5 h3
        rw [hold h0]
        exact ⟨B, h6, Nat.le_trans (hb _ _ h4) h7⟩
      · rcases hf.bst with ⟨_, h5⟩ | ⟨_, h5⟩
        · exact absurd h3 (h5 r hr h0)
        · exact ⟨b', h5, Nat.le_refl _⟩
  · intro B hB
    rcases hf.bst with ⟨rfl, _⟩ | ⟨⟨d, h1, h2, h3⟩, h4⟩
    · obtain ⟨q, r, h5, h6⟩ := h.bestS B hB
      exact ⟨q, r, Or.inl h5, h6⟩
    · rw [h4] at hB
      cases hB
      rcases hf.sound d h1 with h5 | h5
      · exact absurd h5 h2
      · exact ⟨q0, d, Or.inr ⟨rfl, rfl⟩, h5, h3⟩
  · rw [hN, List.pairwise_append]
    refine ⟨h.sorted, ?_, ?_⟩
    · have : ∀ x ∈ N, x.2 = b := fun x h1 => ((hx x).1 h1).1
      clear hx hN
      induction N with
      | nil => exact List.Pairwise.nil
      | cons a l ih =>
        refine List.Pairwise.cons (fun y hy => ?_) (ih (fun x hx => this x (List.mem_cons_of_mem _ hx)))
        rw [this a (by simp), this y (by simp [hy])]; exact Nat.le_refl _
    · intro x h1 y h2
      obtain ⟨_, a, h3, _⟩ := h.opn x h1
      rw [((hx y).1 h2).1]
      exact hb _ _ h3
end Go.Proofs.YtdbdbaepmdmnfaaGreatDoor
/- The search through a whole text, place before place. Nothing of the program is imported. -/
namespace Go.Proofs.YtdbdbaepmdmnfaaGreatDoor
/-- What is to be noted for a place: the last end of a match that begins there. -/
def LenAt (Q : List St) (t : List UInt8) (last p : Nat) (best : Option Nat) : Prop :=
  (∀ B, best = some B → p ≤ B ∧ B ≤ t.length ∧ Acc Q t last B p) ∧ ∀ e, e ≤ t.length → Acc Q t last e p → ∃ B, best = some B ∧ e ≤ B
/-- At place p, the ends from h on followed. -/
def RInv (Q : List St) (t : List UInt8) (last p h : Nat) (M : Nat → Prop) (O : List (Nat × Nat)) (best : Option Nat) : Prop :=
  ∃ Src, PInv Q t p Src M O best ∧ (∀ q b, Src q b → h ≤ b ∧ b ≤ t.length ∧ Reach Q t last b p q) ∧
    (∀ b q, h ≤ b → b ≤ t.length → Reach Q t last b p q → ∃ q0 b', b ≤ b' ∧ Src q0 b' ∧ Eps Q t p q0 q)
theorem RInv.closed {Q t last p h M O best} (H : RInv Q t last p h M O best) : ∀ q q', M q → Step Q t q p q' p → M q' := by
  obtain ⟨_, h1, _⟩ := H; exact h1.closed
theorem RInv.start {Q t last p M0 O0 best0 M O best} (H : RInv Q t last p (p + 1) M0 O0 best0) (hu : OneDone Q) (hp : p ≤ t.length) (hf : FInv Q t p p last M0 O0 best0 [] M O best) :
    RInv Q t last p p M O best := by
  obtain ⟨Src, h1, h2, h3⟩ := H
  refine ⟨_, h1.follow hu hf (fun q b hq => by have := (h2 q b hq).1; omega), ?_, ?_⟩
  · rintro q b (hq | ⟨rfl, rfl⟩)
    · obtain ⟨a, c, d⟩ := h2 q b hq; exact ⟨by omega, c, d⟩
    · exact ⟨Nat.le_refl _, hp, 0, rfl, rfl⟩
  · intro b q hb hb2 hr
    by_cases hbp : p + 1 ≤ b
    · obtain ⟨q0, b', e1, e2, e3⟩ := h3 b q hbp hb2 hr
      exact ⟨q0, b', e1, Or.inl e2, e3⟩
    · obtain rfl : b = p := by omega
      exact ⟨last, b, Nat.le_refl _, Or.inr ⟨rfl, rfl⟩, hr⟩
/-- A way that comes below a place leaves it by taking a byte. -/
theorem cross {Q t n q b r p} (h : Steps Q t n q b r p) (hb : p + 1 ≤ b) : ∃ q1 q2, Reach Q t q b (p + 1) q1 ∧ Takes Q q1 ∧ Step Q t q1 (p + 1) q2 p ∧ Eps Q t p q2 r := by
  induction n generalizing q b with
  | zero => obtain ⟨_, h⟩ := h; omega
  | succ n ih =>
    obtain ⟨s, j, h1, h2⟩ := h
    have hj := h1.le
    by_cases hjp : p + 1 ≤ j
    · obtain ⟨q1, q2, ⟨m, a⟩, c⟩ := ih h2 hjp
      exact ⟨q1, q2, ⟨m + 1, s, j, h1, a⟩, c⟩
    · have := h2.le
      obtain rfl : j = p := by omega
      obtain rfl : b = j + 1 := by omega
      refine ⟨q, s, ⟨0, rfl, rfl⟩, ?_, h1, n, h2⟩
      obtain ⟨x, hx, hh⟩ := h1
      rcases hh with ⟨hk, _⟩ | ⟨_, _, _, hh⟩ | ⟨_, _, _, hh⟩ | ⟨_, _, hh⟩
      · exact ⟨x, hx, hk⟩
      all_goals omega
/-- The sources that the threads of a list come to by the byte ahead of p + 1. -/
def srcOf (Q : List St) (t : List UInt8) (p : Nat) (L : List (Nat × Nat)) (q b : Nat) : Prop := ∃ x ∈ L, x.2 = b ∧ Step Q t x.1 (p + 1) q p
/-- From one place to the one ahead of it. -/
theorem RInv.next {Q t last p M O best M' O' best'} (H : RInv Q t last (p + 1) (p + 1) M O best) (hp : PInv Q t p (srcOf Q t p O) M' O' best') : RInv Q t last p (p + 1) M' O' best' := by
  obtain ⟨Src, h1, h2, h3⟩ := H
  refine ⟨_, hp, ?_, ?_⟩
  · rintro q b ⟨x, hx, rfl, hs⟩
    obtain ⟨_, q0, e1, e2⟩ := h1.opn x hx
    obtain ⟨a, c, d⟩ := h2 _ _ e1
    exact ⟨a, c, (d.eps e2).step hs⟩
  · intro b q hb hb2 ⟨n, hr⟩
    obtain ⟨q1, q2, c1, c2, c3, c4⟩ := cross hr hb
    obtain ⟨q0, b', e1, e2, e3⟩ := h3 b q1 hb hb2 c1
    obtain ⟨b'', e4, e5⟩ := h1.all q0 b' q1 e2 e3 c2
    exact ⟨q2, b'', by omega, ⟨_, e5, rfl, c3⟩, c4⟩
end Go.Proofs.YtdbdbaepmdmnfaaGreatDoor
/- What pattern a text is: read from its beginning on. Nothing of the program is imported. -/
namespace Go.Proofs.YtdbdbaepmdmnfaaGreatDoor
abbrev Pat := List UInt8 → Nat → Nat → Prop
def hasB (l : List UInt8) (i c : Nat) : Bool := match l[i]? with | some x => x.toNat == c | none => false
def rangeS (lo hi : UInt8) (c : UInt8) : Bool := decide (lo.toNat ≤ c.toNat) && decide (c.toNat ≤ hi.toNat)
def orS (S T : UInt8 → Bool) (c : UInt8) : Bool := S c || T c
def notS (S : UInt8 → Bool) (c : UInt8) : Bool := ! S c
def oneS (d : UInt8) (c : UInt8) : Bool := rangeS d d c
/-- The lower end of a member of a class, and the place behind it. -/
def lowP (l : List UInt8) (i : Nat) : Option (UInt8 × Nat) :=
  match l[i]? with
  | none => none
  | some c => if c.toNat = 92 then (match l[i + 1]? with | none => none | some d => some (d, i + 2)) else some (c, i + 1)
def memberP (l : List UInt8) (i : Nat) : Option ((UInt8 → Bool) × Nat) :=
  match lowP l i with
  | none => none
  | some (lo, j) =>
    match hasB l j 45, l[j + 1]? with
    | true, some h => if h.toNat = 93 then some (rangeS lo lo, j) else if h.toNat = 92 ∨ h.toNat < lo.toNat then none else some (rangeS lo h, j + 2)
    | _, _ => some (rangeS lo lo, j)
def membersP : Nat → List UInt8 → Nat → Bool → (UInt8 → Bool) → Option ((UInt8 → Bool) × Nat)
  | 0, _, _, _, _ => none
  | n + 1, l, i, first, S => if first = false ∧ hasB l i 93 = true then some (S, i + 1) else match memberP l i with | none => none | some (T, j) => membersP n l j false (orS S T)
def classP (l : List UInt8) (i : Nat) : Option ((UInt8 → Bool) × Nat) :=
  if hasB l i 94 then (match membersP (l.length + 1) l (i + 1) true (fun _ => false) with | none => none | some (S, j) => some (notS S, j))
  else membersP (l.length + 1) l i true (fun _ => false)
def isSign (c : UInt8) : Bool := c.toNat == 42 || c.toNat == 43 || c.toNat == 63
def unitP (sub : Nat → Option (Pat × Nat)) (l : List UInt8) (i : Nat) : Option (Pat × Nat) :=
  match l[i]? with
  | none => none
  | some c =>
    if isSign c = true ∨ c.toNat = 41 ∨ c.toNat = 124 then none
    else if c.toNat = 94 then some (beginR, i + 1)
    else if c.toNat = 36 then some (endR, i + 1)
    else if c.toNat = 40 then (match sub (i + 1) with | none => none | some (R, j) => if hasB l j 41 then some (R, j + 1) else none)
    else if c.toNat = 91 then (match classP l (i + 1) with | none => none | some (S, j) => some (byteR S, j))
    else if c.toNat = 46 then some (byteR (notS (fun _ => false)), i + 1)
    else if c.toNat = 92 then (match l[i + 1]? with | none => none | some d => some (byteR (oneS d), i + 2))
    else some (byteR (oneS c), i + 1)
def signR (c : Nat) (R : Pat) : Pat := if c = 42 then starR R else if c = 43 then plusR R else optR R
def signsP : Nat → List UInt8 → Nat → Pat → Pat × Nat
  | 0, _, i, R => (R, i)
  | n + 1, l, i, R => match l[i]? with | none => (R, i) | some c => if isSign c then signsP n l (i + 1) (signR c.toNat R) else (R, i)
def repP (sub : Nat → Option (Pat × Nat)) (l : List UInt8) (i : Nat) : Option (Pat × Nat) :=
  match unitP sub l i with | none => none | some (R, j) => some (signsP (l.length + 1) l j R)
def rowP (sub : Nat → Option (Pat × Nat)) (l : List UInt8) : Nat → Nat → List Pat → Option (Pat × Nat)
  | 0, _, _ => none
  | n + 1, i, acc =>
    if i < l.length ∧ hasB l i 124 = false ∧ hasB l i 41 = false then (match repP sub l i with | none => none | some (R, j) => rowP sub l n j (acc ++ [R]))
    else if acc.length = 0 then none else some (rowR acc, i)
def altP (sub : Nat → Option (Pat × Nat)) (l : List UInt8) : Nat → Nat → List Pat → Option (Pat × Nat)
  | 0, _, _ => none
  | n + 1, i, acc =>
    match rowP sub l (l.length + 1) i [] with
    | none => none
    | some (R, j) => if hasB l j 124 then altP sub l n (j + 1) (acc ++ [R]) else some (altR (acc ++ [R]), j)
def choiceP (l : List UInt8) : Nat → Nat → Option (Pat × Nat)
  | 0, _ => none
  | f + 1, i => altP (choiceP l f) l (l.length + 1) i []
def wholeP (l : List UInt8) : Option Pat :=
  if l.length = 0 then some emptyR else match choiceP l (l.length + 1) 0 with | none => none | some (R, j) => if j = l.length then some R else none
end Go.Proofs.YtdbdbaepmdmnfaaGreatDoor
/- Sets of places as rows of bits, and rounds that end. Nothing of the program is imported. -/
namespace Go.Proofs.YtdbdbaepmdmnfaaGreatDoor
/-- The bits of out are the places to which R comes from the bits of f. -/
def Img (R : Nat → Nat → Prop) (f out : List Bool) : Prop := out.length = f.length ∧ ∀ j, out[j]? = some true ↔ ∃ i, f[i]? = some true ∧ R i j
theorem Img.comp {R S : Pat} {t f m out} (h : Img (R t) f m) (h2 : Img (S t) m out) : Img (compR R S t) f out := by
  refine ⟨h2.1.trans h.1, fun j => ?_⟩
  rw [h2.2]
  constructor
  · rintro ⟨k, h3, h4⟩
    obtain ⟨i, h5, h6⟩ := (h.2 k).1 h3
    exact ⟨i, h5, k, h6, h4⟩
  · rintro ⟨i, h5, k, h6, h4⟩
    exact ⟨k, (h.2 k).2 ⟨i, h5, h6⟩, h4⟩
end Go.Proofs.YtdbdbaepmdmnfaaGreatDoor

namespace Go.Proofs.YtdbdbaepmdmnfaaGreatDoor
open Go.RowKit
/-- A reader lies at a place of memory. -/
def RdAt (w : World) (b o : Nat) (s : ByteArray) (i : Nat) : Prop := w.cell? ⟨b, o, none⟩ = some (.string s) ∧ w.cell? ⟨b, o + 1, none⟩ = some (.int .i64 i)
theorem RdAt.drewN {w b o s i} (h : RdAt w b o s i) (n : Nat) : RdAt (w.drewN n) b o s i := h
end Go.Proofs.YtdbdbaepmdmnfaaGreatDoor
/- What a call may have turned in memory: the blocks of D, of those that were there. Nothing of the program is imported. -/
namespace Go.Proofs.YtdbdbaepmdmnfaaGreatDoor
open Go.RowKit
structure Only (D : Nat → Prop) (w w' : World) : Prop where
  os : w'.os = w.os
  tape : w'.tape = w.tape
  output : w'.output = w.output
  size : w.heap.size ≤ w'.heap.size
  block : ∀ k, k < w.heap.size → ¬ D k → w'.heap[k]? = w.heap[k]?
theorem Only.refl (D : Nat → Prop) (w : World) : Only D w w := ⟨rfl, rfl, rfl, Nat.le_refl _, fun _ _ _ => rfl⟩
theorem Only.trans {D E : Nat → Prop} {a b c : World} (h : Only D a b) (k : Only E b c) (hE : ∀ i, i < a.heap.size → E i → D i) : Only D a c :=
  ⟨k.os.trans h.os, k.tape.trans h.tape, k.output.trans h.output, Nat.le_trans h.size k.size, fun i hi hd => (k.block i (Nat.lt_of_lt_of_le hi h.size) (fun he => hd (hE i hi he))).trans (h.block i hi hd)⟩
theorem Only.mono {D E : Nat → Prop} {a b : World} (h : Only D a b) (hE : ∀ i, i < a.heap.size → D i → E i) : Only E a b :=
  ⟨h.os, h.tape, h.output, h.size, fun i hi he => h.block i hi (fun hd => he (hE i hi hd))⟩
theorem Only.drewN {D : Nat → Prop} {a w : World} (h : Only D a w) (n : Nat) : Only D a (w.drewN n) := ⟨h.os, h.tape, h.output, h.size, h.block⟩
theorem Only.alloc {D : Nat → Prop} {a w : World} (h : Only D a w) (o : Obj) : Only D a (w.alloc o) :=
  ⟨h.os, h.tape, h.output, by have := h.size; simp; omega, fun k hk hd => (Below.heap_alloc _ _ _ (by have := h.size; omega)).trans (h.block k hk hd)⟩
theorem Only.setCell {D : Nat → Prop} {a w : World} (h : Only D a w) {p : Addr} (hp : p.block < a.heap.size → D p.block) (u : Value) : Only D a (w.setCell p u) :=
  ⟨h.os, h.tape, h.output, by have := h.size; simp [World.setCell]; omega, fun k hk hd => (Below.heap_setCell _ _ _ _ (fun e => by subst e; exact hd (hp hk))).trans (h.block k hk hd)⟩
theorem Only.grown {D : Nat → Prop} {a w w' : World} {row : Option Nat} (h : Only D a w) (hg : w.grownBy w' row) (hr : ∀ k, row = some k → k < a.heap.size → D k) : Only D a w' :=
  ⟨hg.os.trans h.os, hg.tape.trans h.tape, hg.output.trans h.output, Nat.le_trans h.size hg.size, fun k hk hd => (hg.block k (Nat.lt_of_lt_of_le hk h.size) (fun e => hd (hr k e.symm hk))).trans (h.block k hk hd)⟩
theorem Only.below {D : Nat → Prop} {a b : World} (h : Only D a b) {B : Nat} (hB : B ≤ a.heap.size) (hD : ∀ k, k < B → ¬ D k) : Below B a b :=
  ⟨h.os, h.tape, h.output, h.size, fun k hk => h.block k (by omega) (hD k hk)⟩
theorem Only.ofBelow {a b : World} (h : Below a.heap.size a b) (D : Nat → Prop) : Only D a b := ⟨h.os, h.tape, h.output, h.size, fun k hk _ => h.block k hk⟩
theorem Only.cell {D : Nat → Prop} {a b : World} (h : Only D a b) {p : Addr} (hp : p.block < a.heap.size) (hd : ¬ D p.block) : b.cell? p = a.cell? p := World.cell?_of_block (w := a) (h.block p.block hp hd)
theorem heap_setCell_same {w : World} {b o : Nat} {c : Array Value} {t : TypeId} (h : w.heap[b]? = some (.cells c t (0, 0))) (v : Value) : (w.setCell ⟨b, o, none⟩ v).heap[b]? = some (.cells (c.setIfInBounds o v) t (0, 0)) := by
  simp only [World.setCell, Array.getElem?_modify]
  rw [if_pos True.intro, h]; rfl
theorem heap_lt {w : World} {b : Nat} {o : Obj} (h : w.heap[b]? = some o) : b < w.heap.size := (Array.getElem?_eq_some_iff.1 h).1
theorem cell_of {w : World} {b o : Nat} {c : Array Value} {t : TypeId} {v : Value} (h : w.heap[b]? = some (.cells c t (0, 0))) (hv : c[o]? = some v) : w.cell? ⟨b, o, none⟩ = some v := by
  simp [World.cell?, h, hv]
theorem free_of {w : World} {b : Nat} {c : Array Value} {t : TypeId} (h : w.heap[b]? = some (.cells c t (0, 0))) (o : Nat) : w.frozen? ⟨b, o, none⟩ = false := by
  simp [World.frozen?, h]
end Go.Proofs.YtdbdbaepmdmnfaaGreatDoor
namespace Go.Proofs.YtdbdbaepmdmnfaaGreatDoor
open Go.RowKit
/-- A reader is a block of its own. -/
def RdB (w : World) (b : Nat) (s : ByteArray) (i : Nat) : Prop := w.heap[b]? = some (.cells #[.string s, .int .i64 i] 170 (0, 0))
theorem RdB.at {w b s i} (h : RdB w b s i) : RdAt w b 0 s i := ⟨cell_of h rfl, cell_of h rfl⟩
theorem RdB.free {w b s i} (h : RdB w b s i) (o : Nat) : w.frozen? ⟨b, o, none⟩ = false := free_of h o
theorem RdB.only {w w' b s i D} (h : RdB w b s i) (ho : Only D w w') (hd : ¬ D b) : RdB w' b s i := (ho.block b (heap_lt h) hd).trans h
theorem RdB.set {w b s i} (h : RdB w b s i) (j : Nat) : RdB (w.setCell ⟨b, 1, none⟩ (.int .i64 j)) b s j := by
  unfold RdB at *
  rw [heap_setCell_same h]; rfl
theorem RdB.drewN {w b s i} (h : RdB w b s i) (n : Nat) : RdB (w.drewN n) b s i := h
end Go.Proofs.YtdbdbaepmdmnfaaGreatDoor
namespace Go.Proofs.YtdbdbaepmdmnfaaGreatDoor
open Go.RowKit
/-- Four words, a bit a byte. -/
def SetIs (xs : Nat → Nat) (S : UInt8 → Bool) : Prop := (∀ k, xs k < 18446744073709551616) ∧ ∀ c : UInt8, S c = (xs (c.toNat / 64)).testBit (c.toNat % 64)
def SetAt (w : World) (b o : Nat) (xs : Nat → Nat) : Prop := ∀ k, k < 4 → w.cell? ⟨b, o + k, none⟩ = some (.int .u64 (xs k))
def setCs (xs : Nat → Nat) : Array Value := #[.int .u64 (xs 0), .int .u64 (xs 1), .int .u64 (xs 2), .int .u64 (xs 3)]
def SetB (w : World) (b : Nat) (xs : Nat → Nat) : Prop := w.heap[b]? = some (.cells (setCs xs) 115 (0, 0))
theorem SetB.at {w b xs} (h : SetB w b xs) : SetAt w b 0 xs := by
  intro k hk
  match k, hk with
  | 0, _ => exact cell_of h rfl
  | 1, _ => exact cell_of h rfl
  | 2, _ => exact cell_of h rfl
  | 3, _ => exact cell_of h rfl
def upd (xs : Nat → Nat) (k v : Nat) (j : Nat) : Nat := if j = k then v else xs j
theorem SetB.set {w b xs} (h : SetB w b xs) (k v : Nat) (hk : k < 4) : SetB (w.setCell ⟨b, k, none⟩ (.int .u64 v)) b (upd xs k v) := by
  unfold SetB at *
  rw [heap_setCell_same h]
  match k, hk with
  | 0, _ => rfl
  | 1, _ => rfl
  | 2, _ => rfl
  | 3, _ => rfl
theorem SetIs.add {xs : Nat → Nat} {S T : UInt8 → Bool} {j : Nat} (h : SetIs xs S) (hT : ∀ c : UInt8, T c = (S c || decide (c.toNat = j))) : SetIs (upd xs (j / 64) (xs (j / 64) ||| 2 ^ (j % 64))) T := by
  constructor
  · intro k
    unfold upd
    split
    · have h1 : xs (j / 64) < 2 ^ 64 := by have := h.1 (j / 64); omega
      have h2 : 2 ^ (j % 64) < 2 ^ 64 := Nat.pow_lt_pow_right (by decide) (Nat.mod_lt _ (by decide))
      have := Nat.or_lt_two_pow h1 h2
      omega
    · exact h.1 k
  · intro c
    rw [hT, h.2 c]
    unfold upd
    split
    · rename_i hk
      rw [hk, Nat.testBit_or, Nat.testBit_two_pow]
      congr 1
      rw [Bool.eq_iff_iff, decide_eq_true_iff, decide_eq_true_iff]
      omega
    · rename_i hk
      rw [show decide (c.toNat = j) = false from decide_eq_false (fun e => hk (by rw [e])), Bool.or_false]
theorem Only.drew {D : Nat → Prop} {a w : World} (h : Only D a w) : Only D a w.drew := ⟨h.os, h.tape, h.output, h.size, h.block⟩
end Go.Proofs.YtdbdbaepmdmnfaaGreatDoor
namespace Go.Proofs.YtdbdbaepmdmnfaaGreatDoor
open Go.RowKit
theorem SetIs.congr {xs S T} (h : SetIs xs S) (e : ∀ c, S c = T c) : SetIs xs T := ⟨h.1, fun c => by rw [← e]; exact h.2 c⟩
theorem new0 (w : World) (a : Obj) : (w.alloc a).heap[w.heap.size]? = some a := heap_alloc_new w a
end Go.Proofs.YtdbdbaepmdmnfaaGreatDoor

namespace Go.Proofs.YtdbdbaepmdmnfaaGreatDoor
open Go.RowKit
def CellsAt (w : World) (g o : Nat) (cs : List Value) : Prop := ∀ j v, cs[j]? = some v → w.cell? ⟨g, o + j, none⟩ = some v
/-- A node's six cells. -/
def nodeCs (kind : Int) (xs : Nat → Nat) (po : Option Addr) (n cap : Nat) : List Value := [.int .i64 kind, .int .u64 (xs 0), .int .u64 (xs 1), .int .u64 (xs 2), .int .u64 (xs 3), .slice po n cap]
/-- What a node means whose parts mean Rs. -/
def NodeIs (kind : Int) (xs : Nat → Nat) (Rs : List Pat) (R : Pat) : Prop :=
  (kind = 0 ∧ ∃ S, SetIs xs S ∧ R = byteR S) ∨ (kind = 1 ∧ R = beginR) ∨ (kind = 2 ∧ R = endR) ∨ (kind = 3 ∧ R = rowR Rs) ∨ (kind = 4 ∧ Rs ≠ [] ∧ R = altR Rs) ∨
  (kind = 5 ∧ ∃ A, Rs = [A] ∧ R = starR A) ∨ (kind = 6 ∧ ∃ A, Rs = [A] ∧ R = plusR A) ∨ (kind = 7 ∧ ∃ A, Rs = [A] ∧ R = optR A)
/-- How many states a node makes besides its parts' own. -/
def costOf (kind : Int) (n : Nat) : Nat := if kind = 3 then 0 else if kind = 4 then n - 1 else 1
/-- These six cells are a node that means R; the parts lie in blocks of F; d levels at most, N states at most. -/
def Den : Nat → Nat → World → (Nat → Prop) → List Value → Pat → Prop
  | 0, _, _, _, _, _ => False
  | d + 1, N, w, F, cs, R => ∃ (kind : Int) (xs : Nat → Nat) (po : Option Addr) (n cap : Nat) (Rs : List Pat) (Ns : List Nat), cs = nodeCs kind xs po n cap ∧ NodeIs kind xs Rs R ∧ Rs.length = n ∧ (n ≤ maxLen ∧ n ≤ cap) ∧ Ns.length = n ∧ costOf kind n + Ns.sum ≤ N ∧
      (n = 0 ∨ ∃ g, po = some ⟨g, 0, none⟩ ∧ F g ∧ g < w.heap.size ∧ ∀ i A M, Rs[i]? = some A → Ns[i]? = some M → ∃ cs', CellsAt w g (i * 6) cs' ∧ Den d M w F cs' A)
theorem CellsAt.of {w w' : World} {g o : Nat} {cs : List Value} (h : CellsAt w g o cs) (hb : w'.heap[g]? = w.heap[g]?) : CellsAt w' g o cs := fun j v hv => by
  rw [World.cell?_of_block (w := w) (a := ⟨g, o + j, none⟩) hb]; exact h j v hv
theorem Den.frame {d N : Nat} {w w' : World} {F : Nat → Prop} {cs : List Value} {R : Pat} (h : Den d N w F cs R) (hs : w.heap.size ≤ w'.heap.size) (hf : ∀ g, F g → g < w.heap.size → w'.heap[g]? = w.heap[g]?) : Den d N w' F cs R := by
  induction d generalizing N cs R with
  | zero => exact h
  | succ d ih =>
    obtain ⟨kind, xs, po, n, cap, Rs, Ns, h1, h2, h3, h4, ha, hb, h5⟩ := h
    refine ⟨kind, xs, po, n, cap, Rs, Ns, h1, h2, h3, h4, ha, hb, ?_⟩
    rcases h5 with h5 | ⟨g, h6, h7, h8, h9⟩
    · exact Or.inl h5
    · refine Or.inr ⟨g, h6, h7, Nat.lt_of_lt_of_le h8 hs, fun i A M hA hM => ?_⟩
      obtain ⟨cs', h10, h11⟩ := h9 i A M hA hM
      exact ⟨cs', h10.of (hf g h7 h8), ih h11⟩
theorem Den.mono {d N : Nat} {w : World} {F G : Nat → Prop} {cs : List Value} {R : Pat} (h : Den d N w F cs R) (hf : ∀ g, g < w.heap.size → F g → G g) : Den d N w G cs R := by
  induction d generalizing N cs R with
  | zero => exact h
  | succ d ih =>
    obtain ⟨kind, xs, po, n, cap, Rs, Ns, h1, h2, h3, h4, ha, hb, h5⟩ := h
    refine ⟨kind, xs, po, n, cap, Rs, Ns, h1, h2, h3, h4, ha, hb, ?_⟩
    rcases h5 with h5 | ⟨g, h6, h7, h8, h9⟩
    · exact Or.inl h5
    · refine Or.inr ⟨g, h6, hf g h8 h7, h8, fun i A M hA hM => ?_⟩
      obtain ⟨cs', h10, h11⟩ := h9 i A M hA hM
      exact ⟨cs', h10, ih h11⟩
theorem Den.up {d e N : Nat} {w : World} {F : Nat → Prop} {cs : List Value} {R : Pat} (h : Den d N w F cs R) (hd : d ≤ e) : Den e N w F cs R := by
  induction d generalizing e N cs R with
  | zero => exact h.elim
  | succ d ih =>
    obtain ⟨e, rfl⟩ : ∃ e', e = e' + 1 := ⟨e - 1, by omega⟩
    obtain ⟨kind, xs, po, n, cap, Rs, Ns, h1, h2, h3, h4, ha, hb, h5⟩ := h
    refine ⟨kind, xs, po, n, cap, Rs, Ns, h1, h2, h3, h4, ha, hb, ?_⟩
    rcases h5 with h5 | ⟨g, h6, h7, h8, h9⟩
    · exact Or.inl h5
    · refine Or.inr ⟨g, h6, h7, h8, fun i A M hA hM => ?_⟩
      obtain ⟨cs', h10, h11⟩ := h9 i A M hA hM
      exact ⟨cs', h10, ih h11 (by omega)⟩
theorem Den.more {d N M : Nat} {w : World} {F : Nat → Prop} {cs : List Value} {R : Pat} (h : Den d N w F cs R) (hd : N ≤ M) : Den d M w F cs R := by
  cases d with
  | zero => exact h.elim
  | succ d =>
    obtain ⟨kind, xs, po, n, cap, Rs, Ns, h1, h2, h3, h4, ha, hb, h5⟩ := h
    exact ⟨kind, xs, po, n, cap, Rs, Ns, h1, h2, h3, h4, ha, Nat.le_trans hb hd, h5⟩
theorem Den.only {d N : Nat} {w w' : World} {F D : Nat → Prop} {cs : List Value} {R : Pat} (h : Den d N w F cs R) (ho : Only D w w') (hd : ∀ g, F g → ¬ D g) : Den d N w' F cs R :=
  h.frame ho.size (fun g hg hl => ho.block g hl (hd g hg))
end Go.Proofs.YtdbdbaepmdmnfaaGreatDoor
namespace Go.Proofs.YtdbdbaepmdmnfaaGreatDoor
open Go.RowKit
end Go.Proofs.YtdbdbaepmdmnfaaGreatDoor
namespace Go.Proofs.YtdbdbaepmdmnfaaGreatDoor
open Go.RowKit
/-- Where the row lies behind an append: where it lay, or in a new block. -/
def Moved (w : World) (v v' : Value) : Prop := ∃ G, v'.ownBlock = some G ∧ (v.ownBlock = some G ∨ w.heap.size ≤ G)
theorem ownsRow_of {w w' : World} {base : Nat} {e : TypeId} {size : Nat} {v : Value} {n : Nat} {xs : List Value} (h : w.ownsRow base e size v n xs) (hb : ∀ k, v.ownBlock = some k → w'.heap[k]? = w.heap[k]?) : w'.ownsRow base e size v n xs := by
  refine ⟨h.1, ?_⟩
  rcases h.2 with h2 | ⟨g, cap, cur, hv, h3, h4, h5⟩
  · exact Or.inl h2
  · subst hv
    exact Or.inr ⟨g, cap, cur, rfl, h3, (hb g rfl).trans h4, h5⟩
theorem ownsRow_slice {w : World} {base : Nat} {e : TypeId} {size : Nat} {v : Value} {n : Nat} {xs : List Value} (h : w.ownsRow base e size v n xs) : ∃ po cap, v = .slice po n cap := by
  rcases h.2 with ⟨h2, h3⟩ | ⟨g, cap, cur, hv, _⟩
  · subst h3; exact ⟨none, 0, h2⟩
  · exact ⟨_, _, hv⟩
/-- A row of nodes that means acc, its parts in blocks from base on, N states at most. -/
def PartsOf (d N : Nat) (xs : List Value) (w : World) (base : Nat) (v : Value) (acc : List Pat) : Prop :=
  w.ownsRow base 118 6 v acc.length xs ∧ ∃ Ns : List Nat, Ns.length = acc.length ∧ Ns.sum ≤ N ∧ ∀ k A M, acc[k]? = some A → Ns[k]? = some M → ∃ cs, (∀ j u, cs[j]? = some u → xs[k * 6 + j]? = some u) ∧ Den d M w (fun g => base ≤ g ∧ some g ≠ v.ownBlock) cs A
theorem PartsOf.nil (w : World) (base : Nat) (N : Nat) : PartsOf 0 N [] w base (.slice none 0 0) [] := ⟨World.ownsRow_nil _ _ _ _, [], rfl, Nat.zero_le _, fun k A M h => by simp at h⟩
theorem PartsOf.only {d N xs w w' base v acc D} (h : PartsOf d N xs w base v acc) (ho : Only D w w') (hD : ∀ k, base ≤ k → k < w.heap.size → ¬ D k) : PartsOf d N xs w' base v acc := by
  obtain ⟨h1, Ns, h2, h3, h4⟩ := h
  refine ⟨ownsRow_of h1 (fun k hk => ?_), Ns, h2, h3, fun k A M hA hM => ?_⟩
  · have := h1.lt k hk
    exact ho.block k this.2 (hD k this.1 this.2)
  · obtain ⟨cs, h1, h2⟩ := h4 k A M hA hM
    exact ⟨cs, h1, h2.frame ho.size (fun g hg hl => ho.block g hl (hD g hg.1 hl))⟩
theorem PartsOf.more {d N N' xs w base v acc} (h : PartsOf d N xs w base v acc) (hN : N ≤ N') : PartsOf d N' xs w base v acc := by
  obtain ⟨h1, Ns, h2, h3, h4⟩ := h
  exact ⟨h1, Ns, h2, Nat.le_trans h3 hN, h4⟩
theorem PartsOf.push {d N xs w w' base v v' acc B cs R d' N'} (h : PartsOf d N xs w base v acc) (hB : ∀ k, v.ownBlock = some k → k < B) (hbB : base ≤ B) (hd : Den d' N' w (fun g => B ≤ g) cs R)
    (ho : w'.ownsRow base 118 6 v' (acc.length + 1) (xs ++ cs)) (hg : w.grownBy w' v.ownBlock) (hm : Moved w v v') : PartsOf (max d d') (N + N') (xs ++ cs) w' base v' (acc ++ [R]) := by
  obtain ⟨hh1, Ns, hh2, hh3, hh4⟩ := h
  have hl : xs.length = acc.length * 6 := hh1.1
  have key : ∀ e M ys A, Den e M w (fun g => base ≤ g ∧ some g ≠ v.ownBlock) ys A → Den e M w' (fun g => base ≤ g ∧ some g ≠ v'.ownBlock) ys A := by
    intro e M ys A hA
    obtain ⟨G, hG, hG2⟩ := hm
    have h1 : Den e M w (fun g => (base ≤ g ∧ some g ≠ v'.ownBlock) ∧ some g ≠ v.ownBlock) ys A := hA.mono (fun g hl hg => ⟨⟨hg.1, fun e => by
      rw [hG] at e
      cases e
      rcases hG2 with h | h
      · exact hg.2 h.symm
      · omega⟩, hg.2⟩)
    exact (h1.frame (w' := w') hg.size (fun g hg1 hl => hg.block g hl hg1.2)).mono (fun g _ hg => hg.1)
  refine ⟨by simpa using ho, Ns ++ [N'], by simp [hh2], by simp; omega, fun k A M hA hM => ?_⟩
  by_cases hk : k < acc.length
  · rw [List.getElem?_append_left hk] at hA
    rw [List.getElem?_append_left (by omega)] at hM
    obtain ⟨ys, h1, h2⟩ := hh4 k A M hA hM
    refine ⟨ys, fun j u hj => ?_, (key _ _ _ _ h2).up (Nat.le_max_left _ _)⟩
    have h3 := h1 j u hj
    rw [List.getElem?_append_left (List.getElem?_eq_some_iff.1 h3).1]
    exact h3
  · rw [List.getElem?_append_right (by omega)] at hA
    rw [List.getElem?_append_right (by omega)] at hM
    have hk' : k = acc.length := by
      have := (List.getElem?_eq_some_iff.1 hA).1
      simp at this; omega
    subst hk'
    rw [hh2] at hM
    simp at hA hM
    subst hA
    subst hM
    refine ⟨cs, fun j u hj => ?_, (key _ _ _ _ (hd.mono (fun g _ hg => ⟨Nat.le_trans hbB hg, fun e => ?_⟩))).up (Nat.le_max_right _ _)⟩
    · rw [List.getElem?_append_right (by omega), hl, Nat.add_sub_cancel_left]; exact hj
    · have := hB g e.symm; omega
theorem PartsOf.size {d N xs w base v acc} (h : PartsOf d N xs w base v acc) : acc.length ≤ maxLen := by
  rcases h.1.2 with ⟨_, h2⟩ | ⟨g, cap', cur, hv', h3, h4, h5, h6, h7, h8⟩
  · rw [h2]; exact Nat.zero_le _
  · omega
end Go.Proofs.YtdbdbaepmdmnfaaGreatDoor

namespace Go.Proofs.YtdbdbaepmdmnfaaGreatDoor
open Go.RowKit
/-- A reader of tokens lies at the beginning of a block. -/
def TkAt (w : World) (b : Nat) (T : ByteArray) (i : Nat) (dv : Bool) : Prop := w.cell? ⟨b, 0, none⟩ = some (.string T) ∧ w.cell? ⟨b, 1, none⟩ = some (.int .i64 i) ∧ w.cell? ⟨b, 2, none⟩ = some (.bool dv)
theorem TkAt.drewN {w b T i dv} (h : TkAt w b T i dv) (n : Nat) : TkAt (w.drewN n) b T i dv := h
theorem TkAt.alloc {w b T i dv} (h : TkAt w b T i dv) (hb : b < w.heap.size) (o : Obj) : TkAt (w.alloc o) b T i dv := by
  obtain ⟨h0, h1, h2⟩ := h
  have e := fun k => World.cell?_of_block (w := w) (w' := w.alloc o) (a := ⟨b, k, none⟩) (Below.heap_alloc _ _ _ hb)
  exact ⟨(e 0).trans h0, (e 1).trans h1, (e 2).trans h2⟩
theorem TkAt.lt {w b T i dv} (h : TkAt w b T i dv) : b < w.heap.size := World.block_lt_of_cell? w ⟨b, 0, none⟩ h.1
set_option maxHeartbeats 1000000 in
theorem tended_any (b : Nat) (T : ByteArray) (i : Nat) (dv : Bool) (w : World) (h : TkAt w b T i dv) :
    Calls Tryz.prog 171 #[.pointer (some ⟨b, 0, none⟩)] w fun e w' => e = .returned (.bool (decide (i = T.size))) ∧ ∃ n, w' = w.drewN n := by
  obtain ⟨c0, c1, c2⟩ := h
  go_enter Tryz.func171, Tryz.ntmps171
  go_wp2
  go_quiet (fail)
  go_wp2
  go_ret
  refine ⟨ret_bool ?_, _, rfl⟩
  rw [Bool.eq_iff_iff, beq_iff_eq, decide_eq_true_iff]
  omega
theorem tended_no (b : Nat) (T : ByteArray) (i : Nat) (dv : Bool) (hi : i < T.size) (w : World) (h : TkAt w b T i dv) :
    Calls Tryz.prog 171 #[.pointer (some ⟨b, 0, none⟩)] w fun e w' => e = .returned (.bool false) ∧ ∃ n, w' = w.drewN n := by
  have := tended_any b T i dv w h
  rwa [decide_eq_false (by omega)] at this
theorem tended_yes (b : Nat) (T : ByteArray) (i : Nat) (dv : Bool) (hi : i = T.size) (w : World) (h : TkAt w b T i dv) :
    Calls Tryz.prog 171 #[.pointer (some ⟨b, 0, none⟩)] w fun e w' => e = .returned (.bool true) ∧ ∃ n, w' = w.drewN n := by
  have := tended_any b T i dv w h
  rwa [decide_eq_true hi] at this
def letB (c : UInt8) : Bool := (decide (97 ≤ c.toNat) && decide (c.toNat ≤ 122)) || (decide (65 ≤ c.toNat) && decide (c.toNat ≤ 90)) || c.toNat == 95
set_option maxHeartbeats 1000000 in
theorem tdigit_any (c : UInt8) (w : World) : Calls Tryz.prog 173 #[.int .u8 c.toNat] w fun e w' => e = .returned (.bool (digB c)) ∧ w' = w := by
  obtain ⟨v, HV⟩ : ∃ v, Hid (v = digB c) := ⟨_, rfl⟩
  rw [← HV.out]
  go_enter Tryz.func173, Tryz.ntmps173
  go_wp2
  all_goals
    go_ret
    refine ⟨ret_bool ?_, rfl⟩
    rw [HV.out]
    unfold digB
    rw [Bool.eq_iff_iff]
    simp only [Bool.and_eq_true, decide_eq_true_iff]
    first | omega | (simp; omega)
set_option maxHeartbeats 1000000 in
theorem tletter_any (c : UInt8) (w : World) : Calls Tryz.prog 175 #[.int .u8 c.toNat] w fun e w' => e = .returned (.bool (letB c)) ∧ w' = w := by
  obtain ⟨v, HV⟩ : ∃ v, Hid (v = letB c) := ⟨_, rfl⟩
  rw [← HV.out]
  go_enter Tryz.func175, Tryz.ntmps175
  go_wp2
  all_goals
    go_ret
    refine ⟨ret_bool ?_, rfl⟩
    rw [HV.out]
    unfold letB
    rw [Bool.eq_iff_iff]
    simp only [Bool.and_eq_true, Bool.or_eq_true, decide_eq_true_iff, beq_iff_eq]
    first | omega | (simp; omega)
end Go.Proofs.YtdbdbaepmdmnfaaGreatDoor

namespace Go.Proofs.YtdbdbaepmdmnfaaGreatDoor
open Go.RowKit
def wordB (l : List UInt8) : Bool := l == [66, 69, 71, 73, 78] || l == [69, 78, 68] || l == [102, 117, 110, 99, 116, 105, 111, 110] || l == [105, 102] || l == [101, 108, 115, 101] || l == [119, 104, 105, 108, 101] || l == [102, 111, 114] || l == [105, 110] || l == [112, 114, 105, 110, 116] || l == [110, 101, 120, 116] || l == [101, 120, 105, 116] || l == [114, 101, 116, 117, 114, 110] || l == [98, 114, 101, 97, 107] || l == [99, 111, 110, 116, 105, 110, 117, 101] || l == [100, 101, 108, 101, 116, 101]
def ownB (l : List UInt8) : Bool := l == [108, 101, 110, 103, 116, 104] || l == [115, 117, 98, 115, 116, 114] || l == [105, 110, 100, 101, 120] || l == [115, 112, 108, 105, 116] || l == [115, 117, 98] || l == [103, 115, 117, 98] || l == [109, 97, 116, 99, 104] || l == [116, 111, 117, 112, 112, 101, 114] || l == [116, 111, 108, 111, 119, 101, 114] || l == [115, 112, 114, 105, 110, 116, 102]
def dblB (l : List UInt8) : Bool := l == [124, 124] || l == [38, 38] || l == [33, 126] || l == [60, 61] || l == [61, 61] || l == [33, 61] || l == [62, 61] || l == [43, 61] || l == [45, 61] || l == [42, 61] || l == [47, 61] || l == [37, 61]
def sglB (c : UInt8) : Bool := c == 123 || c == 125 || c == 40 || c == 41 || c == 91 || c == 93 || c == 59 || c == 44 || c == 43 || c == 45 || c == 42 || c == 47 || c == 37 || c == 33 || c == 62 || c == 60 || c == 126 || c == 63 || c == 58 || c == 61 || c == 36
set_option maxRecDepth 10000 in
set_option maxHeartbeats 4000000 in
theorem word_any (x : ByteArray) (w : World) : Calls Tryz.prog 240 #[.string x] w fun e w' => e = .returned (.bool (wordB x.data.toList)) ∧ w' = w := by
  obtain ⟨v, HV⟩ : ∃ v, Hid (v = wordB x.toList) := ⟨_, rfl⟩
  rw [← ByteArray.toList_eq, ← HV.out]
  go_enter Tryz.func240, Tryz.ntmps240
  go_wp2
  all_goals
    go_ret
    refine ⟨ret_bool ?_, rfl⟩
    rw [HV.out]
    unfold wordB
    first | (simp [*]; done) | simp_all
set_option maxRecDepth 10000 in
set_option maxHeartbeats 4000000 in
theorem own_any (x : ByteArray) (w : World) : Calls Tryz.prog 241 #[.string x] w fun e w' => e = .returned (.bool (ownB x.data.toList)) ∧ w' = w := by
  obtain ⟨v, HV⟩ : ∃ v, Hid (v = ownB x.toList) := ⟨_, rfl⟩
  rw [← ByteArray.toList_eq, ← HV.out]
  go_enter Tryz.func241, Tryz.ntmps241
  go_wp2
  all_goals
    go_ret
    refine ⟨ret_bool ?_, rfl⟩
    rw [HV.out]
    unfold ownB
    first | (simp [*]; done) | simp_all
set_option maxRecDepth 10000 in
set_option maxHeartbeats 4000000 in
theorem dbl_any (x : ByteArray) (w : World) : Calls Tryz.prog 244 #[.string x] w fun e w' => e = .returned (.bool (dblB x.data.toList)) ∧ w' = w := by
  obtain ⟨v, HV⟩ : ∃ v, Hid (v = dblB x.toList) := ⟨_, rfl⟩
  rw [← ByteArray.toList_eq, ← HV.out]
  go_enter Tryz.func244, Tryz.ntmps244
  go_wp2
  all_goals
    go_ret
    refine ⟨ret_bool ?_, rfl⟩
    rw [HV.out]
    unfold dblB
    first | (simp [*]; done) | simp_all
theorem u8_int (c : UInt8) (n : UInt8) : (c == n) = ((c.toNat : Int) == (n.toNat : Int)) := by
  rw [Bool.eq_iff_iff, beq_iff_eq, beq_iff_eq]
  constructor
  · rintro rfl; rfl
  · intro h; exact UInt8.toNat_inj.1 (by omega)
set_option maxRecDepth 10000 in
set_option maxHeartbeats 8000000 in
theorem sgl_any (c : UInt8) (w : World) : Calls Tryz.prog 245 #[.int .u8 c.toNat] w fun e w' => e = .returned (.bool (sglB c)) ∧ w' = w := by
  obtain ⟨v, HV⟩ : ∃ v, Hid (v = sglB c) := ⟨_, rfl⟩
  rw [← HV.out]
  go_enter Tryz.func245, Tryz.ntmps245
  go_wp2
  all_goals
    go_ret
    refine ⟨ret_bool ?_, rfl⟩
    rw [HV.out]
    unfold sglB
    first | (simp [u8_int, *]; done) | simp_all [u8_int]
end Go.Proofs.YtdbdbaepmdmnfaaGreatDoor

