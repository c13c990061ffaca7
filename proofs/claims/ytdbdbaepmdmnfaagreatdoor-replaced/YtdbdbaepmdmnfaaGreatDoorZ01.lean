import Derived.Test.YtdbdbaepmdmnfaaGreatDoorProg
import Derived.WalkKit
import Derived.WalkSpells
import Derived.WalkLawsBesides
/- Plain functions on lists of bytes: blanks, leading numbers. Nothing of the program is imported. -/
namespace Go.Proofs.YtdbdbaepmdmnfaaGreatDoor
open Go.RowKit
def blankB (c : UInt8) : Bool := (c.toNat : Int) == 32 || (c.toNat : Int) == 9 || (c.toNat : Int) == 10
def digB (c : UInt8) : Bool := decide (48 ≤ c.toNat) && decide (c.toNat ≤ 57)
/-- The first place from k on where no byte of the kind p stands. -/
def runTo (p : UInt8 → Bool) (l : List UInt8) (k : Nat) : Nat := k + ((l.drop k).takeWhile p).length
theorem runTo_stop {p : UInt8 → Bool} {l : List UInt8} {k : Nat} (h : ∀ c, l[k]? = some c → p c = false) : runTo p l k = k := by
  unfold runTo
  cases hd : l.drop k with
  | nil => simp
  | cons c r =>
    have : l[k]? = some c := by
      have := congrArg (fun x => x[0]?) hd
      simpa using this
    simp [h c this]
theorem runTo_step {p : UInt8 → Bool} {l : List UInt8} {k : Nat} {c : UInt8} (h : l[k]? = some c) (hp : p c = true) : runTo p l (k + 1) = runTo p l k := by
  unfold runTo
  have hk : k < l.length := by
    by_cases hk : k < l.length
    · exact hk
    · rw [List.getElem?_eq_none (by omega)] at h; cases h
  have hc : l[k] = c := by rw [List.getElem?_eq_getElem hk] at h; exact Option.some.inj h
  rw [List.drop_eq_getElem_cons hk, List.takeWhile_cons, hc, hp]
  simp; omega
theorem runTo_ge (p : UInt8 → Bool) (l : List UInt8) (k : Nat) : k ≤ runTo p l k := by unfold runTo; omega
theorem runTo_le {p : UInt8 → Bool} {l : List UInt8} {k : Nat} (h : k ≤ l.length) : runTo p l k ≤ l.length := by
  unfold runTo
  have := List.takeWhile_prefix p (l := l.drop k) |>.length_le
  simp at this; omega
theorem get_of_lt (s : ByteArray) (k : Nat) (h : k < s.size) : s.data.toList[k]? = some s[k] := by
  rw [List.getElem?_eq_getElem (by simpa using h)]; rfl
theorem get_none (s : ByteArray) (k : Nat) (h : s.size ≤ k) : s.data.toList[k]? = none := by
  rw [List.getElem?_eq_none (by simpa using h)]
theorem len_eq (s : ByteArray) : s.data.toList.length = s.size := by rw [Array.length_toList]; rfl
def accD (n : Int) (c : UInt8) : Int := wrap64 (wrap64 (n * 10) + ((c.toNat : Int) - 48))
def numTo (l : List UInt8) (a b : Nat) : Int := ((l.drop a).take (b - a)).foldl accD 0
def isAt (l : List UInt8) (k : Nat) (c : Int) : Bool := match l[k]? with | some x => (x.toNat : Int) == c | none => false
def leadFirst (l : List UInt8) : Nat := if isAt l (runTo blankB l 0) 45 || isAt l (runTo blankB l 0) 43 then runTo blankB l 0 + 1 else runTo blankB l 0
def leadEnd (l : List UInt8) : Nat := runTo digB l (leadFirst l)
def leadNum (l : List UInt8) : Int := if isAt l (runTo blankB l 0) 45 then wrap64 (-(numTo l (leadFirst l) (leadEnd l))) else numTo l (leadFirst l) (leadEnd l)
def leadOk (l : List UInt8) : Bool := decide (leadFirst l < leadEnd l)
theorem numTo_self (l : List UInt8) (a : Nat) : numTo l a a = 0 := by simp [numTo]
theorem numTo_step {l : List UInt8} {a b : Nat} {c : UInt8} (h : l[b]? = some c) (hab : a ≤ b) : numTo l a (b + 1) = accD (numTo l a b) c := by
  unfold numTo
  have hb : b < l.length := by
    by_cases hk : b < l.length
    · exact hk
    · rw [List.getElem?_eq_none (by omega)] at h; cases h
  have hc : (l.drop a)[b - a]? = some c := by rw [List.getElem?_drop, show a + (b - a) = b by omega]; exact h
  rw [show b + 1 - a = (b - a) + 1 by omega, List.take_add_one, hc]
  simp
theorem leadFirst_le (l : List UInt8) : leadFirst l ≤ l.length := by
  have h := runTo_le (p := blankB) (l := l) (k := 0) (by omega)
  unfold leadFirst
  split
  · rename_i hh
    have : runTo blankB l 0 < l.length := by
      by_cases hk : runTo blankB l 0 < l.length
      · exact hk
      · simp [isAt, List.getElem?_eq_none (show l.length ≤ runTo blankB l 0 by omega)] at hh
    omega
  · exact h
theorem leadEnd_le (l : List UInt8) : leadEnd l ≤ l.length := runTo_le (leadFirst_le l)
def numeralB (l : List UInt8) : Bool := leadOk l && decide (runTo blankB l (leadEnd l) = l.length)
end Go.Proofs.YtdbdbaepmdmnfaaGreatDoor
namespace Go.Proofs.YtdbdbaepmdmnfaaGreatDoor
open Go.RowKit
theorem ret_bool {a b : Bool} (h : a = b) : Ending.returned (.bool a) = .returned (.bool b) := by rw [h]
theorem ret_int {k : IntKind} {a b : Int} (h : a = b) : Ending.returned (.int k a) = .returned (.int k b) := by rw [h]
theorem blankB_eq (c : UInt8) : blankB c = ((c.toNat : Int) == 32 || (c.toNat : Int) == 9 || (c.toNat : Int) == 10) := rfl
set_option maxHeartbeats 400000 in
theorem isBlank_any (c : UInt8) (w : World) :
    Calls Tryz.prog 51 #[.int .u8 c.toNat] w fun e w' => e = .returned (.bool (blankB c)) ∧ w' = w := by
  have hb := blankB_eq c
  have HB : Hid (blankB c = ((c.toNat : Int) == 32 || (c.toNat : Int) == 9 || (c.toNat : Int) == 10)) := hb
  clear hb
  go_enter Tryz.func51, Tryz.ntmps51
  go_wp2
  all_goals
    go_ret
    exact ⟨ret_bool (by rw [HB.out] <;> simp [*]), rfl⟩
set_option maxHeartbeats 400000 in
theorem skip_any (s : ByteArray) (k : Nat) (w : World) (hs : s.size ≤ maxLen) (hk : k ≤ s.size) :
    Calls Tryz.prog 233 #[.string s, .int .i64 k] w fun e w' => e = .returned (.int .i64 (runTo blankB s.data.toList k)) ∧ w' = w := by
  unfold maxLen at hs
  go_enter Tryz.func233, Tryz.ntmps233
  go_wp2
  go_loop [1] (fun i => ∃ j : Nat, j ≤ s.size ∧ i = .int .i64 j ∧ runTo blankB s.data.toList j = runTo blankB s.data.toList k) (fun i => s.size - (intOf i).toNat)
  case atStart => exact ⟨k, hk, rfl, rfl⟩
  case round =>
    obtain ⟨j, hj, rfl, hr⟩ := hrel
    have HR : Hid (runTo blankB s.data.toList j = runTo blankB s.data.toList k) := hr
    clear hr
    by_cases hlt : j < s.size
    · have hg := get_of_lt s j hlt
      have HG : Hid (s.data.toList[j]? = some s[j]) := hg
      clear hg
      cases hb : blankB s[j]
      · have HB : Hid (blankB s[j] = false) := hb
        clear hb
        go_wp2_with (go_at_call 51; refine (isBlank_any _ _).mono ?_; rintro e w' ⟨rfl, rfl⟩; rw [HB.out])
        go_ret
        refine ⟨ret_int ?_, rfl⟩
        rw [← HR.out, runTo_stop (fun c hc => ?_)]
        rw [HG.out] at hc; cases hc; exact HB.out
      · have HB : Hid (blankB s[j] = true) := hb
        clear hb
        go_wp2_with (go_at_call 51; refine (isBlank_any _ _).mono ?_; rintro e w' ⟨rfl, rfl⟩; rw [HB.out])
        go_round
        case rel => exact ⟨j + 1, by omega, by go_num, by rw [runTo_step HG.out HB.out]; exact HR.out⟩
        case measure => simp [intOf]; omega
    · go_wp2
      go_ret
      refine ⟨ret_int ?_, rfl⟩
      rw [← HR.out, runTo_stop (fun c hc => ?_)]
      rw [get_none s j (by omega)] at hc; cases hc
end Go.Proofs.YtdbdbaepmdmnfaaGreatDoor
namespace Go.Proofs.YtdbdbaepmdmnfaaGreatDoor
open Go.RowKit
theorem hide {p : Prop} (h : p) : Hid p := h
theorem ret3_lead {a a' b b' : Int} {c c' : Bool} (h1 : a = a') (h2 : b = b') (h3 : c = c') : Ending.returned (.tuple #[.int .i64 a, .int .i64 b, .bool c]) = .returned (.tuple #[.int .i64 a', .int .i64 b', .bool c']) := by rw [h1, h2, h3]
theorem isAt_lt (s : ByteArray) (a : Nat) (c : Int) (h : a < s.size) : isAt s.data.toList a c = ((s[a].toNat : Int) == c) := by
  unfold isAt; rw [get_of_lt s a h]
theorem isAt_ge (s : ByteArray) (a : Nat) (c : Int) (h : s.size ≤ a) : isAt s.data.toList a c = false := by
  unfold isAt; rw [get_none s a h]
theorem digB_iff (c : UInt8) : digB c = true ↔ 48 ≤ (c.toNat : Int) ∧ (c.toNat : Int) ≤ 57 := by
  unfold digB; simp; omega
set_option maxHeartbeats 1000000 in
theorem leading_minus (s : ByteArray) (w : World) (hs : s.size ≤ maxLen) (a : Nat) (HA : Hid (a = runTo blankB s.data.toList 0)) 
    (hlt : a < s.size) (h45 : ((s[a].toNat : Int) == 45) = true) :
    Calls Tryz.prog 165 #[.string s] w fun e w' => e = .returned (.tuple #[.int .i64 (leadNum s.data.toList), .int .i64 (leadEnd s.data.toList), .bool (leadOk s.data.toList)]) ∧ w' = w := by
  have hs' := hs
  unfold maxLen at hs
  have HF : Hid (leadFirst s.data.toList = a + 1) := by
    show leadFirst s.data.toList = a + 1
    unfold leadFirst; rw [← HA.out, isAt_lt s a _ hlt, h45]; rfl
  have HM : Hid (isAt s.data.toList (runTo blankB s.data.toList 0) 45 = true) := by
    show isAt s.data.toList (runTo blankB s.data.toList 0) 45 = true
    rw [← HA.out, isAt_lt s a _ hlt, h45]
  go_enter Tryz.func165, Tryz.ntmps165
  go_wp2_with (go_at_call 233; refine (skip_any s 0 _ hs' (by omega)).mono ?_; rintro e w' ⟨rfl, rfl⟩; rw [← HA.out])
  go_loop [5, 8] (fun i n => ∃ j : Nat, a + 1 ≤ j ∧ j ≤ s.size ∧ i = .int .i64 j ∧ n = .int .i64 (numTo s.data.toList (a + 1) j) ∧ runTo digB s.data.toList j = runTo digB s.data.toList (a + 1)) (fun i _ => s.size - (intOf i).toNat)
  case atStart => exact ⟨a + 1, by omega, by omega, by go_num, by rw [numTo_self], rfl⟩
  case round =>
    obtain ⟨j, hj0, hj, rfl, rfl, hr⟩ := hrel
    have HR : Hid (runTo digB s.data.toList j = runTo digB s.data.toList (a + 1)) := hr
    clear hr
    by_cases hl : j < s.size
    · have HG : Hid (s.data.toList[j]? = some s[j]) := get_of_lt s j hl
      by_cases hd : 48 ≤ (s[j].toNat : Int) ∧ (s[j].toNat : Int) ≤ 57
      · have HD : Hid (digB s[j] = true) := (digB_iff _).2 hd
        have HS : Hid (numTo s.data.toList (a + 1) (j + 1) = accD (numTo s.data.toList (a + 1) j) s[j]) := numTo_step HG.out hj0
        obtain ⟨hd1, hd2⟩ := hd
        generalize numTo s.data.toList (a + 1) j = n at *
        go_wp2
        go_round
        case rel => exact ⟨j + 1, by omega, by omega, by go_num, by rw [HS.out]; rfl, by rw [runTo_step HG.out HD.out]; exact HR.out⟩
        case measure => simp [intOf]; omega
      · have HD : Hid (digB s[j] = false) := by
          show digB s[j] = false
          cases h : digB s[j]
          · rfl
          · exact absurd ((digB_iff _).1 h) hd
        have HE : Hid (leadEnd s.data.toList = j) := by
          show leadEnd s.data.toList = j
          unfold leadEnd; rw [HF.out, ← HR.out, runTo_stop (fun c hc => ?_)]
          rw [HG.out] at hc; cases hc; exact HD.out
        by_cases hd1 : 48 ≤ (s[j].toNat : Int)
        · have hd2 : ¬ (s[j].toNat : Int) ≤ 57 := fun h => hd ⟨hd1, h⟩
          clear hd
          go_wp2
          go_ret3
          refine ⟨ret3_lead ?_ (by rw [HE.out]) ?_, rfl⟩
          · unfold leadNum; rw [HM.out]; simp only [if_true]; rw [HE.out]; rw [HF.out]
          · unfold leadOk; rw [HE.out, HF.out]; first | done | (simp <;> omega)
        · clear hd
          go_wp2
          go_ret3
          refine ⟨ret3_lead ?_ (by rw [HE.out]) ?_, rfl⟩
          · unfold leadNum; rw [HM.out]; simp only [if_true]; rw [HE.out]; rw [HF.out]
          · unfold leadOk; rw [HE.out, HF.out]; first | done | (simp <;> omega)
    · have HE : Hid (leadEnd s.data.toList = j) := by
        show leadEnd s.data.toList = j
        unfold leadEnd; rw [HF.out, ← HR.out, runTo_stop (fun c hc => ?_)]
        rw [get_none s j (by omega)] at hc; cases hc
      go_wp2
      go_ret3
      refine ⟨ret3_lead ?_ (by rw [HE.out]) ?_, rfl⟩
      · unfold leadNum; rw [HM.out]; simp only [if_true]; rw [HE.out]; rw [HF.out]
      · unfold leadOk; rw [HE.out, HF.out]; first | done | (simp <;> omega)
set_option maxHeartbeats 1000000 in
theorem leading_plus (s : ByteArray) (w : World) (hs : s.size ≤ maxLen) (a : Nat) (HA : Hid (a = runTo blankB s.data.toList 0)) 
    (hlt : a < s.size) (h45 : ((s[a].toNat : Int) == 45) = false) (h43 : ((s[a].toNat : Int) == 43) = true) :
    Calls Tryz.prog 165 #[.string s] w fun e w' => e = .returned (.tuple #[.int .i64 (leadNum s.data.toList), .int .i64 (leadEnd s.data.toList), .bool (leadOk s.data.toList)]) ∧ w' = w := by
  have hs' := hs
  unfold maxLen at hs
  have HF : Hid (leadFirst s.data.toList = a + 1) := by
    show leadFirst s.data.toList = a + 1
    unfold leadFirst; rw [← HA.out, isAt_lt s a _ hlt, isAt_lt s a _ hlt, h45, h43]; rfl
  have HM : Hid (isAt s.data.toList (runTo blankB s.data.toList 0) 45 = false) := by
    show isAt s.data.toList (runTo blankB s.data.toList 0) 45 = false
    rw [← HA.out, isAt_lt s a _ hlt, h45]
  go_enter Tryz.func165, Tryz.ntmps165
  go_wp2_with (go_at_call 233; refine (skip_any s 0 _ hs' (by omega)).mono ?_; rintro e w' ⟨rfl, rfl⟩; rw [← HA.out])
  go_loop [5, 8] (fun i n => ∃ j : Nat, a + 1 ≤ j ∧ j ≤ s.size ∧ i = .int .i64 j ∧ n = .int .i64 (numTo s.data.toList (a + 1) j) ∧ runTo digB s.data.toList j = runTo digB s.data.toList (a + 1)) (fun i _ => s.size - (intOf i).toNat)
  case atStart => exact ⟨a + 1, by omega, by omega, by go_num, by rw [numTo_self], rfl⟩
  case round =>
    obtain ⟨j, hj0, hj, rfl, rfl, hr⟩ := hrel
    have HR : Hid (runTo digB s.data.toList j = runTo digB s.data.toList (a + 1)) := hr
    clear hr
    by_cases hl : j < s.size
    · have HG : Hid (s.data.toList[j]? = some s[j]) := get_of_lt s j hl
      by_cases hd : 48 ≤ (s[j].toNat : Int) ∧ (s[j].toNat : Int) ≤ 57
      · have HD : Hid (digB s[j] = true) := (digB_iff _).2 hd
        have HS : Hid (numTo s.data.toList (a + 1) (j + 1) = accD (numTo s.data.toList (a + 1) j) s[j]) := numTo_step HG.out hj0
        obtain ⟨hd1, hd2⟩ := hd
        generalize numTo s.data.toList (a + 1) j = n at *
        go_wp2
        go_round
        case rel => exact ⟨j + 1, by omega, by omega, by go_num, by rw [HS.out]; rfl, by rw [runTo_step HG.out HD.out]; exact HR.out⟩
        case measure => simp [intOf]; omega
      · have HD : Hid (digB s[j] = false) := by
          show digB s[j] = false
          cases h : digB s[j]
          · rfl
          · exact absurd ((digB_iff _).1 h) hd
        have HE : Hid (leadEnd s.data.toList = j) := by
          show leadEnd s.data.toList = j
          unfold leadEnd; rw [HF.out, ← HR.out, runTo_stop (fun c hc => ?_)]
          rw [HG.out] at hc; cases hc; exact HD.out
        by_cases hd1 : 48 ≤ (s[j].toNat : Int)
        · have hd2 : ¬ (s[j].toNat : Int) ≤ 57 := fun h => hd ⟨hd1, h⟩
          clear hd
          go_wp2
          go_ret3
          refine ⟨ret3_lead ?_ (by rw [HE.out]) ?_, rfl⟩
          · unfold leadNum; rw [HM.out]; simp only [Bool.false_eq_true, if_false]; rw [HE.out]; rw [HF.out]
          · unfold leadOk; rw [HE.out, HF.out]; first | done | (simp <;> omega)
        · clear hd
          go_wp2
          go_ret3
          refine ⟨ret3_lead ?_ (by rw [HE.out]) ?_, rfl⟩
          · unfold leadNum; rw [HM.out]; simp only [Bool.false_eq_true, if_false]; rw [HE.out]; rw [HF.out]
          · unfold leadOk; rw [HE.out, HF.out]; first | done | (simp <;> omega)
    · have HE : Hid (leadEnd s.data.toList = j) := by
        show leadEnd s.data.toList = j
        unfold leadEnd; rw [HF.out, ← HR.out, runTo_stop (fun c hc => ?_)]
        rw [get_none s j (by omega)] at hc; cases hc
      go_wp2
      go_ret3
      refine ⟨ret3_lead ?_ (by rw [HE.out]) ?_, rfl⟩
      · unfold leadNum; rw [HM.out]; simp only [Bool.false_eq_true, if_false]; rw [HE.out]; rw [HF.out]
      · unfold leadOk; rw [HE.out, HF.out]; first | done | (simp <;> omega)
set_option maxHeartbeats 1000000 in
theorem leading_none (s : ByteArray) (w : World) (hs : s.size ≤ maxLen) (a : Nat) (HA : Hid (a = runTo blankB s.data.toList 0)) 
    (hlt : a < s.size) (h45 : ((s[a].toNat : Int) == 45) = false) (h43 : ((s[a].toNat : Int) == 43) = false) :
    Calls Tryz.prog 165 #[.string s] w fun e w' => e = .returned (.tuple #[.int .i64 (leadNum s.data.toList), .int .i64 (leadEnd s.data.toList), .bool (leadOk s.data.toList)]) ∧ w' = w := by
  have hs' := hs
  unfold maxLen at hs
  have HF : Hid (leadFirst s.data.toList = a) := by
    show leadFirst s.data.toList = a
    unfold leadFirst; rw [← HA.out, isAt_lt s a _ hlt, isAt_lt s a _ hlt, h45, h43]; rfl
  have HM : Hid (isAt s.data.toList (runTo blankB s.data.toList 0) 45 = false) := by
    show isAt s.data.toList (runTo blankB s.data.toList 0) 45 = false
    rw [← HA.out, isAt_lt s a _ hlt, h45]
  go_enter Tryz.func165, Tryz.ntmps165
  go_wp2_with (go_at_call 233; refine (skip_any s 0 _ hs' (by omega)).mono ?_; rintro e w' ⟨rfl, rfl⟩; rw [← HA.out])
  go_loop [5, 8] (fun i n => ∃ j : Nat, a ≤ j ∧ j ≤ s.size ∧ i = .int .i64 j ∧ n = .int .i64 (numTo s.data.toList (a) j) ∧ runTo digB s.data.toList j = runTo digB s.data.toList (a)) (fun i _ => s.size - (intOf i).toNat)
  case atStart => exact ⟨a, by omega, by omega, by go_num, by rw [numTo_self], rfl⟩
  case round =>
    obtain ⟨j, hj0, hj, rfl, rfl, hr⟩ := hrel
    have HR : Hid (runTo digB s.data.toList j = runTo digB s.data.toList (a)) := hr
    clear hr
    by_cases hl : j < s.size
    · have HG : Hid (s.data.toList[j]? = some s[j]) := get_of_lt s j hl
      by_cases hd : 48 ≤ (s[j].toNat : Int) ∧ (s[j].toNat : Int) ≤ 57
      · have HD : Hid (digB s[j] = true) := (digB_iff _).2 hd
        have HS : Hid (numTo s.data.toList (a) (j + 1) = accD (numTo s.data.toList (a) j) s[j]) := numTo_step HG.out hj0
        obtain ⟨hd1, hd2⟩ := hd
        generalize numTo s.data.toList (a) j = n at *
        go_wp2
        go_round
        case rel => exact ⟨j + 1, by omega, by omega, by go_num, by rw [HS.out]; rfl, by rw [runTo_step HG.out HD.out]; exact HR.out⟩
        case measure => simp [intOf]; omega
      · have HD : Hid (digB s[j] = false) := by
          show digB s[j] = false
          cases h : digB s[j]
          · rfl
          · exact absurd ((digB_iff _).1 h) hd
        have HE : Hid (leadEnd s.data.toList = j) := by
          show leadEnd s.data.toList = j
          unfold leadEnd; rw [HF.out, ← HR.out, runTo_stop (fun c hc => ?_)]
          rw [HG.out] at hc; cases hc; exact HD.out
        by_cases hd1 : 48 ≤ (s[j].toNat : Int)
        · have hd2 : ¬ (s[j].toNat : Int) ≤ 57 := fun h => hd ⟨hd1, h⟩
          clear hd
          go_wp2
          go_ret3
          refine ⟨ret3_lead ?_ (by rw [HE.out]) ?_, rfl⟩
          · unfold leadNum; rw [HM.out]; simp only [Bool.false_eq_true, if_false]; rw [HE.out]; rw [HF.out]
          · unfold leadOk; rw [HE.out, HF.out]; first | done | (simp <;> omega)
        · clear hd
          go_wp2
          go_ret3
          refine ⟨ret3_lead ?_ (by rw [HE.out]) ?_, rfl⟩
          · unfold leadNum; rw [HM.out]; simp only [Bool.false_eq_true, if_false]; rw [HE.out]; rw [HF.out]
          · unfold leadOk; rw [HE.out, HF.out]; first | done | (simp <;> omega)
    · have HE : Hid (leadEnd s.data.toList = j) := by
        show leadEnd s.data.toList = j
        unfold leadEnd; rw [HF.out, ← HR.out, runTo_stop (fun c hc => ?_)]
        rw [get_none s j (by omega)] at hc; cases hc
      go_wp2
      go_ret3
      refine ⟨ret3_lead ?_ (by rw [HE.out]) ?_, rfl⟩
      · unfold leadNum; rw [HM.out]; simp only [Bool.false_eq_true, if_false]; rw [HE.out]; rw [HF.out]
      · unfold leadOk; rw [HE.out, HF.out]; first | done | (simp <;> omega)
set_option maxHeartbeats 1000000 in
theorem leading_end (s : ByteArray) (w : World) (hs : s.size ≤ maxLen) (a : Nat) (HA : Hid (a = runTo blankB s.data.toList 0)) (ha2 : a ≤ s.size)
    (hlt : ¬ a < s.size) :
    Calls Tryz.prog 165 #[.string s] w fun e w' => e = .returned (.tuple #[.int .i64 (leadNum s.data.toList), .int .i64 (leadEnd s.data.toList), .bool (leadOk s.data.toList)]) ∧ w' = w := by
  have hs' := hs
  unfold maxLen at hs
  have HF : Hid (leadFirst s.data.toList = a) := by
    show leadFirst s.data.toList = a
    unfold leadFirst; rw [← HA.out, isAt_ge s a _ (by omega), isAt_ge s a _ (by omega)]; rfl
  have HM : Hid (isAt s.data.toList (runTo blankB s.data.toList 0) 45 = false) := by
    show isAt s.data.toList (runTo blankB s.data.toList 0) 45 = false
    rw [← HA.out, isAt_ge s a _ (by omega)]
  go_enter Tryz.func165, Tryz.ntmps165
  go_wp2_with (go_at_call 233; refine (skip_any s 0 _ hs' (by omega)).mono ?_; rintro e w' ⟨rfl, rfl⟩; rw [← HA.out])
  go_loop [5, 8] (fun i n => ∃ j : Nat, a ≤ j ∧ j ≤ s.size ∧ i = .int .i64 j ∧ n = .int .i64 (numTo s.data.toList (a) j) ∧ runTo digB s.data.toList j = runTo digB s.data.toList (a)) (fun i _ => s.size - (intOf i).toNat)
  case atStart => exact ⟨a, by omega, by omega, by go_num, by rw [numTo_self], rfl⟩
  case round =>
    obtain ⟨j, hj0, hj, rfl, rfl, hr⟩ := hrel
    have HR : Hid (runTo digB s.data.toList j = runTo digB s.data.toList (a)) := hr
    clear hr
    by_cases hl : j < s.size
    · exfalso; omega
    · have HE : Hid (leadEnd s.data.toList = j) := by
        show leadEnd s.data.toList = j
        unfold leadEnd; rw [HF.out, ← HR.out, runTo_stop (fun c hc => ?_)]
        rw [get_none s j (by omega)] at hc; cases hc
      go_wp2
      go_ret3
      refine ⟨ret3_lead ?_ (by rw [HE.out]) ?_, rfl⟩
      · unfold leadNum; rw [HM.out]; simp only [Bool.false_eq_true, if_false]; rw [HE.out]; rw [HF.out]
      · unfold leadOk; rw [HE.out, HF.out]; first | done | (simp <;> omega)
theorem leading_any (s : ByteArray) (w : World) (hs : s.size ≤ maxLen) :
    Calls Tryz.prog 165 #[.string s] w fun e w' => e = .returned (.tuple #[.int .i64 (leadNum s.data.toList), .int .i64 (leadEnd s.data.toList), .bool (leadOk s.data.toList)]) ∧ w' = w := by
  have ha2 : runTo blankB s.data.toList 0 ≤ s.size := by rw [← len_eq]; exact runTo_le (by omega)
  by_cases hlt : runTo blankB s.data.toList 0 < s.size
  · cases h45 : ((s[runTo blankB s.data.toList 0].toNat : Int) == 45)
    · cases h43 : ((s[runTo blankB s.data.toList 0].toNat : Int) == 43)
      · exact leading_none s w hs _ (hide rfl) hlt h45 h43
      · exact leading_plus s w hs _ (hide rfl) hlt h45 h43
    · exact leading_minus s w hs _ (hide rfl) hlt h45
  · exact leading_end s w hs _ (hide rfl) ha2 hlt
end Go.Proofs.YtdbdbaepmdmnfaaGreatDoor
namespace Go.Proofs.YtdbdbaepmdmnfaaGreatDoor
open Go.RowKit
set_option maxHeartbeats 400000 in
theorem read_num (s : ByteArray) (w : World) (hs : s.size ≤ maxLen) (hn : numeralB s.data.toList = true) :
    Calls Tryz.prog 400 #[.string s] w fun e w' => e = .returned (.agg #[.int .i64 3, .int .i64 (leadNum s.data.toList), .string s]) ∧ Below w.heap.size w w' := by
  have hs' := hs
  unfold maxLen at hs
  simp only [numeralB, Bool.and_eq_true, decide_eq_true_eq] at hn
  obtain ⟨h1, h2⟩ := hn
  have H1 : Hid (leadOk s.data.toList = true) := h1
  have H2 : Hid (runTo blankB s.data.toList (leadEnd s.data.toList) = s.size) := by rw [len_eq] at h2; exact h2
  clear h1 h2
  have hle := leadEnd_le s.data.toList
  rw [len_eq] at hle
  go_enter Tryz.func400, Tryz.ntmps400
  go_wp2_with (first | (go_at_call 165; refine (leading_any s _ hs').mono ?_; rintro e w' ⟨rfl, rfl⟩; rw [H1.out]) | (go_at_call 233; refine (skip_any s _ _ hs' hle).mono ?_; rintro e w' ⟨rfl, rfl⟩; rw [H2.out]))
  exact bodyPost_ret (v := .agg #[.int .i64 3, .int .i64 (leadNum s.data.toList), .string s]) (by simp [results, Tryz.results400, go_sem]) rfl ⟨rfl, (Below.refl _ _).alloc (Nat.le_refl _) _⟩
set_option maxHeartbeats 400000 in
theorem read_text (s : ByteArray) (w : World) (hs : s.size ≤ maxLen) (hn : numeralB s.data.toList = false) :
    Calls Tryz.prog 400 #[.string s] w fun e w' => e = .returned (.agg #[.int .i64 2, .int .i64 0, .string s]) ∧ Below w.heap.size w w' := by
  have hs' := hs
  unfold maxLen at hs
  have hle := leadEnd_le s.data.toList
  rw [len_eq] at hle
  cases h1 : leadOk s.data.toList
  · have H1 := hide h1
    clear h1
    go_enter Tryz.func400, Tryz.ntmps400
    go_wp2_with (first | (go_at_call 165; refine (leading_any s _ hs').mono ?_; rintro e w' ⟨rfl, rfl⟩; rw [H1.out]))
    exact bodyPost_ret (v := .agg #[.int .i64 2, .int .i64 0, .string s]) (by simp [results, Tryz.results400, go_sem]) rfl ⟨rfl, (Below.refl _ _).alloc (Nat.le_refl _) _⟩
  · simp [numeralB, h1] at hn
    have H1 := hide h1
    clear h1
    have h2 : ((runTo blankB s.data.toList (leadEnd s.data.toList) : Int) == s.size) = false := by
      rw [beq_eq_false_iff_ne]; omega
    clear hn
    go_enter Tryz.func400, Tryz.ntmps400
    go_wp2_with (first | (go_at_call 165; refine (leading_any s _ hs').mono ?_; rintro e w' ⟨rfl, rfl⟩; rw [H1.out]) | (go_at_call 233; refine (skip_any s _ _ hs' hle).mono ?_; rintro e w' ⟨rfl, rfl⟩))
    exact bodyPost_ret (v := .agg #[.int .i64 2, .int .i64 0, .string s]) (by simp [results, Tryz.results400, go_sem]) rfl ⟨rfl, (Below.refl _ _).alloc (Nat.le_refl _) _⟩
-- A value of package value: nothing (0), a number (1), a text (2), a numeral (3).
set_option maxHeartbeats 400000 in
theorem number_else (k n : Int) (s : ByteArray) (w : World) (hk : (k == 2) = false) :
    Calls Tryz.prog 131 #[.agg #[.int .i64 k, .int .i64 n, .string s]] w fun e w' => e = .returned (.int .i64 n) ∧ Below w.heap.size w w' := by
  go_enter Tryz.func131, Tryz.ntmps131
  go_wp2
  go_ret
  exact ⟨rfl, (Below.refl _ _).alloc (Nat.le_refl _) _⟩
set_option maxHeartbeats 400000 in
theorem text_any (k n : Int) (s : ByteArray) (w : World) (hk : (k == 1) = false) :
    Calls Tryz.prog 235 #[.agg #[.int .i64 k, .int .i64 n, .string s]] w fun e w' => e = .returned (.string s) ∧ Below w.heap.size w w' := by
  go_enter Tryz.func235, Tryz.ntmps235
  go_wp2
  go_ret
  exact ⟨rfl, (Below.refl _ _).alloc (Nat.le_refl _) _⟩
end Go.Proofs.YtdbdbaepmdmnfaaGreatDoor

