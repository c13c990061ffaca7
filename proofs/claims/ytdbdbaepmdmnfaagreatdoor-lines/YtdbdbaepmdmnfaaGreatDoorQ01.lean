import Derived.Test.YtdbdbaepmdmnfaaGreatDoorProg
import Derived.WalkKit
import Derived.WalkSpells
import Derived.WalkLawsBesides
import Derived.Deep.RegionWith
/- Plain functions on lists of bytes: blanks, leading numbers. Nothing of the program is imported. -/
namespace Go.Proofs.YtdbdbaepmdmnfaaGreatDoor
open Go.RowKit
def blankB (c : UInt8) : Bool := (c.toNat : Int) == 32 || (c.toNat : Int) == 9 || (c.toNat : Int) == 10
def digB (c : UInt8) : Bool := decide (48 ≤ c.toNat) && decide (c.toNat ≤ 57)
/-- The first place from k on where no byte of the kind p stands. -/
def runTo (p : UInt8 → Bool) (l : List UInt8) (k : Nat) : Nat := k + ((l.drop k).takeWhile p).length
theorem runTo_stop {p : UInt8 → Bool} {l : List UInt8} {k : Nat} (h : ∀ c, l[k]? = some c → p c = false) : runTo p l k = k := by
  unfold runTo
  cases hd : l.drop k with
  | nil => simp
  | cons c r =>
    have : l[k]? = some c := by
      have := congrArg (fun x => x[0]?) hd
      simpa using this
    simp [h c this]
theorem runTo_step {p : UInt8 → Bool} {l : List UInt8} {k : Nat} {c : UInt8} (h : l[k]? = some c) (hp : p c = true) : runTo p l (k + 1) = runTo p l k := by
  unfold runTo
  have hk : k < l.length := by
    by_cases hk : k < l.length
    · exact hk
    · rw [List.getElem?_eq_none (by omega)] at h; cases h
  have hc : l[k] = c := by rw [List.getElem?_eq_getElem hk] at h; exact Option.some.inj h
  rw [List.drop_eq_getElem_cons hk, List.takeWhile_cons, hc, hp]
  simp; omega
theorem runTo_ge (p : UInt8 → Bool) (l : List UInt8) (k : Nat) : k ≤ runTo p l k := by unfold runTo; omega
theorem runTo_le {p : UInt8 → Bool} {l : List UInt8} {k : Nat} (h : k ≤ l.length) : runTo p l k ≤ l.length := by
  unfold runTo
  have := List.takeWhile_prefix p (l := l.drop k) |>.length_le
  simp at this; omega
theorem get_of_lt (s : ByteArray) (k : Nat) (h : k < s.size) : s.data.toList[k]? = some s[k] := by
  rw [List.getElem?_eq_getElem (by simpa using h)]; rfl
theorem get_none (s : ByteArray) (k : Nat) (h : s.size ≤ k) : s.data.toList[k]? = none := by
  rw [List.getElem?_eq_none (by simpa using h)]
theorem len_eq (s : ByteArray) : s.data.toList.length = s.size := by rw [Array.length_toList]; rfl
def accD (n : Int) (c : UInt8) : Int := wrap64 (wrap64 (n * 10) + ((c.toNat : Int) - 48))
def numTo (l : List UInt8) (a b : Nat) : Int := ((l.drop a).take (b - a)).foldl accD 0
def isAt (l : List UInt8) (k : Nat) (c : Int) : Bool := match l[k]? with | some x => (x.toNat : Int) == c | none => false
def leadFirst (l : List UInt8) : Nat := if isAt l (runTo blankB l 0) 45 || isAt l (runTo blankB l 0) 43 then runTo blankB l 0 + 1 else runTo blankB l 0
def leadEnd (l : List UInt8) : Nat := runTo digB l (leadFirst l)
def leadNum (l : List UInt8) : Int := if isAt l (runTo blankB l 0) 45 then wrap64 (-(numTo l (leadFirst l) (leadEnd l))) else numTo l (leadFirst l) (leadEnd l)
def leadOk (l : List UInt8) : Bool := decide (leadFirst l < leadEnd l)
theorem numTo_self (l : List UInt8) (a : Nat) : numTo l a a = 0 := by simp [numTo]
theorem numTo_step {l : List UInt8} {a b : Nat} {c : UInt8} (h : l[b]? = some c) (hab : a ≤ b) : numTo l a (b + 1) = accD (numTo l a b) c := by
  unfold numTo
  have hb : b < l.length := by
    by_cases hk : b < l.length
    · exact hk
    · rw [List.getElem?_eq_none (by omega)] at h; cases h
  have hc : (l.drop a)[b - a]? = some c := by rw [List.getElem?_drop, show a + (b - a) = b by omega]; exact h
  rw [show b + 1 - a = (b - a) + 1 by omega, List.take_add_one, hc]
  simp
theorem leadFirst_le (l : List UInt8) : leadFirst l ≤ l.length := by
  have h := runTo_le (p := blankB) (l := l) (k := 0) (by omega)
  unfold leadFirst
  split
  · rename_i hh
    have : runTo blankB l 0 < l.length := by
      by_cases hk : runTo blankB l 0 < l.length
      · exact hk
      · simp [isAt, List.getElem?_eq_none (show l.length ≤ runTo blankB l 0 by omega)] at hh
    omega
  · exact h
theorem leadEnd_le (l : List UInt8) : leadEnd l ≤ l.length := runTo_le (leadFirst_le l)
def numeralB (l : List UInt8) : Bool := leadOk l && decide (runTo blankB l (leadEnd l) = l.length)
end Go.Proofs.YtdbdbaepmdmnfaaGreatDoor
namespace Go.Proofs.YtdbdbaepmdmnfaaGreatDoor
open Go.RowKit
theorem ret_bool {a b : Bool} (h : a = b) : Ending.returned (.bool a) = .returned (.bool b) := by rw [h]
theorem ret_int {k : IntKind} {a b : Int} (h : a = b) : Ending.returned (.int k a) = .returned (.int k b) := by rw [h]
theorem blankB_eq (c : UInt8) : blankB c = ((c.toNat : Int) == 32 || (c.toNat : Int) == 9 || (c.toNat : Int) == 10) := rfl
set_option maxHeartbeats 400000 in
theorem isBlank_any (c : UInt8) (w : World) :
    Calls Tryz.prog 51 #[.int .u8 c.toNat] w fun e w' => e = .returned (.bool (blankB c)) ∧ w' = w := by
  have hb := blankB_eq c
  have HB : Hid (blankB c = ((c.toNat : Int) == 32 || (c.toNat : Int) == 9 || (c.toNat : Int) == 10)) := hb
  clear hb
  go_enter Tryz.func51, Tryz.ntmps51
  go_wp2
  all_goals
    go_ret
    exact ⟨ret_bool (by rw [HB.out] <;> simp [*]), rfl⟩
set_option maxHeartbeats 400000 in
theorem skip_any (s : ByteArray) (k : Nat) (w : World) (hs : s.size ≤ maxLen) (hk : k ≤ s.size) :
    Calls Tryz.prog 233 #[.string s, .int .i64 k] w fun e w' => e = .returned (.int .i64 (runTo blankB s.data.toList k)) ∧ w' = w := by
  unfold maxLen at hs
  go_enter Tryz.func233, Tryz.ntmps233
  go_wp2
  go_loop [1] (fun i => ∃ j : Nat, j ≤ s.size ∧ i = .int .i64 j ∧ runTo blankB s.data.toList j = runTo blankB s.data.toList k) (fun i => s.size - (intOf i).toNat)
  case atStart => exact ⟨k, hk, rfl, rfl⟩
  case round =>
    obtain ⟨j, hj, rfl, hr⟩ := hrel
    have HR : Hid (runTo blankB s.data.toList j = runTo blankB s.data.toList k) := hr
    clear hr
    by_cases hlt : j < s.size
    · have hg := get_of_lt s j hlt
      have HG : Hid (s.data.toList[j]? = some s[j]) := hg
      clear hg
      cases hb : blankB s[j]
      · have HB : Hid (blankB s[j] = false) := hb
        clear hb
        go_wp2_with (go_at_call 51; refine (isBlank_any _ _).mono ?_; rintro e w' ⟨rfl, rfl⟩; rw [HB.out])
        go_ret
        refine ⟨ret_int ?_, rfl⟩
        rw [← HR.out, runTo_stop (fun c hc => ?_)]
        rw [HG.out] at hc; cases hc; exact HB.out
      · have HB : Hid (blankB s[j] = true) := hb
        clear hb
        go_wp2_with (go_at_call 51; refine (isBlank_any _ _).mono ?_; rintro e w' ⟨rfl, rfl⟩; rw [HB.out])
        go_round
        case rel => exact ⟨j + 1, by omega, by go_num, by rw [runTo_step HG.out HB.out]; exact HR.out⟩
        case measure => simp [intOf]; omega
    · go_wp2
      go_ret
      refine ⟨ret_int ?_, rfl⟩
      rw [← HR.out, runTo_stop (fun c hc => ?_)]
      rw [get_none s j (by omega)] at hc; cases hc
end Go.Proofs.YtdbdbaepmdmnfaaGreatDoor
namespace Go.Proofs.YtdbdbaepmdmnfaaGreatDoor
open Go.RowKit
theorem hide {p : Prop} (h : p) : Hid p := h
theorem ret3_lead {a a' b b' : Int} {c c' : Bool} (h1 : a = a') (h2 : b = b') (h3 : c = c') : Ending.returned (.tuple #[.int .i64 a, .int .i64 b, .bool c]) = .returned (.tuple #[.int .i64 a', .int .i64 b', .bool c']) := by rw [h1, h2, h3]
theorem isAt_lt (s : ByteArray) (a : Nat) (c : Int) (h : a < s.size) : isAt s.data.toList a c = ((s[a].toNat : Int) == c) := by
  unfold isAt; rw [get_of_lt s a h]
theorem isAt_ge (s : ByteArray) (a : Nat) (c : Int) (h : s.size ≤ a) : isAt s.data.toList a c = false := by
  unfold isAt; rw [get_none s a h]
theorem digB_iff (c : UInt8) : digB c = true ↔ 48 ≤ (c.toNat : Int) ∧ (c.toNat : Int) ≤ 57 := by
  unfold digB; simp; omega
set_option maxHeartbeats 1000000 in
theorem leading_minus (s : ByteArray) (w : World) (hs : s.size ≤ maxLen) (a : Nat) (HA : Hid (a = runTo blankB s.data.toList 0)) 
    (hlt : a < s.size) (h45 : ((s[a].toNat : Int) == 45) = true) :
    Calls Tryz.prog 165 #[.string s] w fun e w' => e = .returned (.tuple #[.int .i64 (leadNum s.data.toList), .int .i64 (leadEnd s.data.toList), .bool (leadOk s.data.toList)]) ∧ w' = w := by
  have hs' := hs
  unfold maxLen at hs
  have HF : Hid (leadFirst s.data.toList = a + 1) := by
    show leadFirst s.data.toList = a + 1
    unfold leadFirst; rw [← HA.out, isAt_lt s a _ hlt, h45]; rfl
  have HM : Hid (isAt s.data.toList (runTo blankB s.data.toList 0) 45 = true) := by
    show isAt s.data.toList (runTo blankB s.data.toList 0) 45 = true
    rw [← HA.out, isAt_lt s a _ hlt, h45]
  go_enter Tryz.func165, Tryz.ntmps165
  go_wp2_with (go_at_call 233; refine (skip_any s 0 _ hs' (by omega)).mono ?_; rintro e w' ⟨rfl, rfl⟩; rw [← HA.out])
  go_loop [5, 8] (fun i n => ∃ j : Nat, a + 1 ≤ j ∧ j ≤ s.size ∧ i = .int .i64 j ∧ n = .int .i64 (numTo s.data.toList (a + 1) j) ∧ runTo digB s.data.toList j = runTo digB s.data.toList (a + 1)) (fun i _ => s.size - (intOf i).toNat)
  case atStart => exact ⟨a + 1, by omega, by omega, by go_num, by rw [numTo_self], rfl⟩
  case round =>
    obtain ⟨j, hj0, hj, rfl, rfl, hr⟩ := hrel
    have HR : Hid (runTo digB s.data.toList j = runTo digB s.data.toList (a + 1)) := hr
    clear hr
    by_cases hl : j < s.size
    · have HG : Hid (s.data.toList[j]? = some s[j]) := get_of_lt s j hl
      by_cases hd : 48 ≤ (s[j].toNat : Int) ∧ (s[j].toNat : Int) ≤ 57
      · have HD : Hid (digB s[j] = true) := (digB_iff _).2 hd
        have HS : Hid (numTo s.data.toList (a + 1) (j + 1) = accD (numTo s.data.toList (a + 1) j) s[j]) := numTo_step HG.out hj0
        obtain ⟨hd1, hd2⟩ := hd
        generalize numTo s.data.toList (a + 1) j = n at *
        go_wp2
        go_round
        case rel => exact ⟨j + 1, by omega, by omega, by go_num, by rw [HS.out]; rfl, by rw [runTo_step HG.out HD.out]; exact HR.out⟩
        case measure => simp [intOf]; omega
      · have HD : Hid (digB s[j] = false) := by
          show digB s[j] = false
          cases h : digB s[j]
          · rfl
          · exact absurd ((digB_iff _).1 h) hd
        have HE : Hid (leadEnd s.data.toList = j) := by
          show leadEnd s.data.toList = j
          unfold leadEnd; rw [HF.out, ← HR.out, runTo_stop (fun c hc => ?_)]
          rw [HG.out] at hc; cases hc; exact HD.out
        by_cases hd1 : 48 ≤ (s[j].toNat : Int)
        · have hd2 : ¬ (s[j].toNat : Int) ≤ 57 := fun h => hd ⟨hd1, h⟩
          clear hd
          go_wp2
          go_ret3
          refine ⟨ret3_lead ?_ (by rw [HE.out]) ?_, rfl⟩
          · unfold leadNum; rw [HM.out]; simp only [if_true]; rw [HE.out]; rw [HF.out]
          · unfold leadOk; rw [HE.out, HF.out]; first | done | (simp <;> omega)
        · clear hd
          go_wp2
          go_ret3
          refine ⟨ret3_lead ?_ (by rw [HE.out]) ?_, rfl⟩
          · unfold leadNum; rw [HM.out]; simp only [if_true]; rw [HE.out]; rw [HF.out]
          · unfold leadOk; rw [HE.out, HF.out]; first | done | (simp <;> omega)
    · have HE : Hid (leadEnd s.data.toList = j) := by
        show leadEnd s.data.toList = j
        unfold leadEnd; rw [HF.out, ← HR.out, runTo_stop (fun c hc => ?_)]
        rw [get_none s j (by omega)] at hc; cases hc
      go_wp2
      go_ret3
      refine ⟨ret3_lead ?_ (by rw [HE.out]) ?_, rfl⟩
      · unfold leadNum; rw [HM.out]; simp only [if_true]; rw [HE.out]; rw [HF.out]
      · unfold leadOk; rw [HE.out, HF.out]; first | done | (simp <;> omega)
set_option maxHeartbeats 1000000 in
theorem leading_plus (s : ByteArray) (w : World) (hs : s.size ≤ maxLen) (a : Nat) (HA : Hid (a = runTo blankB s.data.toList 0)) 
    (hlt : a < s.size) (h45 : ((s[a].toNat : Int) == 45) = false) (h43 : ((s[a].toNat : Int) == 43) = true) :
    Calls Tryz.prog 165 #[.string s] w fun e w' => e = .returned (.tuple #[.int .i64 (leadNum s.data.toList), .int .i64 (leadEnd s.data.toList), .bool (leadOk s.data.toList)]) ∧ w' = w := by
  have hs' := hs
  unfold maxLen at hs
  have HF : Hid (leadFirst s.data.toList = a + 1) := by
    show leadFirst s.data.toList = a + 1
    unfold leadFirst; rw [← HA.out, isAt_lt s a _ hlt, isAt_lt s a _ hlt, h45, h43]; rfl
  have HM : Hid (isAt s.data.toList (runTo blankB s.data.toList 0) 45 = false) := by
    show isAt s.data.toList (runTo blankB s.data.toList 0) 45 = false
    rw [← HA.out, isAt_lt s a _ hlt, h45]
  go_enter Tryz.func165, Tryz.ntmps165
  go_wp2_with (go_at_call 233; refine (skip_any s 0 _ hs' (by omega)).mono ?_; rintro e w' ⟨rfl, rfl⟩; rw [← HA.out])
  go_loop [5, 8] (fun i n => ∃ j : Nat, a + 1 ≤ j ∧ j ≤ s.size ∧ i = .int .i64 j ∧ n = .int .i64 (numTo s.data.toList (a + 1) j) ∧ runTo digB s.data.toList j = runTo digB s.data.toList (a + 1)) (fun i _ => s.size - (intOf i).toNat)
  case atStart => exact ⟨a + 1, by omega, by omega, by go_num, by rw [numTo_self], rfl⟩
  case round =>
    obtain ⟨j, hj0, hj, rfl, rfl, hr⟩ := hrel
    have HR : Hid (runTo digB s.data.toList j = runTo digB s.data.toList (a + 1)) := hr
    clear hr
    by_cases hl : j < s.size
    · have HG : Hid (s.data.toList[j]? = some s[j]) := get_of_lt s j hl
      by_cases hd : 48 ≤ (s[j].toNat : Int) ∧ (s[j].toNat : Int) ≤ 57
      · have HD : Hid (digB s[j] = true) := (digB_iff _).2 hd
        have HS : Hid (numTo s.data.toList (a + 1) (j + 1) = accD (numTo s.data.toList (a + 1) j) s[j]) := numTo_step HG.out hj0
        obtain ⟨hd1, hd2⟩ := hd
        generalize numTo s.data.toList (a + 1) j = n at *
        go_wp2
        go_round
        case rel => exact ⟨j + 1, by omega, by omega, by go_num, by rw [HS.out]; rfl, by rw [runTo_step HG.out HD.out]; exact HR.out⟩
        case measure => simp [intOf]; omega
      · have HD : Hid (digB s[j] = false) := by
          show digB s[j] = false
          cases h : digB s[j]
          · rfl
          · exact absurd ((digB_iff _).1 h) hd
        have HE : Hid (leadEnd s.data.toList = j) := by
          show leadEnd s.data.toList = j
          unfold leadEnd; rw [HF.out, ← HR.out, runTo_stop (fun c hc => ?_)]
          rw [HG.out] at hc; cases hc; exact HD.out
        by_cases hd1 : 48 ≤ (s[j].toNat : Int)
        · have hd2 : ¬ (s[j].toNat : Int) ≤ 57 := fun h => hd ⟨hd1, h⟩
          clear hd
          go_wp2
          go_ret3
          refine ⟨ret3_lead ?_ (by rw [HE.out]) ?_, rfl⟩
          · unfold leadNum; rw [HM.out]; simp only [Bool.false_eq_true, if_false]; rw [HE.out]; rw [HF.out]
          · unfold leadOk; rw [HE.out, HF.out]; first | done | (simp <;> omega)
        · clear hd
          go_wp2
          go_ret3
          refine ⟨ret3_lead ?_ (by rw [HE.out]) ?_, rfl⟩
          · unfold leadNum; rw [HM.out]; simp only [Bool.false_eq_true, if_false]; rw [HE.out]; rw [HF.out]
          · unfold leadOk; rw [HE.out, HF.out]; first | done | (simp <;> omega)
    · have HE : Hid (leadEnd s.data.toList = j) := by
        show leadEnd s.data.toList = j
        unfold leadEnd; rw [HF.out, ← HR.out, runTo_stop (fun c hc => ?_)]
        rw [get_none s j (by omega)] at hc; cases hc
      go_wp2
      go_ret3
      refine ⟨ret3_lead ?_ (by rw [HE.out]) ?_, rfl⟩
      · unfold leadNum; rw [HM.out]; simp only [Bool.false_eq_true, if_false]; rw [HE.out]; rw [HF.out]
      · unfold leadOk; rw [HE.out, HF.out]; first | done | (simp <;> omega)
set_option maxHeartbeats 1000000 in
theorem leading_none (s : ByteArray) (w : World) (hs : s.size ≤ maxLen) (a : Nat) (HA : Hid (a = runTo blankB s.data.toList 0)) 
    (hlt : a < s.size) (h45 : ((s[a].toNat : Int) == 45) = false) (h43 : ((s[a].toNat : Int) == 43) = false) :
    Calls Tryz.prog 165 #[.string s] w fun e w' => e = .returned (.tuple #[.int .i64 (leadNum s.data.toList), .int .i64 (leadEnd s.data.toList), .bool (leadOk s.data.toList)]) ∧ w' = w := by
  have hs' := hs
  unfold maxLen at hs
  have HF : Hid (leadFirst s.data.toList = a) := by
    show leadFirst s.data.toList = a
    unfold leadFirst; rw [← HA.out, isAt_lt s a _ hlt, isAt_lt s a _ hlt, h45, h43]; rfl
  have HM : Hid (isAt s.data.toList (runTo blankB s.data.toList 0) 45 = false) := by
    show isAt s.data.toList (runTo blankB s.data.toList 0) 45 = false
    rw [← HA.out, isAt_lt s a _ hlt, h45]
  go_enter Tryz.func165, Tryz.ntmps165
  go_wp2_with (go_at_call 233; refine (skip_any s 0 _ hs' (by omega)).mono ?_; rintro e w' ⟨rfl, rfl⟩; rw [← HA.out])
  go_loop [5, 8] (fun i n => ∃ j : Nat, a ≤ j ∧ j ≤ s.size ∧ i = .int .i64 j ∧ n = .int .i64 (numTo s.data.toList (a) j) ∧ runTo digB s.data.toList j = runTo digB s.data.toList (a)) (fun i _ => s.size - (intOf i).toNat)
  case atStart => exact ⟨a, by omega, by omega, by go_num, by rw [numTo_self], rfl⟩
  case round =>
    obtain ⟨j, hj0, hj, rfl, rfl, hr⟩ := hrel
    have HR : Hid (runTo digB s.data.toList j = runTo digB s.data.toList (a)) := hr
    clear hr
    by_cases hl : j < s.size
    · have HG : Hid (s.data.toList[j]? = some s[j]) := get_of_lt s j hl
      by_cases hd : 48 ≤ (s[j].toNat : Int) ∧ (s[j].toNat : Int) ≤ 57
      · have HD : Hid (digB s[j] = true) := (digB_iff _).2 hd
        have HS : Hid (numTo s.data.toList (a) (j + 1) = accD (numTo s.data.toList (a) j) s[j]) := numTo_step HG.out hj0
        obtain ⟨hd1, hd2⟩ := hd
        generalize numTo s.data.toList (a) j = n at *
        go_wp2
        go_round
        case rel => exact ⟨j + 1, by omega, by omega, by go_num, by rw [HS.out]; rfl, by rw [runTo_step HG.out HD.out]; exact HR.out⟩
        case measure => simp [intOf]; omega
      · have HD : Hid (digB s[j] = false) := by
          show digB s[j] = false
          cases h : digB s[j]
          · rfl
          · exact absurd ((digB_iff _).1 h) hd
        have HE : Hid (leadEnd s.data.toList = j) := by
          show leadEnd s.data.toList = j
          unfold leadEnd; rw [HF.out, ← HR.out, runTo_stop (fun c hc => ?_)]
          rw [HG.out] at hc; cases hc; exact HD.out
        by_cases hd1 : 48 ≤ (s[j].toNat : Int)
        · have hd2 : ¬ (s[j].toNat : Int) ≤ 57 := fun h => hd ⟨hd1, h⟩
          clear hd
          go_wp2
          go_ret3
          refine ⟨ret3_lead ?_ (by rw [HE.out]) ?_, rfl⟩
          · unfold leadNum; rw [HM.out]; simp only [Bool.false_eq_true, if_false]; rw [HE.out]; rw [HF.out]
          · unfold leadOk; rw [HE.out, HF.out]; first | done | (simp <;> omega)
        · clear hd
          go_wp2
          go_ret3
          refine ⟨ret3_lead ?_ (by rw [HE.out]) ?_, rfl⟩
          · unfold leadNum; rw [HM.out]; simp only [Bool.false_eq_true, if_false]; rw [HE.out]; rw [HF.out]
          · unfold leadOk; rw [HE.out, HF.out]; first | done | (simp <;> omega)
    · have HE : Hid (leadEnd s.data.toList = j) := by
        show leadEnd s.data.toList = j
        unfold leadEnd; rw [HF.out, ← HR.out, runTo_stop (fun c hc => ?_)]
        rw [get_none s j (by omega)] at hc; cases hc
      go_wp2
      go_ret3
      refine ⟨ret3_lead ?_ (by rw [HE.out]) ?_, rfl⟩
      · unfold leadNum; rw [HM.out]; simp only [Bool.false_eq_true, if_false]; rw [HE.out]; rw [HF.out]
      · unfold leadOk; rw [HE.out, HF.out]; first | done | (simp <;> omega)
set_option maxHeartbeats 1000000 in
theorem leading_end (s : ByteArray) (w : World) (hs : s.size ≤ maxLen) (a : Nat) (HA : Hid (a = runTo blankB s.data.toList 0)) (ha2 : a ≤ s.size)
    (hlt : ¬ a < s.size) :
    Calls Tryz.prog 165 #[.string s] w fun e w' => e = .returned (.tuple #[.int .i64 (leadNum s.data.toList), .int .i64 (leadEnd s.data.toList), .bool (leadOk s.data.toList)]) ∧ w' = w := by
  have hs' := hs
  unfold maxLen at hs
  have HF : Hid (leadFirst s.data.toList = a) := by
    show leadFirst s.data.toList = a
    unfold leadFirst; rw [← HA.out, isAt_ge s a _ (by omega), isAt_ge s a _ (by omega)]; rfl
  have HM : Hid (isAt s.data.toList (runTo blankB s.data.toList 0) 45 = false) := by
    show isAt s.data.toList (runTo blankB s.data.toList 0) 45 = false
    rw [← HA.out, isAt_ge s a _ (by omega)]
  go_enter Tryz.func165, Tryz.ntmps165
  go_wp2_with (go_at_call 233; refine (skip_any s 0 _ hs' (by omega)).mono ?_; rintro e w' ⟨rfl, rfl⟩; rw [← HA.out])
  go_loop [5, 8] (fun i n => ∃ j : Nat, a ≤ j ∧ j ≤ s.size ∧ i = .int .i64 j ∧ n = .int .i64 (numTo s.data.toList (a) j) ∧ runTo digB s.data.toList j = runTo digB s.data.toList (a)) (fun i _ => s.size - (intOf i).toNat)
  case atStart => exact ⟨a, by omega, by omega, by go_num, by rw [numTo_self], rfl⟩
  case round =>
    obtain ⟨j, hj0, hj, rfl, rfl, hr⟩ := hrel
    have HR : Hid (runTo digB s.data.toList j = runTo digB s.data.toList (a)) := hr
    clear hr
    by_cases hl : j < s.size
    · exfalso; omega
    · have HE : Hid (leadEnd s.data.toList = j) := by
        show leadEnd s.data.toList = j
        unfold leadEnd; rw [HF.out, ← HR.out, runTo_stop (fun c hc => ?_)]
        rw [get_none s j (by omega)] at hc; cases hc
      go_wp2
      go_ret3
      refine ⟨ret3_lead ?_ (by rw [HE.out]) ?_, rfl⟩
      · unfold leadNum; rw [HM.out]; simp only [Bool.false_eq_true, if_false]; rw [HE.out]; rw [HF.out]
      · unfold leadOk; rw [HE.out, HF.out]; first | done | (simp <;> omega)
theorem leading_any (s : ByteArray) (w : World) (hs : s.size ≤ maxLen) :
    Calls Tryz.prog 165 #[.string s] w fun e w' => e = .returned (.tuple #[.int .i64 (leadNum s.data.toList), .int .i64 (leadEnd s.data.toList), .bool (leadOk s.data.toList)]) ∧ w' = w := by
  have ha2 : runTo blankB s.data.toList 0 ≤ s.size := by rw [← len_eq]; exact runTo_le (by omega)
  by_cases hlt : runTo blankB s.data.toList 0 < s.size
  · cases h45 : ((s[runTo blankB s.data.toList 0].toNat : Int) == 45)
    · cases h43 : ((s[runTo blankB s.data.toList 0].toNat : Int) == 43)
      · exact leading_none s w hs _ (hide rfl) hlt h45 h43
      · exact leading_plus s w hs _ (hide rfl) hlt h45 h43
    · exact leading_minus s w hs _ (hide rfl) hlt h45
  · exact leading_end s w hs _ (hide rfl) ha2 hlt
end Go.Proofs.YtdbdbaepmdmnfaaGreatDoor
namespace Go.Proofs.YtdbdbaepmdmnfaaGreatDoor
open Go.RowKit
set_option maxHeartbeats 400000 in
theorem read_text (s : ByteArray) (w : World) (hs : s.size ≤ maxLen) (hn : numeralB s.data.toList = false) :
    Calls Tryz.prog 400 #[.string s] w fun e w' => e = .returned (.agg #[.int .i64 2, .int .i64 0, .string s]) ∧ Below w.heap.size w w' := by
  have hs' := hs
  unfold maxLen at hs
  have hle := leadEnd_le s.data.toList
  rw [len_eq] at hle
  cases h1 : leadOk s.data.toList
  · have H1 := hide h1
    clear h1
    go_enter Tryz.func400, Tryz.ntmps400
    go_wp2_with (first | (go_at_call 165; refine (leading_any s _ hs').mono ?_; rintro e w' ⟨rfl, rfl⟩; rw [H1.out]))
    exact bodyPost_ret (v := .agg #[.int .i64 2, .int .i64 0, .string s]) (by simp [results, Tryz.results400, go_sem]) rfl ⟨rfl, (Below.refl _ _).alloc (Nat.le_refl _) _⟩
  · simp [numeralB, h1] at hn
    have H1 := hide h1
    clear h1
    have h2 : ((runTo blankB s.data.toList (leadEnd s.data.toList) : Int) == s.size) = false := by
      rw [beq_eq_false_iff_ne]; omega
    clear hn
    go_enter Tryz.func400, Tryz.ntmps400
    go_wp2_with (first | (go_at_call 165; refine (leading_any s _ hs').mono ?_; rintro e w' ⟨rfl, rfl⟩; rw [H1.out]) | (go_at_call 233; refine (skip_any s _ _ hs' hle).mono ?_; rintro e w' ⟨rfl, rfl⟩))
    exact bodyPost_ret (v := .agg #[.int .i64 2, .int .i64 0, .string s]) (by simp [results, Tryz.results400, go_sem]) rfl ⟨rfl, (Below.refl _ _).alloc (Nat.le_refl _) _⟩
-- A value of package value: nothing (0), a number (1), a text (2), a numeral (3).
set_option maxHeartbeats 400000 in
theorem number_else (k n : Int) (s : ByteArray) (w : World) (hk : (k == 2) = false) :
    Calls Tryz.prog 131 #[.agg #[.int .i64 k, .int .i64 n, .string s]] w fun e w' => e = .returned (.int .i64 n) ∧ Below w.heap.size w w' := by
  go_enter Tryz.func131, Tryz.ntmps131
  go_wp2
  go_ret
  exact ⟨rfl, (Below.refl _ _).alloc (Nat.le_refl _) _⟩
set_option maxHeartbeats 400000 in
theorem text_any (k n : Int) (s : ByteArray) (w : World) (hk : (k == 1) = false) :
    Calls Tryz.prog 235 #[.agg #[.int .i64 k, .int .i64 n, .string s]] w fun e w' => e = .returned (.string s) ∧ Below w.heap.size w w' := by
  go_enter Tryz.func235, Tryz.ntmps235
  go_wp2
  go_ret
  exact ⟨rfl, (Below.refl _ _).alloc (Nat.le_refl _) _⟩
end Go.Proofs.YtdbdbaepmdmnfaaGreatDoor
namespace Go.Proofs.YtdbdbaepmdmnfaaGreatDoor
open Go.RowKit
end Go.Proofs.YtdbdbaepmdmnfaaGreatDoor
namespace Go.Proofs.YtdbdbaepmdmnfaaGreatDoor
open Go.RowKit
end Go.Proofs.YtdbdbaepmdmnfaaGreatDoor
/- Plain functions on lists of bytes: an item of a format. Nothing of the program is imported. -/
namespace Go.Proofs.YtdbdbaepmdmnfaaGreatDoor
open Go.RowKit
end Go.Proofs.YtdbdbaepmdmnfaaGreatDoor
namespace Go.Proofs.YtdbdbaepmdmnfaaGreatDoor
open Go.RowKit
end Go.Proofs.YtdbdbaepmdmnfaaGreatDoor
namespace Go.Proofs.YtdbdbaepmdmnfaaGreatDoor
open Go.RowKit
end Go.Proofs.YtdbdbaepmdmnfaaGreatDoor
/- A machine of states over a text, gone through from an end back to a beginning: its ways, and what each part of a pattern makes of it. Nothing of the program is imported. -/
namespace Go.Proofs.YtdbdbaepmdmnfaaGreatDoor
/-- A state: 0 takes a byte of the set, 1 wants the beginning, 2 the end, 3 forks, 4 ends. -/
structure St where
  kind : Nat
  set : UInt8 → Bool
  next : Nat
  other : Nat
def Step (Q : List St) (t : List UInt8) (q i q' i' : Nat) : Prop :=
  ∃ s, Q[q]? = some s ∧ (
    (s.kind = 0 ∧ ∃ c, t[i']? = some c ∧ s.set c = true ∧ q' = s.next ∧ i = i' + 1) ∨
    (s.kind = 1 ∧ i = 0 ∧ q' = s.next ∧ i' = i) ∨
    (s.kind = 2 ∧ i = t.length ∧ q' = s.next ∧ i' = i) ∨
    (s.kind = 3 ∧ (q' = s.next ∨ q' = s.other) ∧ i' = i))
def Steps (Q : List St) (t : List UInt8) : Nat → Nat → Nat → Nat → Nat → Prop
  | 0, q, i, q', i' => q' = q ∧ i' = i
  | n + 1, q, i, q', i' => ∃ r j, Step Q t q i r j ∧ Steps Q t n r j q' i'
def Done (Q : List St) (q : Nat) : Prop := ∃ s, Q[q]? = some s ∧ s.kind = 4
def AccN (Q : List St) (t : List UInt8) (n q i e : Nat) : Prop := ∃ d, Steps Q t n q i d e ∧ Done Q d
def Acc (Q : List St) (t : List UInt8) (q i e : Nat) : Prop := ∃ n, AccN Q t n q i e
theorem Steps.trans {Q t n m q i r j q' i'} (h : Steps Q t n q i r j) (h2 : Steps Q t m r j q' i') : Steps Q t (n + m) q i q' i' := by
  induction n generalizing q i with
  | zero => obtain ⟨rfl, rfl⟩ := h; simpa using h2
  | succ n ih =>
    obtain ⟨r1, j1, s1, h1⟩ := h
    rw [show n + 1 + m = (n + m) + 1 by omega]
    exact ⟨r1, j1, s1, ih h1⟩
theorem Steps.one {Q t q i q' i'} (h : Step Q t q i q' i') : Steps Q t 1 q i q' i' := ⟨q', i', h, rfl, rfl⟩
theorem Step.le {Q t q i q' i'} (h : Step Q t q i q' i') : i' ≤ i ∧ i ≤ i' + 1 := by
  obtain ⟨s, _, h | h | h | h⟩ := h
  · obtain ⟨_, c, _, _, _, rfl⟩ := h; omega
  · omega
  · omega
  · omega
theorem Steps.le {Q t n q i q' i'} (h : Steps Q t n q i q' i') : i' ≤ i := by
  induction n generalizing q i with
  | zero => obtain ⟨_, rfl⟩ := h; omega
  | succ n ih => obtain ⟨r, j, s1, h1⟩ := h; have := ih h1; have := s1.le; omega
theorem Acc.le {Q t q i e} (h : Acc Q t q i e) : e ≤ i := by obtain ⟨n, d, h, _⟩ := h; exact h.le
theorem AccN.step {Q t n q i e q' i'} (h : Step Q t q i q' i') (h2 : AccN Q t n q' i' e) : AccN Q t (n + 1) q i e := by
  obtain ⟨d, hs, hd⟩ := h2; exact ⟨d, ⟨q', i', h, hs⟩, hd⟩
theorem Acc.step {Q t q i e q' i'} (h : Step Q t q i q' i') (h2 : Acc Q t q' i' e) : Acc Q t q i e := by
  obtain ⟨n, h2⟩ := h2; exact ⟨n + 1, h2.step h⟩
/-- From state b on, back: R, and then as from next on. -/
def Built (Q : List St) (t : List UInt8) (b next : Nat) (R : Nat → Nat → Prop) : Prop :=
  (∀ n i e, AccN Q t n b i e → ∃ j m, m ≤ n ∧ R j i ∧ AccN Q t m next j e) ∧ (∀ i j e, R j i → Acc Q t next j e → Acc Q t b i e)
def byteR (S : UInt8 → Bool) (t : List UInt8) (i j : Nat) : Prop := j = i + 1 ∧ ∃ c, t[i]? = some c ∧ S c = true
def beginR (_ : List UInt8) (i j : Nat) : Prop := i = 0 ∧ j = i
def endR (t : List UInt8) (i j : Nat) : Prop := i = t.length ∧ j = i
def emptyR (_ : List UInt8) (i j : Nat) : Prop := j = i
def compR (R S : List UInt8 → Nat → Nat → Prop) (t : List UInt8) (i j : Nat) : Prop := ∃ k, R t i k ∧ S t k j
def orR (R S : List UInt8 → Nat → Nat → Prop) (t : List UInt8) (i j : Nat) : Prop := R t i j ∨ S t i j
def iterR (R : Nat → Nat → Prop) : Nat → Nat → Nat → Prop
  | 0, i, j => j = i
  | n + 1, i, j => ∃ k, R i k ∧ iterR R n k j
def starR (R : List UInt8 → Nat → Nat → Prop) (t : List UInt8) (i j : Nat) : Prop := ∃ n, iterR (R t) n i j
def plusR (R : List UInt8 → Nat → Nat → Prop) (t : List UInt8) (i j : Nat) : Prop := ∃ k, R t i k ∧ starR R t k j
def optR (R : List UInt8 → Nat → Nat → Prop) (t : List UInt8) (i j : Nat) : Prop := j = i ∨ R t i j
def rowR : List (List UInt8 → Nat → Nat → Prop) → List UInt8 → Nat → Nat → Prop
  | [] => emptyR
  | R :: l => compR R (rowR l)
def altR : List (List UInt8 → Nat → Nat → Prop) → List UInt8 → Nat → Nat → Prop
  | [] => fun _ _ _ => False
  | R :: l => orR R (altR l)
theorem built_nil (Q t b) : Built Q t b b (emptyR t) := ⟨fun n i e h => ⟨i, n, Nat.le_refl _, rfl, h⟩, fun i j e h h2 => by cases h; exact h2⟩
theorem Built.comp {Q t a m b} {R S : List UInt8 → Nat → Nat → Prop} (h1 : Built Q t a m (S t)) (h2 : Built Q t m b (R t)) : Built Q t a b (compR R S t) := by
  refine ⟨fun n i e h => ?_, fun i j e ⟨k, hr, hs⟩ h => h1.2 i k e hs (h2.2 k j e hr h)⟩
  obtain ⟨j, m1, hm1, hr, h⟩ := h1.1 n i e h
  obtain ⟨k, m2, hm2, hs, h⟩ := h2.1 m1 j e h
  exact ⟨k, m2, by omega, ⟨j, hs, hr⟩, h⟩
theorem accN_zero {Q t q i e} (h : AccN Q t 0 q i e) : Done Q q ∧ e = i := by
  obtain ⟨d, ⟨rfl, rfl⟩, hd⟩ := h; exact ⟨hd, rfl⟩
theorem accN_cases {Q t n q i e} {s : St} (hq : Q[q]? = some s) (hk : s.kind ≠ 4) (h : AccN Q t n q i e) : ∃ m r j, n = m + 1 ∧ Step Q t q i r j ∧ AccN Q t m r j e := by
  cases n with
  | zero => obtain ⟨⟨s', hs', hk'⟩, _⟩ := accN_zero h; rw [hq] at hs'; cases hs'; exact absurd hk' hk
  | succ m => obtain ⟨d, ⟨r, j, h1, h2⟩, hd⟩ := h; exact ⟨m, r, j, rfl, h1, d, h2, hd⟩
theorem built_byte {Q t b next S x} (hq : Q[b]? = some ⟨0, S, next, x⟩) : Built Q t b next (byteR S t) := by
  refine ⟨fun n i e h => ?_, fun i j e ⟨hj, c, hc, hS⟩ h => ?_⟩
  · obtain ⟨m, r, j, rfl, ⟨s, hs, hh⟩, h2⟩ := accN_cases hq (by simp) h
    rw [hq] at hs; cases hs
    rcases hh with ⟨_, c, hc, hS, rfl, rfl⟩ | ⟨h, _⟩ | ⟨h, _⟩ | ⟨h, _⟩
    · exact ⟨j, m, by omega, ⟨rfl, c, hc, hS⟩, h2⟩
    all_goals exact absurd h (by simp)
  · subst hj
    exact h.step ⟨_, hq, Or.inl ⟨rfl, c, hc, hS, rfl, rfl⟩⟩
theorem built_begin {Q t b next S x} (hq : Q[b]? = some ⟨1, S, next, x⟩) : Built Q t b next (beginR t) := by
  refine ⟨fun n i e h => ?_, fun i j e ⟨hi, hj⟩ h => ?_⟩
  · obtain ⟨m, r, j, rfl, ⟨s, hs, hh⟩, h2⟩ := accN_cases hq (by simp) h
    rw [hq] at hs; cases hs
    rcases hh with ⟨h, _⟩ | ⟨_, rfl, rfl, rfl⟩ | ⟨h, _⟩ | ⟨h, _⟩
    · exact absurd h (by simp)
    · exact ⟨0, m, by omega, ⟨rfl, rfl⟩, h2⟩
    all_goals exact absurd h (by simp)
  · subst hj hi
    exact h.step ⟨_, hq, Or.inr (Or.inl ⟨rfl, rfl, rfl, rfl⟩)⟩
theorem built_end {Q t b next S x} (hq : Q[b]? = some ⟨2, S, next, x⟩) : Built Q t b next (endR t) := by
  refine ⟨fun n i e h => ?_, fun i j e ⟨hi, hj⟩ h => ?_⟩
  · obtain ⟨m, r, j, rfl, ⟨s, hs, hh⟩, h2⟩ := accN_cases hq (by simp) h
    rw [hq] at hs; cases hs
    rcases hh with ⟨h, _⟩ | ⟨h, _⟩ | ⟨_, rfl, rfl, rfl⟩ | ⟨h, _⟩
    · exact absurd h (by simp)
    · exact absurd h (by simp)
    · exact ⟨_, m, by omega, ⟨rfl, rfl⟩, h2⟩
    · exact absurd h (by simp)
  · subst hj hi
    exact h.step ⟨_, hq, Or.inr (Or.inr (Or.inl ⟨rfl, rfl, rfl, rfl⟩))⟩
theorem step_fork {Q t b S x y i} (hq : Q[b]? = some ⟨3, S, x, y⟩) : Step Q t b i x i ∧ Step Q t b i y i :=
  ⟨⟨_, hq, Or.inr (Or.inr (Or.inr ⟨rfl, Or.inl rfl, rfl⟩))⟩, ⟨_, hq, Or.inr (Or.inr (Or.inr ⟨rfl, Or.inr rfl, rfl⟩))⟩⟩
theorem accN_fork {Q t n b S x y i e} (hq : Q[b]? = some ⟨3, S, x, y⟩) (h : AccN Q t n b i e) : ∃ m, n = m + 1 ∧ (AccN Q t m x i e ∨ AccN Q t m y i e) := by
  obtain ⟨m, r, j, rfl, ⟨s, hs, hh⟩, h2⟩ := accN_cases hq (by simp) h
  rw [hq] at hs; cases hs
  rcases hh with ⟨h, _⟩ | ⟨h, _⟩ | ⟨h, _⟩ | ⟨_, hr, rfl⟩
  · exact absurd h (by simp)
  · exact absurd h (by simp)
  · exact absurd h (by simp)
  · rcases hr with rfl | rfl
    · exact ⟨m, rfl, Or.inl h2⟩
    · exact ⟨m, rfl, Or.inr h2⟩
theorem built_or {Q t b next S x y} {R1 R2 : List UInt8 → Nat → Nat → Prop} (hq : Q[b]? = some ⟨3, S, x, y⟩) (h1 : Built Q t x next (R1 t)) (h2 : Built Q t y next (R2 t)) : Built Q t b next (orR R1 R2 t) := by
  refine ⟨fun n i e h => ?_, fun i j e hr h => ?_⟩
  · obtain ⟨m, rfl, h | h⟩ := accN_fork hq h
    · obtain ⟨j, k, hk, hr, h⟩ := h1.1 m i e h; exact ⟨j, k, by omega, Or.inl hr, h⟩
    · obtain ⟨j, k, hk, hr, h⟩ := h2.1 m i e h; exact ⟨j, k, by omega, Or.inr hr, h⟩
  · rcases hr with hr | hr
    · exact (h1.2 i j e hr h).step (step_fork hq).1
    · exact (h2.2 i j e hr h).step (step_fork hq).2
theorem built_opt {Q t b next S x} {R : List UInt8 → Nat → Nat → Prop} (hq : Q[b]? = some ⟨3, S, x, next⟩) (h1 : Built Q t x next (R t)) : Built Q t b next (optR R t) := by
  have h := built_or (R1 := R) (R2 := emptyR) hq h1 (built_nil Q t next)
  have he : orR R emptyR t = optR R t := by funext i j; exact propext or_comm
  rwa [he] at h
theorem iterR_snoc {R : Nat → Nat → Prop} {m k j l} (h : iterR R m k j) (h2 : R j l) : iterR R (m + 1) k l := by
  induction m generalizing k with
  | zero => cases h; exact ⟨l, h2, rfl⟩
  | succ m ih => obtain ⟨a, h3, h4⟩ := h; exact ⟨a, h3, ih h4⟩
theorem iterR_last {R : Nat → Nat → Prop} {m k l} (h : iterR R (m + 1) k l) : ∃ j, iterR R m k j ∧ R j l := by
  induction m generalizing k with
  | zero => obtain ⟨a, h3, h4⟩ := h; cases h4; exact ⟨k, rfl, h3⟩
  | succ m ih => obtain ⟨a, h3, h4⟩ := h; obtain ⟨j, h5, h6⟩ := ih h4; exact ⟨j, ⟨a, h3, h5⟩, h6⟩
theorem built_loop {Q t l next S b} {R : List UInt8 → Nat → Nat → Prop} (hq : Q[l]? = some ⟨3, S, b, next⟩) (h1 : Built Q t b l (R t)) : Built Q t l next (starR R t) := by
  refine ⟨fun n => ?_, fun i j e ⟨n, hr⟩ h => ?_⟩
  · induction n using Nat.strongRecOn with
    | ind n ih =>
      intro i e h
      obtain ⟨m, rfl, h | h⟩ := accN_fork hq h
      · obtain ⟨j, k, hk, hr, h⟩ := h1.1 m i e h
        obtain ⟨j2, k2, hk2, ⟨c, hc⟩, h⟩ := ih k (by omega) j e h
        exact ⟨j2, k2, by omega, ⟨c + 1, iterR_snoc hc hr⟩, h⟩
      · exact ⟨i, m, by omega, ⟨0, rfl⟩, h⟩
  · have H : ∀ n i, iterR (R t) n j i → Acc Q t l i e := by
      intro n
      induction n with
      | zero => intro i hr; cases hr; exact h.step (step_fork hq).2
      | succ n ih =>
        intro i hr
        obtain ⟨k, hn, hr⟩ := iterR_last hr
        exact (h1.2 i k e hr (ih k hn)).step (step_fork hq).1
    exact H n i hr
theorem star_swap {R : List UInt8 → Nat → Nat → Prop} {t i j} : compR (starR R) R t i j ↔ plusR R t i j := by
  constructor
  · rintro ⟨k, ⟨n, hn⟩, hr⟩
    obtain ⟨a, h1, h2⟩ := iterR_snoc hn hr
    exact ⟨a, h1, n, h2⟩
  · rintro ⟨k, hr, n, hn⟩
    obtain ⟨a, h1, h2⟩ := iterR_last (R := R t) (m := n) (k := i) (l := j) ⟨k, hr, hn⟩
    exact ⟨a, ⟨n, h1⟩, h2⟩
theorem Built.congr {Q t b next} {R S : Nat → Nat → Prop} (h : Built Q t b next R) (e : ∀ i j, R i j ↔ S i j) : Built Q t b next S :=
  ⟨fun n i x hx => by obtain ⟨j, m, h1, h2, h3⟩ := h.1 n i x hx; exact ⟨j, m, h1, (e j i).1 h2, h3⟩, fun i j x hr hx => h.2 i j x ((e j i).2 hr) hx⟩
theorem built_plus {Q t l next S b} {R : List UInt8 → Nat → Nat → Prop} (hq : Q[l]? = some ⟨3, S, b, next⟩) (h1 : Built Q t b l (R t)) : Built Q t b next (plusR R t) :=
  (Built.comp (R := starR R) (S := R) h1 (built_loop hq h1)).congr (fun _ _ => star_swap)
theorem rowR_append (l : List (List UInt8 → Nat → Nat → Prop)) (R) : rowR (l ++ [R]) = compR (rowR l) R := by
  induction l with
  | nil =>
    funext t i j
    refine propext ⟨fun ⟨k, h1, h2⟩ => ?_, fun ⟨k, h1, h2⟩ => ?_⟩
    · cases h2; exact ⟨i, rfl, h1⟩
    · cases h1; exact ⟨j, h2, rfl⟩
  | cons A l ih =>
    funext t i j
    rw [List.cons_append]
    refine propext ⟨fun ⟨k, h1, h2⟩ => ?_, fun ⟨k, ⟨m, h1, h2⟩, h3⟩ => ?_⟩
    · rw [ih] at h2
      obtain ⟨m, h2, h3⟩ := h2
      exact ⟨m, ⟨k, h1, h2⟩, h3⟩
    · refine ⟨m, h1, ?_⟩
      rw [ih]
      exact ⟨k, h2, h3⟩
theorem altR_append (l : List (List UInt8 → Nat → Nat → Prop)) (R) : altR (l ++ [R]) = orR (altR l) R := by
  induction l with
  | nil =>
    funext t i j
    exact propext ⟨fun h => h.elim Or.inr (fun h => h.elim), fun h => h.elim (fun h => h.elim) Or.inl⟩
  | cons A l ih =>
    funext t i j
    rw [List.cons_append]
    show (A t i j ∨ altR (l ++ [R]) t i j) = ((A t i j ∨ altR l t i j) ∨ R t i j)
    rw [ih]
    exact propext ⟨fun h => h.elim (fun h => Or.inl (Or.inl h)) (fun h => h.elim (fun h => Or.inl (Or.inr h)) Or.inr), fun h => h.elim (fun h => h.elim Or.inl (fun h => Or.inr (Or.inl h))) (fun h => Or.inr (Or.inr h))⟩
end Go.Proofs.YtdbdbaepmdmnfaaGreatDoor
/- A search that follows all ways side by side, back from the text's end: what holds while it goes, in plain words. Nothing of the program is imported. -/
namespace Go.Proofs.YtdbdbaepmdmnfaaGreatDoor
def Takes (Q : List St) (q : Nat) : Prop := ∃ s, Q[q]? = some s ∧ s.kind = 0
def Eps (Q : List St) (t : List UInt8) (p q r : Nat) : Prop := ∃ n, Steps Q t n q p r p
def Reach (Q : List St) (t : List UInt8) (last b p q : Nat) : Prop := ∃ n, Steps Q t n last b q p
/-- There is one state at most at which a match begins. -/
def OneDone (Q : List St) : Prop := ∀ d d', Done Q d → Done Q d' → d = d'
theorem Eps.refl (Q t p q) : Eps Q t p q q := ⟨0, rfl, rfl⟩
theorem Eps.trans {Q t p q r s} (h : Eps Q t p q r) (h2 : Eps Q t p r s) : Eps Q t p q s := by
  obtain ⟨n, h⟩ := h; obtain ⟨m, h2⟩ := h2; exact ⟨n + m, h.trans h2⟩
theorem Eps.step {Q t p q r} (h : Step Q t q p r p) : Eps Q t p q r := ⟨1, Steps.one h⟩
theorem Reach.eps {Q t last b p q r} (h : Reach Q t last b p q) (h2 : Eps Q t p q r) : Reach Q t last b p r := by
  obtain ⟨n, h⟩ := h; obtain ⟨m, h2⟩ := h2; exact ⟨n + m, h.trans h2⟩
theorem Reach.step {Q t last b p q r p'} (h : Reach Q t last b p q) (h2 : Step Q t q p r p') : Reach Q t last b p' r := by
  obtain ⟨n, h⟩ := h; exact ⟨n + 1, h.trans (Steps.one h2)⟩
theorem eps_closed {Q t p} {M : Nat → Prop} (hc : ∀ q q', M q → Step Q t q p q' p → M q') {q r} (h : Eps Q t p q r) (hq : M q) : M r := by
  obtain ⟨n, h⟩ := h
  induction n generalizing q with
  | zero => obtain ⟨rfl, _⟩ := h; exact hq
  | succ n ih =>
    obtain ⟨s, j, h1, h2⟩ := h
    have a := h1.le; have b := h2.le
    obtain rfl : j = p := by omega
    exact ih (hc _ _ hq h1) h2
/-- While one thread is followed at a place. -/
structure FInv (Q : List St) (t : List UInt8) (p b q0 : Nat) (M0 : Nat → Prop) (O0 : List (Nat × Nat)) (best0 : Option Nat) (stack : List Nat) (M : Nat → Prop) (O : List (Nat × Nat)) (best : Option Nat) : Prop where
  closed : ∀ q q', M q → Step Q t q p q' p → M q' ∨ q' ∈ stack
  keep : ∀ q, M0 q → M q
  sound : ∀ q, M q → M0 q ∨ Eps Q t p q0 q
  stk : ∀ q ∈ stack, Eps Q t p q0 q
  start : M q0 ∨ q0 ∈ stack
  opn : ∃ N, O = O0 ++ N ∧ ∀ x, x ∈ N ↔ x.2 = b ∧ M x.1 ∧ ¬ M0 x.1 ∧ Takes Q x.1
  bst : (best = best0 ∧ ∀ d, M d → ¬ M0 d → ¬ Done Q d) ∨ ((∃ d, M d ∧ ¬ M0 d ∧ Done Q d) ∧ best = some b)
theorem FInv.begin {Q t p b q0 M0 O0 best0} (hc : ∀ q q', M0 q → Step Q t q p q' p → M0 q') : FInv Q t p b q0 M0 O0 best0 [q0] M0 O0 best0 where
  closed := fun q q' h hs => Or.inl (hc q q' h hs)
  keep := fun _ h => h
  sound := fun _ h => Or.inl h
  stk := fun q h => by simp at h; subst h; exact Eps.refl _ _ _ _
  start := Or.inr (by simp)
  opn := ⟨[], by simp, fun x => by simp; intro _ h h2; exact absurd h h2⟩
  bst := Or.inl ⟨rfl, fun d h h2 => absurd h h2⟩
theorem FInv.skip {Q t p b q0 M0 O0 best0 l q M O best} (h : FInv Q t p b q0 M0 O0 best0 (l ++ [q]) M O best) (hm : M q) : FInv Q t p b q0 M0 O0 best0 l M O best where
  closed := fun r r' hr hs => by
    rcases h.closed r r' hr hs with h1 | h1
    · exact Or.inl h1
    · simp at h1
      rcases h1 with h1 | rfl
      · exact Or.inr h1
      · exact Or.inl hm
  keep := h.keep
  sound := h.sound
  stk := fun r hr => h.stk r (by simp [hr])
  start := by
    rcases h.start with h1 | h1
    · exact Or.inl h1
    · simp at h1
      rcases h1 with h1 | rfl
      · exact Or.inr h1
      · exact Or.inl hm
  opn := h.opn
  bst := h.bst
theorem FInv.pop {Q t p b q0 M0 O0 best0 l q M O best M' ss} (h : FInv Q t p b q0 M0 O0 best0 (l ++ [q]) M O best) (hm : ¬ M q) (hM : ∀ x, M' x ↔ M x ∨ x = q)
    (hss : ∀ r, Step Q t q p r p ↔ r ∈ ss) {O' best'} (hO : (Takes Q q ∧ O' = O ++ [(q, b)]) ∨ (¬ Takes Q q ∧ O' = O)) (hb : (Done Q q ∧ best' = some b) ∨ (¬ Done Q q ∧ best' = best)) :
    FInv Q t p b q0 M0 O0 best0 (l ++ ss) M' O' best' where
  closed := fun r r' hr hs => by
    rcases (hM r).1 hr with hr | rfl
    · rcases h.closed r r' hr hs with h1 | h1
      · exact Or.inl ((hM _).2 (Or.inl h1))
      · simp at h1
        rcases h1 with h1 | rfl
        · exact Or.inr (by simp [h1])
        · exact Or.inl ((hM _).2 (Or.inr rfl))
    · exact Or.inr (by simp [(hss r').1 hs])
  keep := fun r hr => (hM r).2 (Or.inl (h.keep r hr))
  sound := fun r hr => by
    rcases (hM r).1 hr with hr | rfl
    · exact h.sound r hr
    · exact Or.inr (h.stk r (by simp))
  stk := fun r hr => by
    simp at hr
    rcases hr with hr | hr
    · exact h.stk r (by simp [hr])
    · exact (h.stk q (by simp)).trans (Eps.step ((hss r).2 hr))
  start := by
    rcases h.start with h1 | h1
    · exact Or.inl ((hM _).2 (Or.inl h1))
    · simp at h1
      rcases h1 with h1 | rfl
      · exact Or.inr (by simp [h1])
      · exact Or.inl ((hM _).2 (Or.inr rfl))
  opn := by
    obtain ⟨N, hN, hx⟩ := h.opn
    have hq0 : ¬ M0 q := fun h0 => hm (h.keep q h0)
    rcases hO with ⟨ht, rfl⟩ | ⟨ht, rfl⟩
    · refine ⟨N ++ [(q, b)], by rw [hN, List.append_assoc], fun x => ?_⟩
      rw [List.mem_append, hx, hM]
      constructor
      · rintro (⟨a, b, c⟩ | hxx)
        · exact ⟨a, Or.inl b, c⟩
        · simp at hxx; subst hxx; exact ⟨rfl, Or.inr rfl, hq0, ht⟩
      · rintro ⟨a, b | b, c⟩
        · exact Or.inl ⟨a, b, c⟩
        · right; simp; exact Prod.ext b a
    · refine ⟨N, hN, fun x => ?_⟩
      rw [hx, hM]
      constructor
      · rintro ⟨a, b, c⟩; exact ⟨a, Or.inl b, c⟩
      · rintro ⟨a, b | b, c⟩
        · exact ⟨a, b, c⟩
        · rw [b] at c; exact absurd c.2 ht
  bst := by
    have hq0 : ¬ M0 q := fun h0 => hm (h.keep q h0)
    rcases hb with ⟨hd, rfl⟩ | ⟨hd, rfl⟩
    · exact Or.inr ⟨⟨q, (hM q).2 (Or.inr rfl), hq0, hd⟩, rfl⟩
    · rcases h.bst with ⟨rfl, h1⟩ | ⟨⟨d, h1, h2, h3⟩, rfl⟩
      · refine Or.inl ⟨rfl, fun d hmd h0 => ?_⟩
        rcases (hM d).1 hmd with hmd | rfl
        · exact h1 d hmd h0
        · exact hd
      · exact Or.inr ⟨⟨d, (hM d).2 (Or.inl h1), h2, h3⟩, rfl⟩
/-- At a place, the sources in Src followed. -/
structure PInv (Q : List St) (t : List UInt8) (p : Nat) (Src : Nat → Nat → Prop) (M : Nat → Prop) (O : List (Nat × Nat)) (best : Option Nat) : Prop where
  closed : ∀ q q', M q → Step Q t q p q' p → M q'
  src : ∀ q b, Src q b → M q
  sound : ∀ q, M q → ∃ q0 b, Src q0 b ∧ Eps Q t p q0 q
  opn : ∀ x ∈ O, Takes Q x.1 ∧ ∃ q0, Src q0 x.2 ∧ Eps Q t p q0 x.1
  all : ∀ q b r, Src q b → Eps Q t p q r → Takes Q r → ∃ b', b ≤ b' ∧ (r, b') ∈ O
  notes : ∀ q b r, Src q b → Eps Q t p q r → Done Q r → ∃ B, best = some B ∧ b ≤ B
  bestS : ∀ B, best = some B → ∃ q r, Src q B ∧ Eps Q t p q r ∧ Done Q r
  sorted : O.Pairwise (fun x y => y.2 ≤ x.2)
theorem PInv.begin {Q t p} (M : Nat → Prop) (hM : ∀ q, ¬ M q) : PInv Q t p (fun _ _ => False) M [] none where
  closed := fun q q' h => absurd h (hM q)
  src := fun _ _ h => h.elim
  sound := fun q h => absurd h (hM q)
  opn := fun x h => by simp at h
  all := fun _ _ _ h => h.elim
  notes := fun _ _ _ h => h.elim
  bestS := fun _ h => by cases h
  sorted := List.Pairwise.nil
theorem PInv.follow {Q t p Src M0 O0 best1 b q0 M O best} (h : PInv Q t p Src M0 O0 best1) (hu : OneDone Q) (hf : FInv Q t p b q0 M0 O0 best1 [] M O best) (hb : ∀ q b', Src q b' → b ≤ b') :
    PInv Q t p (fun q b' => Src q b' ∨ (q = q0 ∧ b' = b)) M O best := by
  have hcl : ∀ q q', M q → Step Q t q p q' p → M q' := fun q q' hq hs => by
    rcases hf.closed q q' hq hs with h1 | h1
    · exact h1
    · simp at h1
  have hq0 : M q0 := by
    rcases hf.start with h1 | h1
    · exact h1
    · simp at h1
  obtain ⟨N, hN, hx⟩ := hf.opn
  refine { closed := hcl, src := ?_, sound := ?_, opn := ?_, all := ?_, notes := ?_, bestS := ?_, sorted := ?_ }
  · rintro q b' (h1 | ⟨rfl, rfl⟩)
    · exact hf.keep _ (h.src q b' h1)
    · exact hq0
  · intro q hq
    rcases hf.sound q hq with h1 | h1
    · obtain ⟨a, c, h2, h3⟩ := h.sound q h1
      exact ⟨a, c, Or.inl h2, h3⟩
    · exact ⟨q0, b, Or.inr ⟨rfl, rfl⟩, h1⟩
  · intro x hxo
    rw [hN, List.mem_append] at hxo
    rcases hxo with h1 | h1
    · obtain ⟨h2, a, h3, h4⟩ := h.opn x h1
      exact ⟨h2, a, Or.inl h3, h4⟩
    · obtain ⟨h2, h3, h4, h5⟩ := (hx x).1 h1
      refine ⟨h5, q0, Or.inr ⟨rfl, h2⟩, ?_⟩
      rcases hf.sound _ h3 with h6 | h6
      · exact absurd h6 h4
      · exact h6
  · rintro q b' r (h1 | ⟨rfl, rfl⟩) h2 h3
    · obtain ⟨c, h4, h5⟩ := h.all q b' r h1 h2 h3
      exact ⟨c, h4, by rw [hN]; exact List.mem_append_left _ h5⟩
    · have hr : M r := eps_closed hcl h2 hq0
      by_cases h0 : M0 r
      · obtain ⟨a, c, h4, h5⟩ := h.sound r h0
        obtain ⟨d, h6, h7⟩ := h.all a c r h4 h5 h3
        exact ⟨d, Nat.le_trans (hb _ _ h4) h6, by rw [hN]; exact List.mem_append_left _ h7⟩
      · exact ⟨b', Nat.le_refl _, by rw [hN]; exact List.mem_append_right _ ((hx (r, b')).2 ⟨rfl, hr, h0, h3⟩)⟩
  · rintro q b' r h1 h2 h3
    have hold : M0 r → best = best1 := fun h0 => by
      rcases hf.bst with ⟨h4, _⟩ | ⟨⟨d, h4, h5, h6⟩, _⟩
      · exact h4
      · rw [hu d r h6 h3] at h5; exact absurd h0 h5
    have hin : M0 r → b ≤ b' ∨ True → ∃ c, (∃ q1, Src q1 c ∧ Eps Q t p q1 r) := fun h0 _ => by
      obtain ⟨a, c, h4, h5⟩ := h.sound r h0; exact ⟨c, a, h4, h5⟩
    rcases h1 with h1 | ⟨rfl, rfl⟩
    · have h0 : M0 r := eps_closed h.closed h2 (h.src q b' h1)
      rw [hold h0]
      exact h.notes q b' r h1 h2 h3
    · have hr : M r := eps_closed hcl h2 hq0
      by_cases h0 : M0 r
      · obtain ⟨c, a, h4, h5⟩ := hin h0 (Or.inr trivial)
        obtain ⟨B, h6, h7⟩ := h.notes a c r h4 h5 h3
        rw [hold h0]
        exact ⟨B, h6, Nat.le_trans (hb _ _ h4) h7⟩
      · rcases hf.bst with ⟨_, h5⟩ | ⟨_, h5⟩
        · exact absurd h3 (h5 r hr h0)
        · exact ⟨b', h5, Nat.le_refl _⟩
  · intro B hB
    rcases hf.bst with ⟨rfl, _⟩ | ⟨⟨d, h1, h2, h3⟩, h4⟩
    · obtain ⟨q, r, h5, h6⟩ := h.bestS B hB
      exact ⟨q, r, Or.inl h5, h6⟩
    · rw [h4] at hB
      cases hB
      rcases hf.sound d h1 with h5 | h5
      · exact absurd h5 h2
      · exact ⟨q0, d, Or.inr ⟨rfl, rfl⟩, h5, h3⟩
  · rw [hN, List.pairwise_append]
    refine ⟨h.sorted, ?_, ?_⟩
    · have : ∀ x ∈ N, x.2 = b := fun x h1 => ((hx x).1 h1).1
      clear hx hN
      induction N with
      | nil => exact List.Pairwise.nil
      | cons a l ih =>
        refine List.Pairwise.cons (fun y hy => ?_) (ih (fun x hx => this x (List.mem_cons_of_mem _ hx)))
        rw [this a (by simp), this y (by simp [hy])]; exact Nat.le_refl _
    · intro x h1 y h2
      obtain ⟨_, a, h3, _⟩ := h.opn x h1
      rw [((hx y).1 h2).1]
      exact hb _ _ h3
end Go.Proofs.YtdbdbaepmdmnfaaGreatDoor
/- The search through a whole text, place before place. Nothing of the program is imported. -/
namespace Go.Proofs.YtdbdbaepmdmnfaaGreatDoor
/-- What is to be noted for a place: the last end of a match that begins there. -/
def LenAt (Q : List St) (t : List UInt8) (last p : Nat) (best : Option Nat) : Prop :=
  (∀ B, best = some B → p ≤ B ∧ B ≤ t.length ∧ Acc Q t last B p) ∧ ∀ e, e ≤ t.length → Acc Q t last e p → ∃ B, best = some B ∧ e ≤ B
/-- At place p, the ends from h on followed. -/
def RInv (Q : List St) (t : List UInt8) (last p h : Nat) (M : Nat → Prop) (O : List (Nat × Nat)) (best : Option Nat) : Prop :=
  ∃ Src, PInv Q t p Src M O best ∧ (∀ q b, Src q b → h ≤ b ∧ b ≤ t.length ∧ Reach Q t last b p q) ∧
    (∀ b q, h ≤ b → b ≤ t.length → Reach Q t last b p q → ∃ q0 b', b ≤ b' ∧ Src q0 b' ∧ Eps Q t p q0 q)
theorem RInv.begin {Q t last} (M : Nat → Prop) (hM : ∀ q, ¬ M q) : RInv Q t last t.length (t.length + 1) M [] none :=
  ⟨_, PInv.begin M hM, fun _ _ h => h.elim, fun b q h1 h2 => by omega⟩
theorem RInv.closed {Q t last p h M O best} (H : RInv Q t last p h M O best) : ∀ q q', M q → Step Q t q p q' p → M q' := by
  obtain ⟨_, h1, _⟩ := H; exact h1.closed
theorem RInv.start {Q t last p M0 O0 best0 M O best} (H : RInv Q t last p (p + 1) M0 O0 best0) (hu : OneDone Q) (hp : p ≤ t.length) (hf : FInv Q t p p last M0 O0 best0 [] M O best) :
    RInv Q t last p p M O best := by
  obtain ⟨Src, h1, h2, h3⟩ := H
  refine ⟨_, h1.follow hu hf (fun q b hq => by have := (h2 q b hq).1; omega), ?_, ?_⟩
  · rintro q b (hq | ⟨rfl, rfl⟩)
    · obtain ⟨a, c, d⟩ := h2 q b hq; exact ⟨by omega, c, d⟩
    · exact ⟨Nat.le_refl _, hp, 0, rfl, rfl⟩
  · intro b q hb hb2 hr
    by_cases hbp : p + 1 ≤ b
    · obtain ⟨q0, b', e1, e2, e3⟩ := h3 b q hbp hb2 hr
      exact ⟨q0, b', e1, Or.inl e2, e3⟩
    · obtain rfl : b = p := by omega
      exact ⟨last, b, Nat.le_refl _, Or.inr ⟨rfl, rfl⟩, hr⟩
/-- A way that comes below a place leaves it by taking a byte. -/
theorem cross {Q t n q b r p} (h : Steps Q t n q b r p) (hb : p + 1 ≤ b) : ∃ q1 q2, Reach Q t q b (p + 1) q1 ∧ Takes Q q1 ∧ Step Q t q1 (p + 1) q2 p ∧ Eps Q t p q2 r := by
  induction n generalizing q b with
  | zero => obtain ⟨_, h⟩ := h; omega
  | succ n ih =>
    obtain ⟨s, j, h1, h2⟩ := h
    have hj := h1.le
    by_cases hjp : p + 1 ≤ j
    · obtain ⟨q1, q2, ⟨m, a⟩, c⟩ := ih h2 hjp
      exact ⟨q1, q2, ⟨m + 1, s, j, h1, a⟩, c⟩
    · have := h2.le
      obtain rfl : j = p := by omega
      obtain rfl : b = j + 1 := by omega
      refine ⟨q, s, ⟨0, rfl, rfl⟩, ?_, h1, n, h2⟩
      obtain ⟨x, hx, hh⟩ := h1
      rcases hh with ⟨hk, _⟩ | ⟨_, _, _, hh⟩ | ⟨_, _, _, hh⟩ | ⟨_, _, hh⟩
      · exact ⟨x, hx, hk⟩
      all_goals omega
/-- The sources that the threads of a list come to by the byte ahead of p + 1. -/
def srcOf (Q : List St) (t : List UInt8) (p : Nat) (L : List (Nat × Nat)) (q b : Nat) : Prop := ∃ x ∈ L, x.2 = b ∧ Step Q t x.1 (p + 1) q p
/-- From one place to the one ahead of it. -/
theorem RInv.next {Q t last p M O best M' O' best'} (H : RInv Q t last (p + 1) (p + 1) M O best) (hp : PInv Q t p (srcOf Q t p O) M' O' best') : RInv Q t last p (p + 1) M' O' best' := by
  obtain ⟨Src, h1, h2, h3⟩ := H
  refine ⟨_, hp, ?_, ?_⟩
  · rintro q b ⟨x, hx, rfl, hs⟩
    obtain ⟨_, q0, e1, e2⟩ := h1.opn x hx
    obtain ⟨a, c, d⟩ := h2 _ _ e1
    exact ⟨a, c, (d.eps e2).step hs⟩
  · intro b q hb hb2 ⟨n, hr⟩
    obtain ⟨q1, q2, c1, c2, c3, c4⟩ := cross hr hb
    obtain ⟨q0, b', e1, e2, e3⟩ := h3 b q1 hb hb2 c1
    obtain ⟨b'', e4, e5⟩ := h1.all q0 b' q1 e2 e3 c2
    exact ⟨q2, b'', by omega, ⟨_, e5, rfl, c3⟩, c4⟩
/-- All that is noted at a place. -/
theorem RInv.lenAt {Q t last p M O best} (H : RInv Q t last p p M O best) : LenAt Q t last p best := by
  obtain ⟨Src, h1, h2, h3⟩ := H
  refine ⟨fun B hB => ?_, fun e he ha => ?_⟩
  · obtain ⟨q, r, e1, ⟨n, e2⟩, e3⟩ := h1.bestS B hB
    obtain ⟨a, c, m, d⟩ := h2 _ _ e1
    exact ⟨a, c, m + n, r, d.trans e2, e3⟩
  · have hle := ha.le
    obtain ⟨n, d, hs, hd⟩ := ha
    obtain ⟨q0, b', e1, e2, e3⟩ := h3 e d hle he ⟨n, hs⟩
    obtain ⟨B, e4, e5⟩ := h1.notes q0 b' d e2 e3 hd
    exact ⟨B, e4, by omega⟩
theorem RInv.facts {Q t last p h M O best} (H : RInv Q t last p h M O best) : O.Pairwise (fun x y => y.2 ≤ x.2) ∧ ∀ x ∈ O, Takes Q x.1 ∧ h ≤ x.2 ∧ x.2 ≤ t.length := by
  obtain ⟨Src, h1, h2, _⟩ := H
  refine ⟨h1.sorted, fun x hx => ?_⟩
  obtain ⟨h3, q0, h4, _⟩ := h1.opn x hx
  exact ⟨h3, (h2 _ _ h4).1, (h2 _ _ h4).2.1⟩
end Go.Proofs.YtdbdbaepmdmnfaaGreatDoor
/- What pattern a text is: read from its beginning on. Nothing of the program is imported. -/
namespace Go.Proofs.YtdbdbaepmdmnfaaGreatDoor
abbrev Pat := List UInt8 → Nat → Nat → Prop
def hasB (l : List UInt8) (i c : Nat) : Bool := match l[i]? with | some x => x.toNat == c | none => false
def rangeS (lo hi : UInt8) (c : UInt8) : Bool := decide (lo.toNat ≤ c.toNat) && decide (c.toNat ≤ hi.toNat)
def orS (S T : UInt8 → Bool) (c : UInt8) : Bool := S c || T c
def notS (S : UInt8 → Bool) (c : UInt8) : Bool := ! S c
def oneS (d : UInt8) (c : UInt8) : Bool := rangeS d d c
/-- The lower end of a member of a class, and the place behind it. -/
def lowP (l : List UInt8) (i : Nat) : Option (UInt8 × Nat) :=
  match l[i]? with
  | none => none
  | some c => if c.toNat = 92 then (match l[i + 1]? with | none => none | some d => some (d, i + 2)) else some (c, i + 1)
def memberP (l : List UInt8) (i : Nat) : Option ((UInt8 → Bool) × Nat) :=
  match lowP l i with
  | none => none
  | some (lo, j) =>
    match hasB l j 45, l[j + 1]? with
    | true, some h => if h.toNat = 93 then some (rangeS lo lo, j) else if h.toNat = 92 ∨ h.toNat < lo.toNat then none else some (rangeS lo h, j + 2)
    | _, _ => some (rangeS lo lo, j)
def membersP : Nat → List UInt8 → Nat → Bool → (UInt8 → Bool) → Option ((UInt8 → Bool) × Nat)
  | 0, _, _, _, _ => none
  | n + 1, l, i, first, S => if first = false ∧ hasB l i 93 = true then some (S, i + 1) else match memberP l i with | none => none | some (T, j) => membersP n l j false (orS S T)
def classP (l : List UInt8) (i : Nat) : Option ((UInt8 → Bool) × Nat) :=
  if hasB l i 94 then (match membersP (l.length + 1) l (i + 1) true (fun _ => false) with | none => none | some (S, j) => some (notS S, j))
  else membersP (l.length + 1) l i true (fun _ => false)
def isSign (c : UInt8) : Bool := c.toNat == 42 || c.toNat == 43 || c.toNat == 63
def unitP (sub : Nat → Option (Pat × Nat)) (l : List UInt8) (i : Nat) : Option (Pat × Nat) :=
  match l[i]? with
  | none => none
  | some c =>
    if isSign c = true ∨ c.toNat = 41 ∨ c.toNat = 124 then none
    else if c.toNat = 94 then some (beginR, i + 1)
    else if c.toNat = 36 then some (endR, i + 1)
    else if c.toNat = 40 then (match sub (i + 1) with | none => none | some (R, j) => if hasB l j 41 then some (R, j + 1) else none)
    else if c.toNat = 91 then (match classP l (i + 1) with | none => none | some (S, j) => some (byteR S, j))
    else if c.toNat = 46 then some (byteR (notS (fun _ => false)), i + 1)
    else if c.toNat = 92 then (match l[i + 1]? with | none => none | some d => some (byteR (oneS d), i + 2))
    else some (byteR (oneS c), i + 1)
def signR (c : Nat) (R : Pat) : Pat := if c = 42 then starR R else if c = 43 then plusR R else optR R
def signsP : Nat → List UInt8 → Nat → Pat → Pat × Nat
  | 0, _, i, R => (R, i)
  | n + 1, l, i, R => match l[i]? with | none => (R, i) | some c => if isSign c then signsP n l (i + 1) (signR c.toNat R) else (R, i)
def repP (sub : Nat → Option (Pat × Nat)) (l : List UInt8) (i : Nat) : Option (Pat × Nat) :=
  match unitP sub l i with | none => none | some (R, j) => some (signsP (l.length + 1) l j R)
def rowP (sub : Nat → Option (Pat × Nat)) (l : List UInt8) : Nat → Nat → List Pat → Option (Pat × Nat)
  | 0, _, _ => none
  | n + 1, i, acc =>
    if i < l.length ∧ hasB l i 124 = false ∧ hasB l i 41 = false then (match repP sub l i with | none => none | some (R, j) => rowP sub l n j (acc ++ [R]))
    else if acc.length = 0 then none else some (rowR acc, i)
def altP (sub : Nat → Option (Pat × Nat)) (l : List UInt8) : Nat → Nat → List Pat → Option (Pat × Nat)
  | 0, _, _ => none
  | n + 1, i, acc =>
    match rowP sub l (l.length + 1) i [] with
    | none => none
    | some (R, j) => if hasB l j 124 then altP sub l n (j + 1) (acc ++ [R]) else some (altR (acc ++ [R]), j)
def choiceP (l : List UInt8) : Nat → Nat → Option (Pat × Nat)
  | 0, _ => none
  | f + 1, i => altP (choiceP l f) l (l.length + 1) i []
def wholeP (l : List UInt8) : Option Pat :=
  if l.length = 0 then some emptyR else match choiceP l (l.length + 1) 0 with | none => none | some (R, j) => if j = l.length then some R else none
theorem hasB_lt {l : List UInt8} {i c : Nat} (h : hasB l i c = true) : i < l.length := by
  unfold hasB at h
  by_cases hi : i < l.length
  · exact hi
  · rw [List.getElem?_eq_none (by omega)] at h; cases h
theorem some_lt {l : List UInt8} {i : Nat} {c : UInt8} (h : l[i]? = some c) : i < l.length := (List.getElem?_eq_some_iff.1 h).1
theorem lowP_prog {l i lo j} (h : lowP l i = some (lo, j)) : i < j ∧ j ≤ l.length := by
  unfold lowP at h
  split at h
  · cases h
  · rename_i c hc
    have := some_lt hc
    split at h
    · split at h
      · cases h
      · rename_i d hd
        have := some_lt hd
        cases h; omega
    · cases h; omega
theorem memberP_prog {l i S j} (h : memberP l i = some (S, j)) : i < j ∧ j ≤ l.length := by
  unfold memberP at h
  split at h
  · cases h
  · rename_i lo k hk
    have := lowP_prog hk
    split at h
    · rename_i x hx hb hh
      have := some_lt hh
      split at h
      · cases h; omega
      · split at h
        · cases h
        · cases h; omega
    · cases h; omega
theorem membersP_prog {n l i f S T j} (h : membersP n l i f S = some (T, j)) : i < j ∧ j ≤ l.length := by
  induction n generalizing i f S with
  | zero => cases h
  | succ n ih =>
    unfold membersP at h
    split at h
    · rename_i hh; have := hasB_lt hh.2; cases h; omega
    · split at h
      · cases h
      · rename_i U k hk
        have := memberP_prog hk
        have := ih h
        omega
theorem classP_prog {l i S j} (h : classP l i = some (S, j)) : i < j ∧ j ≤ l.length := by
  unfold classP at h
  split at h
  · split at h
    · cases h
    · rename_i S k hk
      have := membersP_prog hk
      cases h; omega
  · exact membersP_prog h
theorem signsP_prog {n l i R} (hi : i ≤ l.length) : i ≤ (signsP n l i R).2 ∧ (signsP n l i R).2 ≤ l.length := by
  induction n generalizing i R with
  | zero => exact ⟨Nat.le_refl _, hi⟩
  | succ n ih =>
    unfold signsP
    split
    · exact ⟨Nat.le_refl _, hi⟩
    · rename_i c hc
      have := some_lt hc
      split
      · have := ih (i := i + 1) (R := signR c.toNat R) (by omega); omega
      · exact ⟨Nat.le_refl _, hi⟩
/-- What is asked of a reader of groups: it goes on, and stays within. -/
def Prog (l : List UInt8) (sub : Nat → Option (Pat × Nat)) : Prop := ∀ i R j, sub i = some (R, j) → i < j ∧ j ≤ l.length
theorem unitP_prog {sub l i R j} (hs : Prog l sub) (h : unitP sub l i = some (R, j)) : i < j ∧ j ≤ l.length := by
  unfold unitP at h
  split at h
  · cases h
  · rename_i c hc
    have := some_lt hc
    split at h
    · cases h
    split at h
    · cases h; omega
    split at h
    · cases h; omega
    split at h
    · split at h
      · cases h
      · rename_i R k hk
        have := hs _ _ _ hk
        split at h
        · rename_i hb; have := hasB_lt hb; cases h; omega
        · cases h
    split at h
    · split at h
      · cases h
      · rename_i S k hk
        have := classP_prog hk
        cases h; omega
    split at h
    · cases h; omega
    split at h
    · split at h
      · cases h
      · rename_i d hd
        have := some_lt hd
        cases h; omega
    · cases h; omega
theorem repP_prog {sub l i R j} (hs : Prog l sub) (h : repP sub l i = some (R, j)) : i < j ∧ j ≤ l.length := by
  unfold repP at h
  split at h
  · cases h
  · rename_i R k hk
    have h1 := unitP_prog hs hk
    have h2 := signsP_prog (n := l.length + 1) (R := R) h1.2
    have h3 : (signsP (l.length + 1) l k R).2 = j := by rw [Option.some.inj h]
    omega
theorem rowP_prog {sub l n i acc R j} (hs : Prog l sub) (h : rowP sub l n i acc = some (R, j)) (hi : i ≤ l.length) : i ≤ j ∧ j ≤ l.length ∧ (acc.length = 0 → i < j) := by
  induction n generalizing i acc with
  | zero => cases h
  | succ n ih =>
    unfold rowP at h
    split at h
    · split at h
      · cases h
      · rename_i U k hk
        have h1 := repP_prog hs hk
        have h2 := ih h h1.2
        omega
    · split at h
      · cases h
      · cases h; omega
theorem altP_prog {sub l n i acc R j} (hs : Prog l sub) (h : altP sub l n i acc = some (R, j)) (hi : i ≤ l.length) : i < j ∧ j ≤ l.length := by
  induction n generalizing i acc with
  | zero => cases h
  | succ n ih =>
    unfold altP at h
    split at h
    · cases h
    · rename_i U k hk
      have h1 := rowP_prog hs hk hi
      have h4 := h1.2.2 rfl
      split at h
      · rename_i hb
        have h2 := hasB_lt hb
        have h3 := ih h (by omega)
        omega
      · cases h; omega
theorem choiceP_prog (l : List UInt8) (f : Nat) (hi : ∀ i, l.length < i → choiceP l f i = none) : Prog l (choiceP l f) := by
  induction f with
  | zero => intro i R j h; cases h
  | succ f ih =>
    intro i R j h
    by_cases hl : i ≤ l.length
    · refine altP_prog (sub := choiceP l f) ?_ h hl
      apply ih
      intro k hk
      cases f with
      | zero => rfl
      | succ f =>
        show altP (choiceP l f) l (l.length + 1) k [] = none
        unfold altP rowP
        rw [if_neg (by omega)]
        simp
    · rw [hi i (by omega)] at h; cases h
theorem choiceP_beyond (l : List UInt8) (f i : Nat) (h : l.length < i) : choiceP l f i = none := by
  cases f with
  | zero => rfl
  | succ f =>
    show altP (choiceP l f) l (l.length + 1) i [] = none
    unfold altP rowP
    rw [if_neg (by omega)]
    simp
theorem choice_prog (l : List UInt8) (f : Nat) : Prog l (choiceP l f) := choiceP_prog l f (choiceP_beyond l f)
end Go.Proofs.YtdbdbaepmdmnfaaGreatDoor
/- Sets of places as rows of bits, and rounds that end. Nothing of the program is imported. -/
namespace Go.Proofs.YtdbdbaepmdmnfaaGreatDoor
/-- The bits of out are the places to which R comes from the bits of f. -/
def Img (R : Nat → Nat → Prop) (f out : List Bool) : Prop := out.length = f.length ∧ ∀ j, out[j]? = some true ↔ ∃ i, f[i]? = some true ∧ R i j
def joinB (a b : List Bool) : List Bool := List.zipWith (fun x y => x || y) a b
theorem joinB_get {a b : List Bool} (h : a.length = b.length) (j : Nat) : (joinB a b)[j]? = some true ↔ a[j]? = some true ∨ b[j]? = some true := by
  unfold joinB
  rw [List.getElem?_zipWith]
  by_cases hj : j < a.length
  · rw [List.getElem?_eq_getElem hj, List.getElem?_eq_getElem (by omega)]
    simp
  · rw [List.getElem?_eq_none (by omega), List.getElem?_eq_none (by omega)]
    simp
theorem joinB_length {a b : List Bool} (h : a.length = b.length) : (joinB a b).length = a.length := by simp [joinB]; omega
def cnt (a : List Bool) : Nat := a.countP (fun x => x)
theorem cnt_le (a : List Bool) : cnt a ≤ a.length := List.countP_le_length
/-- The rounds of + : as long as more is told. -/
structure Rounds (R : Nat → Nat → Prop) (f out : List Bool) (n : Nat) (more : Bool) : Prop where
  len : out.length = f.length
  base : ∀ i j, f[i]? = some true → R i j → out[j]? = some true
  sound : ∀ j, out[j]? = some true → ∃ i k m, f[i]? = some true ∧ R i k ∧ iterR R m k j
  count : more = true → n ≤ cnt out
  shut : more = false → ∀ i j, out[i]? = some true → R i j → out[j]? = some true
theorem Rounds.begin {R f out} (h : Img R f out) : Rounds R f out 0 true where
  len := h.1
  base := fun i j h1 h2 => (h.2 j).2 ⟨i, h1, h2⟩
  sound := fun j hj => by obtain ⟨i, h1, h2⟩ := (h.2 j).1 hj; exact ⟨i, j, 0, h1, h2, rfl⟩
  count := fun _ => Nat.zero_le _
  shut := fun h => by cases h
/-- The rounds are done: all that + comes to. -/
theorem Rounds.done {R : Pat} {t f out n more} (h : Rounds (R t) f out n more) (he : more = false ∨ f.length < n) : Img (plusR R t) f out := by
  have hm : more = false := by
    rcases he with h1 | h1
    · exact h1
    · cases hmm : more with
      | false => rfl
      | true =>
        have h2 := h.count hmm
        have h3 := cnt_le out
        rw [h.len] at h3
        omega
  refine ⟨h.len, fun j => ⟨fun hj => ?_, ?_⟩⟩
  · obtain ⟨i, k, m, h1, h2, h3⟩ := h.sound j hj
    exact ⟨i, h1, k, h2, m, h3⟩
  · rintro ⟨i, h1, k, h2, m, h3⟩
    have h4 := h.base i k h1 h2
    clear h1 h2
    induction m generalizing k with
    | zero => cases h3; exact h4
    | succ m ih => obtain ⟨a, h5, h6⟩ := h3; exact ih a h6 (h.shut hm k a h4 h5)
theorem Img.comp {R S : Pat} {t f m out} (h : Img (R t) f m) (h2 : Img (S t) m out) : Img (compR R S t) f out := by
  refine ⟨h2.1.trans h.1, fun j => ?_⟩
  rw [h2.2]
  constructor
  · rintro ⟨k, h3, h4⟩
    obtain ⟨i, h5, h6⟩ := (h.2 k).1 h3
    exact ⟨i, h5, k, h6, h4⟩
  · rintro ⟨i, h5, k, h6, h4⟩
    exact ⟨k, (h.2 k).2 ⟨i, h5, h6⟩, h4⟩
theorem Img.or {R S : Pat} {t f a b} (h : Img (R t) f a) (h2 : Img (S t) f b) : Img (orR R S t) f (joinB a b) := by
  have hl : a.length = b.length := h.1.trans h2.1.symm
  refine ⟨by rw [joinB_length hl, h.1], fun j => ?_⟩
  rw [joinB_get hl, h.2, h2.2]
  constructor
  · rintro (⟨i, h3, h4⟩ | ⟨i, h3, h4⟩)
    · exact ⟨i, h3, Or.inl h4⟩
    · exact ⟨i, h3, Or.inr h4⟩
  · rintro ⟨i, h3, h4 | h4⟩
    · exact Or.inl ⟨i, h3, h4⟩
    · exact Or.inr ⟨i, h3, h4⟩
/-- What is to be found, of what a pattern says. -/
def Finds (R : Pat) (t : List UInt8) (frm least : Nat) (best : Option (Nat × Nat)) : Prop :=
  (∀ B l, best = some (B, l) → frm ≤ B ∧ B + l ≤ t.length ∧ least ≤ l ∧ R t B (B + l)) ∧
  ∀ b e, frm ≤ b → b ≤ t.length → b + least ≤ e → R t b e → ∃ B l, best = some (B, l) ∧ (B < b ∨ B = b ∧ e ≤ B + l)
theorem Finds.unique {R : Pat} {t frm least x y} (h : Finds R t frm least x) (h2 : Finds R t frm least y) : x = y := by
  have key : ∀ {x y : Option (Nat × Nat)}, Finds R t frm least x → Finds R t frm least y → ∀ B l, x = some (B, l) → ∃ B' l', y = some (B', l') ∧ (B' < B ∨ B' = B ∧ l ≤ l') := by
    intro x y h h2 B l hx
    obtain ⟨a, b, c, d⟩ := h.1 B l hx
    obtain ⟨B', l', h3, h4⟩ := h2.2 B (B + l) a (by omega) (by omega) d
    exact ⟨B', l', h3, by omega⟩
  cases hx : x with
  | none =>
    cases hy : y with
    | none => rfl
    | some b =>
      obtain ⟨_, _, h3, _⟩ := key h2 h b.1 b.2 hy
      rw [hx] at h3; cases h3
  | some a =>
    obtain ⟨B, l, h3, h4⟩ := key h h2 a.1 a.2 hx
    obtain ⟨B', l', h5, h6⟩ := key h2 h B l h3
    rw [hx] at h5
    cases h5
    simp at h4
    rw [h3]
    congr 1
    apply Prod.ext
    · show B' = B; omega
    · show l' = l; omega
end Go.Proofs.YtdbdbaepmdmnfaaGreatDoor
