import Derived.Test.YtdbdbaepmdmnfaaGreatDoorZ21
import Derived.Test.YtdbdbaepmdmnfaaGreatDoorZ06
import Derived.KernelRfl
import Derived.Test.YtdbdbaepmdmnfaaGreatDoorProg
import Derived.Shelf.LaysC
import Derived.Shelf.Strconv.ParseIntPublic10
import Derived.Test.YtdbdbaepmdmnfaaGreatDoorZ17
import Derived.Test.YtdbdbaepmdmnfaaGreatDoorZ20
import Derived.Test.YtdbdbaepmdmnfaaGreatDoorZ11
import Derived.Deep.AppendLies
namespace Go.Proofs.YtdbdbaepmdmnfaaGreatDoor
open Go.RowKit
theorem takeWhile_mid {p : UInt8 → Bool} : ∀ {l : List UInt8} {i : Nat} {c : UInt8}, i < (l.takeWhile p).length → l[i]? = some c → p c = true
  | [], _, _, _, h => by simp at h
  | x :: l, i, c, hi, h => by
    rw [List.takeWhile_cons] at hi
    cases hx : p x with
    | false => rw [hx] at hi; simp at hi
    | true =>
      rw [hx] at hi
      cases i with
      | zero => cases h; exact hx
      | succ i => exact takeWhile_mid (l := l) (i := i) (by simpa using hi) h
theorem runTo_mid {p : UInt8 → Bool} {l : List UInt8} {k j : Nat} (h1 : k ≤ j) (h2 : j < runTo p l k) {c : UInt8} (hc : l[j]? = some c) : p c = true := by
  unfold runTo at h2
  refine takeWhile_mid (l := l.drop k) (i := j - k) (by omega) ?_
  rw [List.getElem?_drop, show k + (j - k) = j by omega]
  exact hc
def plainB (c : UInt8) : Bool := !((c.toNat : Int) == 34) && !((c.toNat : Int) == 10) && !((c.toNat : Int) == 92)
def letAt (l : List UInt8) (e : Nat) : Bool := match l[e]? with | some c => letB c | none => false
/-- The token behind a place, of texts without remarks, patterns and backslashes. -/
def nxAt (T : ByteArray) (l : List UInt8) (j : Nat) : Option TS :=
  match l[j]? with
  | none => if j = T.size then some ⟨j, endsB 1 [], 1, ⟨#[]⟩, j⟩ else none
  | some c =>
    if (c.toNat : Int) == 35 then none
    else if digB c then
      let e := runTo digB l j
      if e ≤ j + 18 ∧ letAt l e = false then some ⟨e, endsB 2 (T.extract j e).data.toList, 2, T.extract j e, j⟩ else none
    else if letB c then
      let e := runTo namB l j
      let x := T.extract j e
      let k := nameK x.data.toList l e
      some ⟨e, endsB k x.data.toList, k, x, j⟩
    else if (c.toNat : Int) == 34 then
      let q := runTo plainB l (j + 1)
      if isAt l q 34 = true then
        let x := ofB (cutL l (j + 1) q)
        some ⟨q + 1, endsB 3 x.data.toList, 3, x, j⟩
      else none
    else if (c.toNat : Int) == 47 then none
    else if j + 2 ≤ T.size ∧ dblB (T.extract j (j + 2)).data.toList = true then some ⟨j + 2, endsB 9 (T.extract j (j + 2)).data.toList, 9, T.extract j (j + 2), j⟩
    else if (j + 1 = T.size ∨ dblB (T.extract j (j + 2)).data.toList = false) ∧ sglB c = true then some ⟨j + 1, endsB 9 (T.extract j (j + 1)).data.toList, 9, T.extract j (j + 1), j⟩
    else none
def nxB (T : ByteArray) (s : TS) : Option TS := nxAt T T.data.toList (runTo blankB T.data.toList s.i)
theorem nx_tok (pb : Nat) (T : ByteArray) (s s' : TS) (h5 : T.size ≤ 65000) (hi : s.i ≤ T.size) (h : nxB T s = some s') : Nx pb T s s' := by
  unfold nxB at h
  have hjl : runTo blankB T.data.toList s.i ≤ T.size := by
    have := runTo_le (p := blankB) (l := T.data.toList) (k := s.i) (by rw [len_eq]; exact hi)
    rw [len_eq] at this
    exact this
  generalize hj : runTo blankB T.data.toList s.i = j at h hjl
  unfold nxAt at h
  dsimp only at h
  split at h
  · rename_i hn
    split at h
    · rename_i hjT
      cases h
      refine nx_of pb T s _ hi h5 hj (fun c hc => by rw [hn] at hc; cases hc) ?_ rfl
      show ReadsTo pb T j s.dv 1 ⟨#[]⟩ j
      rw [hjT]
      exact read_end pb T s.dv
    · cases h
  · rename_i c hc
    have hjs : j < T.size := by
      rcases Nat.lt_or_ge j T.size with h1 | h1
      · exact h1
      · rw [get_none T j h1] at hc; cases hc
    have hcj : T[j] = c := by
      rw [get_of_lt T j hjs] at hc
      exact Option.some.inj hc
    split at h
    · cases h
    · rename_i h35
      have hc35 : ∀ d, T.data.toList[j]? = some d → ((d.toNat : Int) == 35) = false := fun d hd => by
        rw [hc] at hd
        cases hd
        simpa using h35
      split at h
      · rename_i hdg
        split at h
        · rename_i hcond
          cases h
          refine nx_of pb T s _ hi h5 hj hc35 ?_ rfl
          exact read_number pb T j s.dv _ _ _ hjs (by rw [hcj]; exact hdg) (fun w hw => number_any pb T j s.dv (by omega) h5 hcond.1 (fun d hd => by
            have := hcond.2
            unfold letAt at this
            rw [hd] at this
            exact this) w hw)
        · cases h
      · rename_i hdg
        have hdg' : digB T[j] = false := by rw [hcj]; simpa using hdg
        split at h
        · rename_i hlt
          cases h
          refine nx_of pb T s _ hi h5 hj hc35 ?_ rfl
          exact read_name pb T j s.dv _ _ _ hjs hdg' (by rw [hcj]; exact hlt) (fun w hw => name_any pb T j s.dv (by omega) h5 w hw)
        · rename_i hlt
          have hlt' : letB T[j] = false := by rw [hcj]; simpa using hlt
          split at h
          · rename_i hqt
            split at h
            · rename_i hq
              cases h
              refine nx_of pb T s _ hi h5 hj hc35 ?_ rfl
              have hql := isAt_ltB hq
              rw [len_eq] at hql
              exact read_string pb T j s.dv _ _ _ hjs hdg' hlt' (by rw [hcj]; exact hqt) (fun w hw => quoted_plain pb T j s.dv (runTo plainB T.data.toList (j + 1)) (by have := runTo_ge plainB T.data.toList (j + 1); omega) hql h5 hq (fun m h1 h2 d hd => by
                have := runTo_mid h1 h2 hd
                unfold plainB at this
                simp only [Bool.and_eq_true, Bool.not_eq_true'] at this
                exact ⟨this.1.1, this.1.2, this.2⟩) w hw)
            · cases h
          · rename_i hqt
            have hqt' : ((T[j].toNat : Int) == 34) = false := by rw [hcj]; simpa using hqt
            split at h
            · cases h
            · rename_i hsl
              have hsl' : ((T[j].toNat : Int) == 47) = false := by rw [hcj]; simpa using hsl
              split at h
              · rename_i hd
                cases h
                refine nx_of pb T s _ hi h5 hj hc35 ?_ rfl
                exact read_sign pb T j s.dv _ _ _ hjs hdg' hlt' hqt' hsl' (fun w hw => sign_two pb T j s.dv hd.1 h5 hd.2 w hw)
              · split at h
                · rename_i hd
                  cases h
                  refine nx_of pb T s _ hi h5 hj hc35 ?_ rfl
                  exact read_sign pb T j s.dv _ _ _ hjs hdg' hlt' hqt' hsl' (fun w hw => sign_one pb T j s.dv hjs h5 hd.1 (by rw [hcj]; exact hd.2) w hw)
                · cases h
end Go.Proofs.YtdbdbaepmdmnfaaGreatDoor

namespace Go.Proofs.YtdbdbaepmdmnfaaGreatDoor
open Go.RowKit
def FE : ByteArray := ⟨#[123, 32, 110, 32, 61, 32, 115, 112, 108, 105, 116, 40, 36, 48, 44, 32, 97, 41, 59, 32, 102, 111, 114, 32, 40, 107, 32, 105, 110, 32, 97, 41, 32, 123, 32, 112, 114, 105, 110, 116, 32, 107, 44, 32, 97, 91, 107, 93, 59, 32, 100, 101, 108, 101, 116, 101, 32, 97, 59, 32, 97, 91, 34, 120, 34, 32, 107, 93, 32, 61, 32, 49, 32, 125, 32, 99, 32, 61, 32, 48, 59, 32, 102, 111, 114, 32, 40, 107, 32, 105, 110, 32, 97, 41, 32, 99, 32, 43, 61, 32, 49, 59, 32, 112, 114, 105, 110, 116, 32, 99, 32, 125]⟩
def fe_0 : TS := ⟨1, false, 9, ⟨#[123]⟩, 0⟩
def fe_1 : TS := ⟨3, true, 5, ⟨#[110]⟩, 2⟩
def fe_2 : TS := ⟨5, false, 9, ⟨#[61]⟩, 4⟩
def fe_3 : TS := ⟨11, false, 8, ⟨#[115, 112, 108, 105, 116]⟩, 6⟩
def fe_4 : TS := ⟨12, false, 9, ⟨#[40]⟩, 11⟩
def fe_5 : TS := ⟨13, false, 9, ⟨#[36]⟩, 12⟩
def fe_6 : TS := ⟨14, true, 2, ⟨#[48]⟩, 13⟩
def fe_7 : TS := ⟨15, false, 9, ⟨#[44]⟩, 14⟩
def fe_8 : TS := ⟨17, true, 5, ⟨#[97]⟩, 16⟩
def fe_9 : TS := ⟨18, true, 9, ⟨#[41]⟩, 17⟩
def fe_10 : TS := ⟨19, false, 9, ⟨#[59]⟩, 18⟩
def fe_11 : TS := ⟨23, false, 7, ⟨#[102, 111, 114]⟩, 20⟩
def fe_12 : TS := ⟨25, false, 9, ⟨#[40]⟩, 24⟩
def fe_13 : TS := ⟨26, true, 5, ⟨#[107]⟩, 25⟩
def fe_14 : TS := ⟨29, false, 7, ⟨#[105, 110]⟩, 27⟩
def fe_15 : TS := ⟨31, true, 5, ⟨#[97]⟩, 30⟩
def fe_16 : TS := ⟨32, true, 9, ⟨#[41]⟩, 31⟩
def fe_17 : TS := ⟨34, false, 9, ⟨#[123]⟩, 33⟩
def fe_18 : TS := ⟨40, false, 7, ⟨#[112, 114, 105, 110, 116]⟩, 35⟩
def fe_19 : TS := ⟨42, true, 5, ⟨#[107]⟩, 41⟩
def fe_20 : TS := ⟨43, false, 9, ⟨#[44]⟩, 42⟩
def fe_21 : TS := ⟨45, true, 5, ⟨#[97]⟩, 44⟩
def fe_22 : TS := ⟨46, false, 9, ⟨#[91]⟩, 45⟩
def fe_23 : TS := ⟨47, true, 5, ⟨#[107]⟩, 46⟩
def fe_24 : TS := ⟨48, true, 9, ⟨#[93]⟩, 47⟩
def fe_25 : TS := ⟨49, false, 9, ⟨#[59]⟩, 48⟩
def fe_26 : TS := ⟨56, false, 7, ⟨#[100, 101, 108, 101, 116, 101]⟩, 50⟩
def fe_27 : TS := ⟨58, true, 5, ⟨#[97]⟩, 57⟩
def fe_28 : TS := ⟨59, false, 9, ⟨#[59]⟩, 58⟩
def fe_29 : TS := ⟨61, true, 5, ⟨#[97]⟩, 60⟩
def fe_30 : TS := ⟨62, false, 9, ⟨#[91]⟩, 61⟩
def fe_31 : TS := ⟨65, true, 3, ⟨#[120]⟩, 62⟩
def fe_32 : TS := ⟨67, true, 5, ⟨#[107]⟩, 66⟩
def fe_33 : TS := ⟨68, true, 9, ⟨#[93]⟩, 67⟩
def fe_34 : TS := ⟨70, false, 9, ⟨#[61]⟩, 69⟩
def fe_35 : TS := ⟨72, true, 2, ⟨#[49]⟩, 71⟩
def fe_36 : TS := ⟨74, false, 9, ⟨#[125]⟩, 73⟩
def fe_37 : TS := ⟨76, true, 5, ⟨#[99]⟩, 75⟩
def fe_38 : TS := ⟨78, false, 9, ⟨#[61]⟩, 77⟩
def fe_39 : TS := ⟨80, true, 2, ⟨#[48]⟩, 79⟩
def fe_40 : TS := ⟨81, false, 9, ⟨#[59]⟩, 80⟩
def fe_41 : TS := ⟨85, false, 7, ⟨#[102, 111, 114]⟩, 82⟩
def fe_42 : TS := ⟨87, false, 9, ⟨#[40]⟩, 86⟩
def fe_43 : TS := ⟨88, true, 5, ⟨#[107]⟩, 87⟩
def fe_44 : TS := ⟨91, false, 7, ⟨#[105, 110]⟩, 89⟩
def fe_45 : TS := ⟨93, true, 5, ⟨#[97]⟩, 92⟩
def fe_46 : TS := ⟨94, true, 9, ⟨#[41]⟩, 93⟩
def fe_47 : TS := ⟨96, true, 5, ⟨#[99]⟩, 95⟩
def fe_48 : TS := ⟨99, false, 9, ⟨#[43, 61]⟩, 97⟩
def fe_49 : TS := ⟨101, true, 2, ⟨#[49]⟩, 100⟩
def fe_50 : TS := ⟨102, false, 9, ⟨#[59]⟩, 101⟩
def fe_51 : TS := ⟨108, false, 7, ⟨#[112, 114, 105, 110, 116]⟩, 103⟩
def fe_52 : TS := ⟨110, true, 5, ⟨#[99]⟩, 109⟩
def fe_53 : TS := ⟨112, false, 9, ⟨#[125]⟩, 111⟩
def fe_54 : TS := ⟨112, false, 1, ⟨#[]⟩, 112⟩
theorem nfe_0 (pb : Nat) : Nx pb FE ts0 fe_0 := nx_tok pb FE ts0 fe_0 (by decide) (by decide) (by kernel_rfl)
theorem nfe_1 (pb : Nat) : Nx pb FE fe_0 fe_1 := nx_tok pb FE fe_0 fe_1 (by decide) (by decide) (by kernel_rfl)
theorem nfe_2 (pb : Nat) : Nx pb FE fe_1 fe_2 := nx_tok pb FE fe_1 fe_2 (by decide) (by decide) (by kernel_rfl)
theorem nfe_3 (pb : Nat) : Nx pb FE fe_2 fe_3 := nx_tok pb FE fe_2 fe_3 (by decide) (by decide) (by kernel_rfl)
theorem nfe_4 (pb : Nat) : Nx pb FE fe_3 fe_4 := nx_tok pb FE fe_3 fe_4 (by decide) (by decide) (by kernel_rfl)
theorem nfe_5 (pb : Nat) : Nx pb FE fe_4 fe_5 := nx_tok pb FE fe_4 fe_5 (by decide) (by decide) (by kernel_rfl)
theorem nfe_6 (pb : Nat) : Nx pb FE fe_5 fe_6 := nx_tok pb FE fe_5 fe_6 (by decide) (by decide) (by kernel_rfl)
theorem nfe_7 (pb : Nat) : Nx pb FE fe_6 fe_7 := nx_tok pb FE fe_6 fe_7 (by decide) (by decide) (by kernel_rfl)
theorem nfe_8 (pb : Nat) : Nx pb FE fe_7 fe_8 := nx_tok pb FE fe_7 fe_8 (by decide) (by decide) (by kernel_rfl)
theorem nfe_9 (pb : Nat) : Nx pb FE fe_8 fe_9 := nx_tok pb FE fe_8 fe_9 (by decide) (by decide) (by kernel_rfl)
theorem nfe_10 (pb : Nat) : Nx pb FE fe_9 fe_10 := nx_tok pb FE fe_9 fe_10 (by decide) (by decide) (by kernel_rfl)
theorem nfe_11 (pb : Nat) : Nx pb FE fe_10 fe_11 := nx_tok pb FE fe_10 fe_11 (by decide) (by decide) (by kernel_rfl)
theorem nfe_12 (pb : Nat) : Nx pb FE fe_11 fe_12 := nx_tok pb FE fe_11 fe_12 (by decide) (by decide) (by kernel_rfl)
theorem nfe_13 (pb : Nat) : Nx pb FE fe_12 fe_13 := nx_tok pb FE fe_12 fe_13 (by decide) (by decide) (by kernel_rfl)
theorem nfe_14 (pb : Nat) : Nx pb FE fe_13 fe_14 := nx_tok pb FE fe_13 fe_14 (by decide) (by decide) (by kernel_rfl)
theorem nfe_15 (pb : Nat) : Nx pb FE fe_14 fe_15 := nx_tok pb FE fe_14 fe_15 (by decide) (by decide) (by kernel_rfl)
theorem nfe_16 (pb : Nat) : Nx pb FE fe_15 fe_16 := nx_tok pb FE fe_15 fe_16 (by decide) (by decide) (by kernel_rfl)
theorem nfe_17 (pb : Nat) : Nx pb FE fe_16 fe_17 := nx_tok pb FE fe_16 fe_17 (by decide) (by decide) (by kernel_rfl)
theorem nfe_18 (pb : Nat) : Nx pb FE fe_17 fe_18 := nx_tok pb FE fe_17 fe_18 (by decide) (by decide) (by kernel_rfl)
theorem nfe_19 (pb : Nat) : Nx pb FE fe_18 fe_19 := nx_tok pb FE fe_18 fe_19 (by decide) (by decide) (by kernel_rfl)
theorem nfe_20 (pb : Nat) : Nx pb FE fe_19 fe_20 := nx_tok pb FE fe_19 fe_20 (by decide) (by decide) (by kernel_rfl)
theorem nfe_21 (pb : Nat) : Nx pb FE fe_20 fe_21 := nx_tok pb FE fe_20 fe_21 (by decide) (by decide) (by kernel_rfl)
theorem nfe_22 (pb : Nat) : Nx pb FE fe_21 fe_22 := nx_tok pb FE fe_21 fe_22 (by decide) (by decide) (by kernel_rfl)
theorem nfe_23 (pb : Nat) : Nx pb FE fe_22 fe_23 := nx_tok pb FE fe_22 fe_23 (by decide) (by decide) (by kernel_rfl)
theorem nfe_24 (pb : Nat) : Nx pb FE fe_23 fe_24 := nx_tok pb FE fe_23 fe_24 (by decide) (by decide) (by kernel_rfl)
theorem nfe_25 (pb : Nat) : Nx pb FE fe_24 fe_25 := nx_tok pb FE fe_24 fe_25 (by decide) (by decide) (by kernel_rfl)
theorem nfe_26 (pb : Nat) : Nx pb FE fe_25 fe_26 := nx_tok pb FE fe_25 fe_26 (by decide) (by decide) (by kernel_rfl)
theorem nfe_27 (pb : Nat) : Nx pb FE fe_26 fe_27 := nx_tok pb FE fe_26 fe_27 (by decide) (by decide) (by kernel_rfl)
theorem nfe_28 (pb : Nat) : Nx pb FE fe_27 fe_28 := nx_tok pb FE fe_27 fe_28 (by decide) (by decide) (by kernel_rfl)
theorem nfe_29 (pb : Nat) : Nx pb FE fe_28 fe_29 := nx_tok pb FE fe_28 fe_29 (by decide) (by decide) (by kernel_rfl)
theorem nfe_30 (pb : Nat) : Nx pb FE fe_29 fe_30 := nx_tok pb FE fe_29 fe_30 (by decide) (by decide) (by kernel_rfl)
theorem nfe_31 (pb : Nat) : Nx pb FE fe_30 fe_31 := nx_tok pb FE fe_30 fe_31 (by decide) (by decide) (by kernel_rfl)
theorem nfe_32 (pb : Nat) : Nx pb FE fe_31 fe_32 := nx_tok pb FE fe_31 fe_32 (by decide) (by decide) (by kernel_rfl)
theorem nfe_33 (pb : Nat) : Nx pb FE fe_32 fe_33 := nx_tok pb FE fe_32 fe_33 (by decide) (by decide) (by kernel_rfl)
theorem nfe_34 (pb : Nat) : Nx pb FE fe_33 fe_34 := nx_tok pb FE fe_33 fe_34 (by decide) (by decide) (by kernel_rfl)
theorem nfe_35 (pb : Nat) : Nx pb FE fe_34 fe_35 := nx_tok pb FE fe_34 fe_35 (by decide) (by decide) (by kernel_rfl)
theorem nfe_36 (pb : Nat) : Nx pb FE fe_35 fe_36 := nx_tok pb FE fe_35 fe_36 (by decide) (by decide) (by kernel_rfl)
theorem nfe_37 (pb : Nat) : Nx pb FE fe_36 fe_37 := nx_tok pb FE fe_36 fe_37 (by decide) (by decide) (by kernel_rfl)
theorem nfe_38 (pb : Nat) : Nx pb FE fe_37 fe_38 := nx_tok pb FE fe_37 fe_38 (by decide) (by decide) (by kernel_rfl)
theorem nfe_39 (pb : Nat) : Nx pb FE fe_38 fe_39 := nx_tok pb FE fe_38 fe_39 (by decide) (by decide) (by kernel_rfl)
theorem nfe_40 (pb : Nat) : Nx pb FE fe_39 fe_40 := nx_tok pb FE fe_39 fe_40 (by decide) (by decide) (by kernel_rfl)
theorem nfe_41 (pb : Nat) : Nx pb FE fe_40 fe_41 := nx_tok pb FE fe_40 fe_41 (by decide) (by decide) (by kernel_rfl)
theorem nfe_42 (pb : Nat) : Nx pb FE fe_41 fe_42 := nx_tok pb FE fe_41 fe_42 (by decide) (by decide) (by kernel_rfl)
theorem nfe_43 (pb : Nat) : Nx pb FE fe_42 fe_43 := nx_tok pb FE fe_42 fe_43 (by decide) (by decide) (by kernel_rfl)
theorem nfe_44 (pb : Nat) : Nx pb FE fe_43 fe_44 := nx_tok pb FE fe_43 fe_44 (by decide) (by decide) (by kernel_rfl)
theorem nfe_45 (pb : Nat) : Nx pb FE fe_44 fe_45 := nx_tok pb FE fe_44 fe_45 (by decide) (by decide) (by kernel_rfl)
theorem nfe_46 (pb : Nat) : Nx pb FE fe_45 fe_46 := nx_tok pb FE fe_45 fe_46 (by decide) (by decide) (by kernel_rfl)
theorem nfe_47 (pb : Nat) : Nx pb FE fe_46 fe_47 := nx_tok pb FE fe_46 fe_47 (by decide) (by decide) (by kernel_rfl)
theorem nfe_48 (pb : Nat) : Nx pb FE fe_47 fe_48 := nx_tok pb FE fe_47 fe_48 (by decide) (by decide) (by kernel_rfl)
theorem nfe_49 (pb : Nat) : Nx pb FE fe_48 fe_49 := nx_tok pb FE fe_48 fe_49 (by decide) (by decide) (by kernel_rfl)
theorem nfe_50 (pb : Nat) : Nx pb FE fe_49 fe_50 := nx_tok pb FE fe_49 fe_50 (by decide) (by decide) (by kernel_rfl)
theorem nfe_51 (pb : Nat) : Nx pb FE fe_50 fe_51 := nx_tok pb FE fe_50 fe_51 (by decide) (by decide) (by kernel_rfl)
theorem nfe_52 (pb : Nat) : Nx pb FE fe_51 fe_52 := nx_tok pb FE fe_51 fe_52 (by decide) (by decide) (by kernel_rfl)
theorem nfe_53 (pb : Nat) : Nx pb FE fe_52 fe_53 := nx_tok pb FE fe_52 fe_53 (by decide) (by decide) (by kernel_rfl)
theorem nfe_54 (pb : Nat) : Nx pb FE fe_53 fe_54 := nx_tok pb FE fe_53 fe_54 (by decide) (by decide) (by kernel_rfl)
end Go.Proofs.YtdbdbaepmdmnfaaGreatDoor

namespace Go.Proofs
open Go.Shelf
def Tryz.laysC174_ren : Go.Shelf.Ren := ⟨fun | 174 => 497 | 247 => 501 | 245 => 502 | 287 => 503 | 279 => 504 | 280 => 505 | 281 => 506 | 282 => 507 | 321 => 508 | 322 => 509 | 316 => 486 | 171 => 399 | 205 => 510 | 243 => 441 | 246 => 203 | 283 => 263 | 284 => 264 | 285 => 265 | 286 => 266 | 129 => 199 | 317 => 364 | 318 => 365 | 319 => 366 | 320 => 367 | 337 => 429 | 338 => 430 | n => n, fun | 9 => 9 | 3 => 3 | 2 => 2 | 75 => 74 | 85 => 546 | 4 => 4 | 167 => 549 | 5 => 5 | 53 => 113 | 175 => 550 | 46 => 241 | 168 => 552 | 37 => 54 | 0 => 0 | 210 => 557 | 21 => 21 | 127 => 167 | 145 => 560 | 143 => 558 | 171 => 415 | 173 => 417 | 212 => 488 | 51 => 327 | 20 => 20 | 213 => 489 | 232 => 528 | 233 => 529 | 80 => 104 | n => n, fun | 15 => 12 | 16 => 13 | 17 => 9 | 18 => 10 | 19 => 11 | n => n⟩
theorem Tryz.laysC174 : Go.Proofs.LaysC.n174 Tryz.prog Tryz.laysC174_ren := {
  mixed := by kernel_rfl
  f129 := Tryz.func199.trans (congrArg some (by kernel_rfl))
  f171 := Tryz.func399.trans (congrArg some (by kernel_rfl))
  f174 := Tryz.func497.trans (congrArg some (by kernel_rfl))
  f205 := Tryz.func510.trans (congrArg some (by kernel_rfl))
  f243 := Tryz.func441.trans (congrArg some (by kernel_rfl))
  f245 := Tryz.func502.trans (congrArg some (by kernel_rfl))
  f246 := Tryz.func203.trans (congrArg some (by kernel_rfl))
  f247 := Tryz.func501.trans (congrArg some (by kernel_rfl))
  f279 := Tryz.func504.trans (congrArg some (by kernel_rfl))
  f280 := Tryz.func505.trans (congrArg some (by kernel_rfl))
  f281 := Tryz.func506.trans (congrArg some (by kernel_rfl))
  f282 := Tryz.func507.trans (congrArg some (by kernel_rfl))
  f283 := Tryz.func263.trans (congrArg some (by kernel_rfl))
  f284 := Tryz.func264.trans (congrArg some (by kernel_rfl))
  f285 := Tryz.func265.trans (congrArg some (by kernel_rfl))
  f286 := Tryz.func266.trans (congrArg some (by kernel_rfl))
  f287 := Tryz.func503.trans (congrArg some (by kernel_rfl))
  f316 := Tryz.func486.trans (congrArg some (by kernel_rfl))
  f317 := Tryz.func364.trans (congrArg some (by kernel_rfl))
  f318 := Tryz.func365.trans (congrArg some (by kernel_rfl))
  f319 := Tryz.func366.trans (congrArg some (by kernel_rfl))
  f320 := Tryz.func367.trans (congrArg some (by kernel_rfl))
  f321 := Tryz.func508.trans (congrArg some (by kernel_rfl))
  f322 := Tryz.func509.trans (congrArg some (by kernel_rfl))
  f337 := Tryz.func429.trans (congrArg some (by kernel_rfl))
  f338 := Tryz.func430.trans (congrArg some (by kernel_rfl))
  t0 := Tryz.underlying0
  a0 := Tryz.isAgg0
  z0 := Tryz.sizeOf0
  v0 := Tryz.zeroValue0
  t2 := Tryz.underlying2
  a2 := Tryz.isAgg2
  z2 := Tryz.sizeOf2
  v2 := Tryz.zeroValue2
  t3 := Tryz.underlying3
  a3 := Tryz.isAgg3
  z3 := Tryz.sizeOf3
  v3 := Tryz.zeroValue3
  t4 := Tryz.underlying4
  a4 := Tryz.isAgg4
  z4 := Tryz.sizeOf4
  v4 := Tryz.zeroValue4
  t5 := Tryz.underlying5
  a5 := Tryz.isAgg5
  z5 := Tryz.sizeOf5
  v5 := Tryz.zeroValue5
  t9 := Tryz.underlying9
  a9 := Tryz.isAgg9
  z9 := Tryz.sizeOf9
  v9 := Tryz.zeroValue9
  t20 := Tryz.underlying20
  a20 := Tryz.isAgg20
  z20 := Tryz.sizeOf20
  v20 := Tryz.zeroValue20
  t21 := Tryz.underlying21
  a21 := Tryz.isAgg21
  z21 := Tryz.sizeOf21
  v21 := Tryz.zeroValue21
  t37 := Tryz.underlying54
  a37 := Tryz.isAgg54
  z37 := Tryz.sizeOf54
  v37 := Tryz.zeroValue54
  t46 := Tryz.underlying241
  a46 := Tryz.isAgg241
  z46 := Tryz.sizeOf241
  v46 := Tryz.zeroValue241
  t51 := Tryz.underlying327
  a51 := Tryz.isAgg327
  z51 := Tryz.sizeOf327
  v51 := Tryz.zeroValue327
  t53 := Tryz.underlying113
  a53 := Tryz.isAgg113
  z53 := Tryz.sizeOf113
  v53 := Tryz.zeroValue113
  t75 := Tryz.underlying74
  a75 := Tryz.isAgg74
  z75 := Tryz.sizeOf74
  v75 := Tryz.zeroValue74
  t85 := Tryz.underlying546
  a85 := Tryz.isAgg546
  z85 := Tryz.sizeOf546
  v85 := Tryz.zeroValue546
  t127 := Tryz.underlying167
  a127 := Tryz.isAgg167
  z127 := Tryz.sizeOf167
  v127 := Tryz.zeroValue167
  t143 := Tryz.underlying558
  a143 := Tryz.isAgg558
  z143 := Tryz.sizeOf558
  v143 := Tryz.zeroValue558
  t145 := Tryz.underlying560
  a145 := Tryz.isAgg560
  z145 := Tryz.sizeOf560
  v145 := Tryz.zeroValue560
  t167 := Tryz.underlying549
  a167 := Tryz.isAgg549
  z167 := Tryz.sizeOf549
  v167 := Tryz.zeroValue549
  t168 := Tryz.underlying552
  a168 := Tryz.isAgg552
  z168 := Tryz.sizeOf552
  v168 := Tryz.zeroValue552
  t171 := Tryz.underlying415
  a171 := Tryz.isAgg415
  z171 := Tryz.sizeOf415
  v171 := Tryz.zeroValue415
  t173 := Tryz.underlying417
  a173 := Tryz.isAgg417
  z173 := Tryz.sizeOf417
  v173 := Tryz.zeroValue417
  t175 := Tryz.underlying550
  a175 := Tryz.isAgg550
  z175 := Tryz.sizeOf550
  v175 := Tryz.zeroValue550
  t210 := Tryz.underlying557
  a210 := Tryz.isAgg557
  z210 := Tryz.sizeOf557
  v210 := Tryz.zeroValue557
  t212 := Tryz.underlying488
  a212 := Tryz.isAgg488
  z212 := Tryz.sizeOf488
  v212 := Tryz.zeroValue488
  t213 := Tryz.underlying489
  a213 := Tryz.isAgg489
  z213 := Tryz.sizeOf489
  t232 := Tryz.underlying528
  a232 := Tryz.isAgg528
  z232 := Tryz.sizeOf528
  v232 := Tryz.zeroValue528
  t233 := Tryz.underlying529
  a233 := Tryz.isAgg529
  z233 := Tryz.sizeOf529
  v233 := Tryz.zeroValue529
  g15 := by kernel_rfl
  g16 := by kernel_rfl
  g17 := by kernel_rfl
  g18 := by kernel_rfl
  g19 := by kernel_rfl
  t80 := Tryz.underlying104
  a80 := Tryz.isAgg104
  z80 := Tryz.sizeOf104
  v80 := Tryz.zeroValue104
  i0 := by kernel_rfl
  i2 := by kernel_rfl
  i3 := by kernel_rfl
  i4 := by kernel_rfl
  i5 := by kernel_rfl
  i9 := by kernel_rfl
  i20 := by kernel_rfl
  i21 := by kernel_rfl
  i37 := by kernel_rfl
  i46 := by kernel_rfl
  i51 := by kernel_rfl
  i53 := by kernel_rfl
  i75 := by kernel_rfl
  i80 := by kernel_rfl
  i85 := by kernel_rfl
  i127 := by kernel_rfl
  i143 := by kernel_rfl
  i145 := by kernel_rfl
  i167 := by kernel_rfl
  i168 := by kernel_rfl
  i171 := by kernel_rfl
  i173 := by kernel_rfl
  i175 := by kernel_rfl
  i210 := by kernel_rfl
  i212 := by kernel_rfl
  i232 := by kernel_rfl
  i233 := by kernel_rfl
  m15 := by kernel_rfl
  m16 := by kernel_rfl
  m17 := by kernel_rfl
  m18 := by kernel_rfl
  m19 := by kernel_rfl
  c0 := by kernel_rfl
  c2 := by kernel_rfl
  c3 := by kernel_rfl
  c4 := by kernel_rfl
  c5 := by kernel_rfl
  c9 := by kernel_rfl
  c20 := by kernel_rfl
  c21 := by kernel_rfl
  c37 := by kernel_rfl
  c46 := by kernel_rfl
  c51 := by kernel_rfl
  c53 := by kernel_rfl
  c75 := by kernel_rfl
  c80 := by kernel_rfl
  c85 := by kernel_rfl
  c127 := by kernel_rfl
  c143 := by kernel_rfl
  c145 := by kernel_rfl
  c167 := by kernel_rfl
  c168 := by kernel_rfl
  c171 := by kernel_rfl
  c173 := by kernel_rfl
  c175 := by kernel_rfl
  c210 := by kernel_rfl
  c212 := by kernel_rfl
  c213 := by kernel_rfl
  c232 := by kernel_rfl
  c233 := by kernel_rfl }
open Go.RowKit in
theorem Tryz.strconv_ParseInt_10_at64_ok (s : ByteArray) (hmax : s.size ≤ 9223372036854775806) (v : Int) (h : Lib.parseIntB 64 s.data.toList = .ok v) (w : World) :
    Calls Tryz.prog 497 #[.string s, .int .i64 10, .int .i64 64] w fun e w' => e = .returned (.tuple #[.int .i64 v, .nilIface]) ∧ (w' = w ∨ ∃ t, w' = Lib.bytesWorld w 5 t) := Any.strconv_ParseInt_10_at64_ok Tryz.laysC174 s hmax v h w
end Go.Proofs

namespace Go.Proofs.YtdbdbaepmdmnfaaGreatDoor
open Go.RowKit
/-- The number 1. -/
theorem parse_one (W : World) : Calls Tryz.prog 497 #[.string ⟨#[49]⟩, .int .i64 10, .int .i64 64] W fun en w' => en = .returned (.tuple #[.int .i64 1, .nilIface]) ∧ Only (fun _ => False) W w' := by
  refine (Tryz.strconv_ParseInt_10_at64_ok ⟨#[49]⟩ (by decide) 1 (by decide) W).mono ?_
  rintro en w' ⟨rfl, h⟩
  refine ⟨rfl, ?_⟩
  rcases h with rfl | ⟨t, rfl⟩
  · exact Only.refl _ _
  · unfold Lib.bytesWorld
    refine ⟨rfl, rfl, rfl, ?_, fun k hk _ => ?_⟩
    · unfold World.freeze
      rw [if_neg (by decide)]
      simp
    · unfold World.freeze
      rw [if_neg (by decide)]
      simp only [Array.getElem?_modify]
      rw [if_neg (by show ¬ W.heap.size = k; omega)]
      exact Below.heap_alloc _ _ _ hk
end Go.Proofs.YtdbdbaepmdmnfaaGreatDoor

namespace Go.Proofs.YtdbdbaepmdmnfaaGreatDoor
open Go.RowKit
def f3_1 : TS := ⟨7, false, 7, ⟨#[112, 114, 105, 110, 116]⟩, 2⟩
def f3_4 : TS := ⟨15, false, 7, ⟨#[102, 111, 114]⟩, 12⟩
def f3_22 : TS := ⟨52, false, 9, ⟨#[36]⟩, 51⟩
def f3_28 : TS := ⟨65, false, 7, ⟨#[112, 114, 105, 110, 116]⟩, 60⟩
def f3_30 : TS := ⟨72, false, 7, ⟨#[112, 114, 105, 110, 116]⟩, 67⟩
def f3_33 : TS := ⟨78, false, 9, ⟨#[125]⟩, 77⟩
end Go.Proofs.YtdbdbaepmdmnfaaGreatDoor

namespace Go.Proofs.YtdbdbaepmdmnfaaGreatDoor
open Go.RowKit
theorem store_if (l : Value) (x : ByteArray) (r : Value) : IsIf (Is (storeT l x r)) := fun _ _ h => ⟨_, _, h⟩
def ix : ByteArray := ⟨#[105]⟩
def i2 : Value := nameV ix 24
def i3 : Value := nameV ix 33
def i4 : Value := nameV ix 48
def eqx : ByteArray := ⟨#[61]⟩
def plx : ByteArray := ⟨#[43, 61]⟩
def f1 : Value := fieldT (numT 1)
/-- All levels of an operand of a comparison. -/
theorem joined_ofA (pb : Nat) (T : ByteArray) (ge : Bool) (s s' : TS) (V : World → Value → Prop) (hV : Stab pb V) (he : EndsA s') (hs : seen s [33] = false ∧ seen s [45] = false ∧ seen s [43] = false) (h1 : Reads 496 pb T ge s s' V) : Reads 425 pb T ge s s' V :=
  joined_rdA pb T ge s s' V hV he (sum_rdA pb T ge s s' V hV he (product_rdA pb T ge s s' V hV he (unary_rd pb T ge s s' V hs h1)))
/-- All levels of what is stored into. -/
theorem either_ofB (pb : Nat) (T : ByteArray) (ge : Bool) (s s' : TS) (V : World → Value → Prop) (hV : Stab pb V) (he : EndsB s') (hs : seen s [33] = false ∧ seen s [45] = false ∧ seen s [43] = false) (h1 : Reads 496 pb T ge s s' V) : Reads 182 pb T ge s s' V :=
  either_rdB pb T ge s s' V hV he (both_rdB pb T ge s s' V hV he (matched_rdB pb T ge s s' V hV he (compared_rdB pb T ge s s' V hV he (joined_ofA pb T ge s s' V hV he.a hs h1))))
def S3 : Nat → TS
  | 0 => f3_1
  | 1 => f3_4
  | 2 => f3_22
  | 3 => f3_28
  | 4 => f3_30
  | _ => f3_33
end Go.Proofs.YtdbdbaepmdmnfaaGreatDoor

namespace Go.Proofs.YtdbdbaepmdmnfaaGreatDoor
open Go.RowKit
theorem parse_zero (W : World) : Calls Tryz.prog 497 #[.string ⟨#[48]⟩, .int .i64 10, .int .i64 64] W fun en w' => en = .returned (.tuple #[.int .i64 0, .nilIface]) ∧ Only (fun _ => False) W w' := by
  refine (Tryz.strconv_ParseInt_10_at64_ok ⟨#[48]⟩ (by decide) 0 (by decide) W).mono ?_
  rintro en w' ⟨rfl, h⟩
  refine ⟨rfl, ?_⟩
  rcases h with rfl | ⟨t, rfl⟩
  · exact Only.refl _ _
  · unfold Lib.bytesWorld
    refine ⟨rfl, rfl, rfl, ?_, fun k hk _ => ?_⟩
    · unfold World.freeze
      rw [if_neg (by decide)]
      simp
    · unfold World.freeze
      rw [if_neg (by decide)]
      simp only [Array.getElem?_modify]
      rw [if_neg (by show ¬ W.heap.size = k; omega)]
      exact Below.heap_alloc _ _ _ hk
def nx : ByteArray := ⟨#[110]⟩
def ax : ByteArray := ⟨#[97]⟩
def kx : ByteArray := ⟨#[107]⟩
def cx : ByteArray := ⟨#[99]⟩
def xx : ByteArray := ⟨#[120]⟩
def splitx : ByteArray := ⟨#[115, 112, 108, 105, 116]⟩
def f0 : Value := fieldT (numT 0)
def splitArgs : List Value := [f0, nameV ax 16]
def xk : Value := joinT (strT xx) (nameV kx 66)
def addC : Value := storeT (nameV cx 95) plx (numT 1)
def setC : Value := storeT (nameV cx 75) eqx (numT 0)
/-- n = split($0, a). -/
def SplitV (pb : Nat) : World → Value → Prop := StoreW (Is (nameV nx 2)) eqx (OwnT pb splitx 6 splitArgs)
/-- a["x" k] = 1. -/
def ElSet (pb : Nat) : World → Value → Prop := StoreW (ElemT pb ax 60 [xk]) eqx (Is (numT 1))
theorem rdSplit (pb : Nat) : Reads 143 pb FE false fe_1 fe_10 (SplitV pb) :=
  expr_storeV pb FE false fe_1 fe_2 fe_3 fe_10 _ _ (is_stab pb _) (fun _ _ h => ⟨_, _, h⟩) (own_if pb splitx 6 splitArgs) (place_name nx 2) (by decide) 0 (by decide) (fun i t h => absurd h (by omega)) (fun t h => by cases h; decide)
    (either_ofB pb FE false fe_1 fe_2 _ (is_stab pb _) (by unfold EndsB; decide) (noSign_of (by decide)) (prim_name pb FE false fe_1 fe_2 rfl (nfe_2 pb) (by decide)))
    (nfe_3 pb)
    (expr_rd pb FE false fe_3 fe_10 _ false (place_own pb _ _ _) (own_stab pb _ _ _) (ends_of (by decide)) (either_of pb FE false fe_3 fe_10 _ (own_stab pb _ _ _) (ends_of (by decide)) (noSign_of (by decide))
      (prim_own pb FE false fe_3 fe_4 fe_10 splitArgs rfl (nfe_4 pb)
        (args_some pb FE false fe_4 fe_5 fe_9 fe_10 _ (row_stab pb _) (by decide) (nfe_5 pb) (by decide)
          (list_two pb FE false fe_5 fe_7 fe_8 fe_9 _ _ _ _
            (expr_rd pb FE false fe_5 fe_7 _ true (place_field _) (is_stab pb _) (ends_of (by decide)) (either_of pb FE false fe_5 fe_7 _ (is_stab pb _) (ends_of (by decide)) (noSign_of (by decide)) (prim_field pb FE false fe_5 fe_6 fe_7 _ _ (by decide) (nfe_6 pb) (prim_num pb FE false fe_6 fe_7 0 rfl (nfe_7 pb) parse_zero))))
            (by decide) (nfe_8 pb)
            (expr_rd pb FE false fe_8 fe_9 _ true (place_name ax 16) (is_stab pb _) (ends_of (by decide)) (either_of pb FE false fe_8 fe_9 _ (is_stab pb _) (ends_of (by decide)) (noSign_of (by decide)) (prim_name pb FE false fe_8 fe_9 rfl (nfe_9 pb) (by decide))))
            (by decide))
          (by decide) (nfe_10 pb)))))
def ElK (pb : Nat) : World → Value → Prop := ElemT pb ax 44 [nameV kx 46]
theorem rdIn1 (pb : Nat) : Reads 143 pb FE false fe_13 fe_16 (Is (inT (nameV kx 25) ax 30)) :=
  expr_rd pb FE false fe_13 fe_16 _ false (place_in _ _ _) (is_stab pb _) (ends_of (by decide)) (either_rd pb FE false fe_13 fe_16 _ (is_stab pb _) (ends_of (by decide)) (both_rd pb FE false fe_13 fe_16 _ (is_stab pb _) (ends_of (by decide))
    (matched_in pb FE false fe_13 fe_14 fe_15 fe_16 _ _ (compared_rdC pb FE false fe_13 fe_14 _ (is_stab pb _) (by unfold EndsC; decide) (joined_ofA pb FE false fe_13 fe_14 _ (is_stab pb _) (by unfold EndsA; decide) (noSign_of (by decide)) (prim_name pb FE false fe_13 fe_14 rfl (nfe_14 pb) (by decide)))) (by decide) (by decide) (by decide) (nfe_15 pb) rfl (nfe_16 pb) (by decide))))
theorem rdIn2 (pb : Nat) : Reads 143 pb FE false fe_43 fe_46 (Is (inT (nameV kx 87) ax 92)) :=
  expr_rd pb FE false fe_43 fe_46 _ false (place_in _ _ _) (is_stab pb _) (ends_of (by decide)) (either_rd pb FE false fe_43 fe_46 _ (is_stab pb _) (ends_of (by decide)) (both_rd pb FE false fe_43 fe_46 _ (is_stab pb _) (ends_of (by decide))
    (matched_in pb FE false fe_43 fe_44 fe_45 fe_46 _ _ (compared_rdC pb FE false fe_43 fe_44 _ (is_stab pb _) (by unfold EndsC; decide) (joined_ofA pb FE false fe_43 fe_44 _ (is_stab pb _) (by unfold EndsA; decide) (noSign_of (by decide)) (prim_name pb FE false fe_43 fe_44 rfl (nfe_44 pb) (by decide)))) (by decide) (by decide) (by decide) (nfe_45 pb) rfl (nfe_46 pb) (by decide))))
theorem rdNm (pb : Nat) (ge : Bool) (s s' : TS) (hk : s.k = 5) (hn : Nx pb FE s s') (hb : seen s' [91] = false) (he : Ends s') (hs : seen s [33] = false ∧ seen s [45] = false ∧ seen s [43] = false) : Reads 143 pb FE ge s s' (Is (nameV s.x s.xa)) :=
  expr_rd pb FE ge s s' _ true (place_name s.x s.xa) (is_stab pb _) he (either_of pb FE ge s s' _ (is_stab pb _) he hs (prim_name pb FE ge s s' hk hn hb))
theorem rdElK (pb : Nat) : Reads 143 pb FE true fe_21 fe_25 (ElK pb) :=
  expr_rd pb FE true fe_21 fe_25 _ true (place_elem pb _ _ _) (elem_stab pb _ _ _) (ends_of (by decide)) (either_of pb FE true fe_21 fe_25 _ (elem_stab pb _ _ _) (ends_of (by decide)) (noSign_of (by decide))
    (prim_elem pb FE true fe_21 fe_22 fe_23 fe_24 fe_25 [nameV kx 46] rfl (nfe_22 pb) (by decide) (nfe_23 pb) (list_one pb FE false fe_23 fe_24 _ _ (rdNm pb false fe_23 fe_24 rfl (nfe_24 pb) (by decide) (ends_of (by decide)) (noSign_of (by decide))) (by decide)) (by decide) (nfe_25 pb)))
theorem rdPrint2 (pb : Nat) : Reads 251 pb FE false fe_18 fe_25 (PrintW (Row2 pb (nameV kx 41) (ElK pb))) :=
  simple_print pb FE false fe_18 fe_19 fe_25 _ (by decide) (nfe_19 pb) (print_listV pb FE fe_19 fe_25 _ (row2_stab3 pb _ _ (elem_stab3 pb _ _ _)) (row2_sl pb _ _) (by decide) (by decide) (by decide)
    (list_twoV pb FE true fe_19 fe_20 fe_21 fe_25 _ _ _ (elem_stab pb _ _ _) (elem_if pb _ _ _) (rdNm pb true fe_19 fe_20 rfl (nfe_20 pb) (by decide) (ends_of (by decide)) (noSign_of (by decide))) (by decide) (nfe_21 pb) (rdElK pb) (by decide)) (by decide))
theorem rdXk (pb : Nat) : Reads 143 pb FE false fe_31 fe_33 (Is xk) :=
  expr_rd pb FE false fe_31 fe_33 _ false (place_join _ _) (is_stab pb _) (ends_of (by decide)) (either_rd pb FE false fe_31 fe_33 _ (is_stab pb _) (ends_of (by decide)) (both_rd pb FE false fe_31 fe_33 _ (is_stab pb _) (ends_of (by decide)) (matched_rd pb FE false fe_31 fe_33 _ (is_stab pb _) (ends_of (by decide)) (compared_rd pb FE false fe_31 fe_33 _ (is_stab pb _) (ends_of (by decide))
    (joined_two pb FE false fe_31 fe_32 fe_33 _ _ _ _
      (sum_rdS pb FE false fe_31 fe_32 _ (is_stab pb _) (by unfold EndsS; decide) (product_rdS pb FE false fe_31 fe_32 _ (is_stab pb _) (by unfold EndsS; decide) (unary_rd pb FE false fe_31 fe_32 _ (noSign_of (by decide)) (prim_str pb FE false fe_31 fe_32 rfl (nfe_32 pb)))))
      rfl
      (sum_rdA pb FE false fe_32 fe_33 _ (is_stab pb _) (by unfold EndsA; decide) (product_rdA pb FE false fe_32 fe_33 _ (is_stab pb _) (by unfold EndsA; decide) (unary_rd pb FE false fe_32 fe_33 _ (noSign_of (by decide)) (prim_name pb FE false fe_32 fe_33 rfl (nfe_33 pb) (by decide)))))
      (by unfold EndsA; decide))))))
theorem rdElSet (pb : Nat) : Reads 143 pb FE false fe_29 fe_36 (ElSet pb) :=
  expr_storeV pb FE false fe_29 fe_34 fe_35 fe_36 _ _ (elem_stab pb _ _ _) (elem_if pb _ _ _) (fun _ _ h => ⟨_, _, h⟩) (place_elem pb _ _ _) (by decide) 0 (by decide) (fun i t h => absurd h (by omega)) (fun t h => by cases h; decide)
    (either_ofB pb FE false fe_29 fe_34 _ (elem_stab pb _ _ _) (by unfold EndsB; decide) (noSign_of (by decide))
      (prim_elem pb FE false fe_29 fe_30 fe_31 fe_33 fe_34 [xk] rfl (nfe_30 pb) (by decide) (nfe_31 pb) (list_one pb FE false fe_31 fe_33 _ _ (rdXk pb) (by decide)) (by decide) (nfe_34 pb)))
    (nfe_35 pb) (expr_rd pb FE false fe_35 fe_36 _ false (place_num 1) (is_stab pb _) (ends_of (by decide)) (either_of pb FE false fe_35 fe_36 _ (is_stab pb _) (ends_of (by decide)) (noSign_of (by decide)) (prim_num pb FE false fe_35 fe_36 1 rfl (nfe_36 pb) parse_one)))
theorem rdSetC (pb : Nat) : Reads 143 pb FE false fe_37 fe_40 (Is setC) :=
  expr_store pb FE false fe_37 fe_38 fe_39 fe_40 _ _ _ _ (place_name cx 75) (by decide) 0 (by decide) (fun i t h => absurd h (by omega)) (fun t h => by cases h; decide)
    (either_ofB pb FE false fe_37 fe_38 _ (is_stab pb _) (by unfold EndsB; decide) (noSign_of (by decide)) (prim_name pb FE false fe_37 fe_38 rfl (nfe_38 pb) (by decide)))
    (nfe_39 pb) (expr_rd pb FE false fe_39 fe_40 _ false (place_num 0) (is_stab pb _) (ends_of (by decide)) (either_of pb FE false fe_39 fe_40 _ (is_stab pb _) (ends_of (by decide)) (noSign_of (by decide)) (prim_num pb FE false fe_39 fe_40 0 rfl (nfe_40 pb) parse_zero)))
theorem rdAddC (pb : Nat) : Reads 143 pb FE false fe_47 fe_50 (Is addC) :=
  expr_store pb FE false fe_47 fe_48 fe_49 fe_50 _ _ _ _ (place_name cx 95) (by decide) 1 (by decide) (fun i t h1 h2 => by
      obtain rfl : i = 0 := by omega
      cases h2; decide) (fun t h => by cases h; decide)
    (either_ofB pb FE false fe_47 fe_48 _ (is_stab pb _) (by unfold EndsB; decide) (noSign_of (by decide)) (prim_name pb FE false fe_47 fe_48 rfl (nfe_48 pb) (by decide)))
    (nfe_49 pb) (expr_rd pb FE false fe_49 fe_50 _ false (place_num 1) (is_stab pb _) (ends_of (by decide)) (either_of pb FE false fe_49 fe_50 _ (is_stab pb _) (ends_of (by decide)) (noSign_of (by decide)) (prim_num pb FE false fe_49 fe_50 1 rfl (nfe_50 pb) parse_one)))
end Go.Proofs.YtdbdbaepmdmnfaaGreatDoor

namespace Go.Proofs.YtdbdbaepmdmnfaaGreatDoor
open Go.RowKit
/-- The inner block's statements. -/
def VI (pb : Nat) : Nat → World → Value → Prop
  | 0 => PrintW (Row2 pb (nameV kx 41) (ElK pb))
  | 1 => Is (delT ax 57)
  | _ => WorkT (ElSet pb)
def SI : Nat → TS
  | 0 => fe_18
  | 1 => fe_26
  | 2 => fe_29
  | _ => fe_36
theorem elSet_stab (pb : Nat) : Stab pb (ElSet pb) := storeW_stab (elem_stab pb _ _ _) (is_stab pb _)
theorem elSet_stab2 (pb : Nat) : Stab2 (ElSet pb) := storeW_stab2 (elem_stab2 pb _ _ _) (is_stab2 _)
theorem elSet_stab3 (pb : Nat) : Stab3 (ElSet pb) := storeW_stab3 (elem_stab3 pb _ _ _) (is_stab3 _)
theorem vi_stab (pb : Nat) : ∀ i, i < 3 → Stab pb (VI pb i)
  | 0, _ => printW_stab (row2_stab pb _ _ (elem_stab pb _ _ _))
  | 1, _ => is_stab pb _
  | 2, _ => work_stab (elSet_stab pb)
theorem vi_stab2 (pb : Nat) : ∀ i, i < 3 → Stab2 (VI pb i)
  | 0, _ => printW_stab2 (row2_stab2 pb _ _ (elem_stab2 pb _ _ _))
  | 1, _ => is_stab2 _
  | 2, _ => work_stab2 (elSet_stab2 pb)
theorem vi_stab3 (pb : Nat) : ∀ i, i < 3 → Stab3 (VI pb i)
  | 0, _ => printW_stab3 (row2_stab3 pb _ _ (elem_stab3 pb _ _ _))
  | 1, _ => is_stab3 _
  | 2, _ => work_stab3 (elSet_stab3 pb)
theorem vi_if (pb : Nat) : ∀ i, i < 3 → IsIf (VI pb i)
  | 0, _ => printW_if
  | 1, _ => fun _ _ h => ⟨_, _, h⟩
  | 2, _ => work_if
theorem stmtsI (pb : Nat) : ∀ i, i < 3 → ReadsX (fun _ _ => False) 181 pb FE false (SI i) (SI (i + 1)) (VI pb i)
  | 0, _ => (stmt_semi pb FE false fe_18 fe_25 fe_26 _ (vi_stab pb 0 (by omega)) (noComp_of (by decide)) (rdPrint2 pb) (by decide) (by decide) (nfe_26 pb)).x (fun _ _ _ _ e => e)
  | 1, _ => (stmt_semi pb FE false fe_26 fe_28 fe_29 _ (is_stab pb _) (noComp_of (by decide)) (simple_delete pb FE false fe_26 fe_27 fe_28 _ (by unfold NoWordD; decide) (by decide) (nfe_27 pb) (deletion_all pb FE false fe_27 fe_28 rfl (nfe_28 pb) (by decide))) (by decide) (by decide) (nfe_29 pb)).x (fun _ _ _ _ e => e)
  | 2, _ => (stmt_last pb FE false fe_29 fe_36 _ (noComp_of (by decide)) (simple_work pb FE false fe_29 fe_36 _ storeW_if (noWord_of (by decide)) (rdElSet pb)) (by decide)).x (fun _ _ _ _ e => e)
theorem blockI (pb : Nat) : ReadsN 142 pb FE false fe_17 fe_37 (BlockT pb 3 (VI pb)) :=
  block_rdX (fun _ _ => False) pb FE false fe_17 3 (by omega) SI fe_37 (VI pb) (vi_stab pb) (fun i hi => (vi_stab2 pb i hi).x) (vi_if pb) (by decide) (nfe_18 pb) (stmtsI pb) (fun i hi => by
    match i, hi with
    | 0, _ => decide
    | 1, _ => decide
    | 2, _ => decide) (by decide) (nfe_37 pb)
def ForI (pb : Nat) : World → Value → Prop := ForInT kx 25 ax 30 (BlockT pb 3 (VI pb))
def ForC (pb : Nat) : World → Value → Prop := ForInT kx 87 ax 92 (BlockT pb 1 (fun _ => WorkT (Is addC)))
theorem rdForI (pb : Nat) : ReadsX inRow 181 pb FE false fe_11 fe_37 (ForI pb) :=
  stmt_forX inRow pb FE false fe_11 fe_12 fe_37 _ (by decide) (by decide) (by decide) (by decide) (by decide) (nfe_12 pb)
    (counting_in pb FE false fe_12 fe_13 fe_16 fe_17 fe_37 ax 30 _ (block_sl _ _ _) (by decide) (nfe_13 pb) (by decide) (rdIn1 pb) (by decide) (nfe_17 pb) (body_block pb FE false fe_17 fe_37 _ (by decide) (blockI pb)))
theorem rdForC (pb : Nat) : ReadsX inRow 181 pb FE false fe_41 fe_51 (ForC pb) :=
  stmt_forX inRow pb FE false fe_41 fe_42 fe_51 _ (by decide) (by decide) (by decide) (by decide) (by decide) (nfe_42 pb)
    (counting_in pb FE false fe_42 fe_43 fe_46 fe_47 fe_51 ax 92 _ (block_sl _ _ _) (by decide) (nfe_43 pb) (by decide) (rdIn2 pb) (by decide) (nfe_47 pb)
      (body_one pb FE false fe_47 fe_51 _ work_if (work_stab2 (is_stab2 _)) (by decide) (stmt_semi pb FE false fe_47 fe_50 fe_51 _ (work_stab (is_stab pb _)) (noComp_of (by decide)) (simple_work pb FE false fe_47 fe_50 _ (store_if _ _ _) (noWord_of (by decide)) (rdAddC pb)) (by decide) (by decide) (nfe_51 pb))))
/-- The statements. -/
def VE (pb : Nat) : Nat → World → Value → Prop
  | 0 => WorkT (SplitV pb)
  | 1 => ForI pb
  | 2 => WorkT (Is setC)
  | 3 => ForC pb
  | _ => PrintL pb [nameV cx 109]
def SE : Nat → TS
  | 0 => fe_1
  | 1 => fe_11
  | 2 => fe_37
  | 3 => fe_41
  | 4 => fe_51
  | _ => fe_53
theorem split_stab (pb : Nat) : Stab pb (SplitV pb) := storeW_stab (is_stab pb _) (own_stab pb _ _ _)
theorem split_stab2 (pb : Nat) : Stab2 (SplitV pb) := storeW_stab2 (is_stab2 _) (own_stab2 pb _ _ _)
theorem split_stab3 (pb : Nat) : Stab3 (SplitV pb) := storeW_stab3 (is_stab3 _) (own_stab3 pb _ _ _)
theorem ve_stab (pb : Nat) : ∀ i, i < 5 → Stab pb (VE pb i)
  | 0, _ => work_stab (split_stab pb)
  | 1, _ => forInT_stab (block_stab (vi_stab pb))
  | 2, _ => work_stab (is_stab pb _)
  | 3, _ => forInT_stab (block_stab (fun _ _ => work_stab (is_stab pb _)))
  | 4, _ => printL_stab pb _
theorem ve_stab2 (pb : Nat) : ∀ i, i < 5 → Stab2X inRow (VE pb i)
  | 0, _ => (work_stab2 (split_stab2 pb)).x
  | 1, _ => forInT_stab2 (vi_stab2 pb)
  | 2, _ => (work_stab2 (is_stab2 _)).x
  | 3, _ => forInT_stab2 (fun _ _ => work_stab2 (is_stab2 _))
  | 4, _ => (printL_stab2 pb _).x
theorem ve_stab3 (pb : Nat) : ∀ i, i < 5 → Stab3 (VE pb i)
  | 0, _ => work_stab3 (split_stab3 pb)
  | 1, _ => forInT_stab3 (block_stab3 (vi_stab3 pb))
  | 2, _ => work_stab3 (is_stab3 _)
  | 3, _ => forInT_stab3 (block_stab3 (fun _ _ => work_stab3 (is_stab3 _)))
  | 4, _ => printL_stab3 pb _
theorem ve_if (pb : Nat) : ∀ i, i < 5 → IsIf (VE pb i)
  | 0, _ => work_if
  | 1, _ => forInT_if
  | 2, _ => work_if
  | 3, _ => forInT_if
  | 4, _ => printL_if pb _
theorem work_noRow {V : World → Value → Prop} (w : World) (v : Value) (q : Nat) (h : WorkT V w v) : ¬ inRow v q := by
  obtain ⟨u, rfl, _⟩ := h
  exact not_inRow (by decide) q
theorem stmtsE (pb : Nat) : ∀ i, i < 5 → ReadsX inRow 181 pb FE false (SE i) (SE (i + 1)) (VE pb i)
  | 0, _ => (stmt_semi pb FE false fe_1 fe_10 fe_11 _ (ve_stab pb 0 (by omega)) (noComp_of (by decide)) (simple_work pb FE false fe_1 fe_10 _ storeW_if (noWord_of (by decide)) (rdSplit pb)) (by decide) (by decide) (nfe_11 pb)).x work_noRow
  | 1, _ => rdForI pb
  | 2, _ => (stmt_semi pb FE false fe_37 fe_40 fe_41 _ (ve_stab pb 2 (by omega)) (noComp_of (by decide)) (simple_work pb FE false fe_37 fe_40 _ (store_if _ _ _) (noWord_of (by decide)) (rdSetC pb)) (by decide) (by decide) (nfe_41 pb)).x work_noRow
  | 3, _ => rdForC pb
  | 4, _ => (stmt_last pb FE false fe_51 fe_53 _ (noComp_of (by decide)) (simple_print pb FE false fe_51 fe_52 fe_53 _ (by decide) (nfe_52 pb) (print_list pb FE fe_52 fe_53 [nameV cx 109] (by decide) (by decide) (by decide) (list_one pb FE true fe_52 fe_53 _ _ (rdNm pb true fe_52 fe_53 rfl (nfe_53 pb) (by decide) (ends_of (by decide)) (noSign_of (by decide))) (by decide)) (by decide))) (by decide)).x (fun w v q h => by
      obtain ⟨r, rfl, _⟩ := h
      exact not_inRow (by decide) q)
/-- The tree of the program's one block. -/
def BE (pb : Nat) : World → Value → Prop := BlockT pb 5 (VE pb)
theorem be_stab3 (pb : Nat) : Stab3 (BE pb) := block_stab3 (ve_stab3 pb)
theorem be_sl (pb : Nat) : IsSl (BE pb) := block_sl _ _ _
theorem blockE (pb : Nat) : Reads 142 pb FE false fe_0 fe_54 (BE pb) := fun w h =>
  (block_rdX inRow pb FE false fe_0 5 (by omega) SE fe_54 (VE pb) (ve_stab pb) (ve_stab2 pb) (ve_if pb) (by decide) (nfe_1 pb) (stmtsE pb) (fun i hi => by
    match i, hi with
    | 0, _ => decide
    | 1, _ => decide
    | 2, _ => decide
    | 3, _ => decide
    | 4, _ => decide) (by decide) (nfe_54 pb) w h).mono (fun _ _ ⟨v, e, hv, _, hp, ho⟩ => ⟨v, e, hv, hp, ho⟩)
theorem progE (pb : Nat) (w : World) (h : PAt w pb FE fe_0 false) : Calls Tryz.prog 74 #[.pointer (some ⟨pb, 0, none⟩)] w fun en w' => ∃ v, en = .returned v ∧ ProgT 0 (BE pb) w' v ∧ PAt w' pb FE fe_54 false ∧ Only (fun k => k = pb) w w' :=
  program_one pb FE fe_0 fe_54 0 _ (be_sl pb) (be_stab3 pb) (by decide) (by decide) (fun W hW => rule_main pb FE false fe_0 fe_54 _ (be_sl pb) (be_stab3 pb) (by decide) (by decide) (by decide) (blockE pb) W hW) rfl w h
/-- The program of Each is read. -/
theorem readE (w : World) : Calls Tryz.prog 45 #[.string FE] w fun en w' => ∃ pb v, en = .returned (.tuple #[v, .int .i64 0, .bool true]) ∧ ProgT 0 (BE pb) w' v ∧ Only (fun _ => False) w w' :=
  read_one FE 0 BE be_stab3 fe_0 fe_54 nfe_0 progE w
end Go.Proofs.YtdbdbaepmdmnfaaGreatDoor

namespace Go.Proofs.YtdbdbaepmdmnfaaGreatDoor
open Go.RowKit
variable {wT : World}
theorem look_first {w : World} {M : Nat} {x : ByteArray} (h : w.heap[M]? = some (.map #[] 0)) : (Instr.lookup 178 (.map (some M)) (.string x) true).run Tryz.prog w = .ok (.tuple #[.int .i64 0, .bool false]) w := by
  have h1 := MapKept.run_getObj_map (P := Tryz.prog) h
  have h2 : (Instr.checkKey true 10000 9 (.string x)).run Tryz.prog w = .ok () w := MapKept.run_checkKey (d := .string) Tryz.underlying9 (by simp [MapKept.IsKey]) true 9999
  have h3 : (Instr.findKey 9 (.string x) []).run Tryz.prog w = .ok none w := MapKept.run_findKey Tryz.underlying9 rfl
  simp [Instr.lookup, go_sem, h1, h2, h3]
/-- What tells the number of an array. -/
def ArrK (k B : Nat) (w : World) (v : Value) : Prop := ∃ nb, v = .agg #[.func (.func 371) #[] #[.pointer (some ⟨nb, 0, none⟩)]] ∧ B ≤ nb ∧ w.heap[nb]? = some (.cells #[.int .i64 k] 3 (0, 0))
theorem arrK_keep {k B : Nat} {w w' : World} {v : Value} (h : ArrK k B w v) (ho : Only (fun q => q < B) w w') : ArrK k B w' v := by
  obtain ⟨nb, e, k1, h1⟩ := h
  exact ⟨nb, e, k1, (ho.block nb (heap_lt h1) (by omega)).trans h1⟩
theorem arrK_down {k A B : Nat} {w : World} {v : Value} (h : ArrK k B w v) (hA : A ≤ B) : ArrK k A w v := by
  obtain ⟨nb, e, k1, h1⟩ := h
  exact ⟨nb, e, by omega, h1⟩
set_option maxRecDepth 20000 in
set_option maxHeartbeats 4000000 in
theorem arrk_made (kb mv ma mf sg : Nat) (x : ByteArray) (k : Nat) (vs : VA) (a' : Array MapEntry) (hN : NumOK x k vs.a a') (a : Int) (w : World) (h : MkV wT w kb mv ma mf sg vs) : Calls Tryz.prog 277 #[.pointer (some ⟨kb, 0, none⟩), .agg #[.string x, .int .i64 a]] w fun en w' => ∃ v, en = .returned v ∧ ArrK k w.heap.size w' v ∧ MkV wT w' kb mv ma mf sg ⟨vs.v, a'⟩ ∧ Only (fun q => q = mv ∨ q = ma) w w' := by
  have hmf := hmfT
  have hsf := hsfT
  have hsn := hsnT
  have k0 : w.cell? ⟨kb, 1, none⟩ = some (.map (some ma)) := cell_of h.k rfl
  have k4 : w.cell? ⟨kb, 4, none⟩ = some (.slice none 0 0) := cell_of h.k rfl
  have kl := heap_lt h.k
  have O2 := (onlyA w (.cells #[.string x, .int .i64 a] 92)).alloc (.cells #[.nilFunc] 430)
  have HP := hide (kparam_none kb x a _ ((O2.cell (p := ⟨kb, 4, none⟩) kl (fun e => e)).trans k4))
  have O3 := O2.alloc (.cells #[.string x, .int .i64 a] 92)
  have HN := hide (fun W (hW : Only (fun _ => False) w W) => hN ma a W ((hW.block ma (heap_lt h.a) (fun e => e)).trans h.a))
  have hvl := heap_lt h.a
  have hvl2 := heap_lt h.v
  have hkm : kb ≠ ma := fun e => h.ne (Or.inr e)
  have HK := hide h
  have HO3 := hide (O3.alloc (.cells #[.int .i64 (-1)] 3))
  clear h O2 O3 hN
  go_enter Tryz.func277, Tryz.ntmps277
  go_wp2_with (first | (go_at_call 303; refine (HP.out).mono ?_; rintro en w2 ⟨rfl, hw2⟩; subst hw2))
  have d0 : ((((w.alloc (.cells #[.string x, .int .i64 a] 92)).alloc (.cells #[.nilFunc] 430)).alloc (.cells #[.string x, .int .i64 a] 92)).alloc (.cells #[.int .i64 (-1)] 3)).drew.cell? ⟨kb, 1, none⟩ = some (.map (some ma)) := (HO3.out.cell (p := ⟨kb, 1, none⟩) kl (fun e => e)).trans k0
  have d1 : ((((w.alloc (.cells #[.string x, .int .i64 a] 92)).alloc (.cells #[.nilFunc] 430)).alloc (.cells #[.string x, .int .i64 a] 92)).alloc (.cells #[.int .i64 (-1)] 3)).drew.cell? ⟨w.heap.size, 0, none⟩ = some (.string x) := past (past (past (cell_of (new0 w _) rfl) _) _) _
  have d2 : ((((w.alloc (.cells #[.string x, .int .i64 a] 92)).alloc (.cells #[.nilFunc] 430)).alloc (.cells #[.string x, .int .i64 a] 92)).alloc (.cells #[.int .i64 (-1)] 3)).drew.cell? ⟨w.heap.size, 1, none⟩ = some (.int .i64 a) := past (past (past (cell_of (new0 w _) rfl) _) _) _
  have n0 : ((((w.alloc (.cells #[.string x, .int .i64 a] 92)).alloc (.cells #[.nilFunc] 430)).alloc (.cells #[.string x, .int .i64 a] 92)).alloc (.cells #[.int .i64 (-1)] 3)).cell? ⟨kb, 1, none⟩ = some (.map (some ma)) := (HO3.out.cell (p := ⟨kb, 1, none⟩) kl (fun e => e)).trans k0
  have n1 : ((((w.alloc (.cells #[.string x, .int .i64 a] 92)).alloc (.cells #[.nilFunc] 430)).alloc (.cells #[.string x, .int .i64 a] 92)).alloc (.cells #[.int .i64 (-1)] 3)).cell? ⟨w.heap.size, 0, none⟩ = some (.string x) := past (past (past (cell_of (new0 w _) rfl) _) _) _
  have n2 : ((((w.alloc (.cells #[.string x, .int .i64 a] 92)).alloc (.cells #[.nilFunc] 430)).alloc (.cells #[.string x, .int .i64 a] 92)).alloc (.cells #[.int .i64 (-1)] 3)).cell? ⟨w.heap.size, 1, none⟩ = some (.int .i64 a) := past (past (past (cell_of (new0 w _) rfl) _) _) _
  go_cut [6] (fun s6 wc => ∃ nb, s6 = .pointer (some ⟨nb, 0, none⟩) ∧ w.heap.size + 1 < nb ∧ wc.heap[nb]? = some (.cells #[.int .i64 k] 3 (0, 0)) ∧ wc.heap[w.heap.size + 1]? = some (.cells #[.nilFunc] 430 (0, 0)) ∧ wc.heap[ma]? = some (.map a' a'.size) ∧ Only (fun q => q = ma) w wc)
  case first =>
    go_region_held3 (fun W => W.cell? ⟨kb, 1, none⟩ = some (.map (some ma)) ∧ W.cell? ⟨w.heap.size, 0, none⟩ = some (.string x) ∧ W.cell? ⟨w.heap.size, 1, none⟩ = some (.int .i64 a)) (repeat (first | (with_reducible assumption) | (with_reducible refine past ?_ _) | (with_reducible refine pastD ?_ _) | (with_reducible refine And.intro ?_ ?_) | ((with_reducible refine farC ?_ ?_); (rotate_left; focus (simp <;> omega)))))
      (first | (go_at_call 305; refine (HN.out _ (by repeat (first | with_reducible exact Only.refl _ _ | with_reducible refine Only.alloc ?_ _ | with_reducible refine toDrew ?_))).mono ?_; rintro en w2 ⟨rfl, hm2, ho2⟩; have q0 : w2.cell? ⟨kb, 1, none⟩ = some (.map (some ma)) := (ho2.cell (p := ⟨kb, 1, none⟩) (by show kb < _; simp <;> omega) hkm).trans (by repeat (first | (with_reducible assumption) | (with_reducible refine past ?_ _) | (with_reducible refine pastD ?_ _))); have q1 : w2.cell? ⟨w.heap.size, 0, none⟩ = some (.string x) := (ho2.cell (p := ⟨w.heap.size, 0, none⟩) (by show w.heap.size < _; simp <;> omega) (by show ¬ w.heap.size = ma; omega)).trans (by repeat (first | (with_reducible assumption) | (with_reducible refine past ?_ _) | (with_reducible refine pastD ?_ _))); have q2 : w2.cell? ⟨w.heap.size, 1, none⟩ = some (.int .i64 a) := (ho2.cell (p := ⟨w.heap.size, 1, none⟩) (by show w.heap.size < _; simp <;> omega) (by show ¬ w.heap.size = ma; omega)).trans (by repeat (first | (with_reducible assumption) | (with_reducible refine past ?_ _) | (with_reducible refine pastD ?_ _))); (try (refine lay (P := w2.heap[w.heap.size + 1 + 1 + 1 + 1]? = some (.cells #[.int .i64 0] 3 (0, 0))) ?_ (fun bq => ?_); (focus (refine (ho2.block _ ?_ ?_).trans ?_; (focus (first | (simp; done) | (simp; omega))); (focus (show ¬ w.heap.size + 1 + 1 + 1 + 1 = ma; omega)); (repeat (first | ((with_reducible refine new_at2D ?_ _); focus (simp; done)) | ((with_reducible refine (heap_allocD _ _ ?_).trans ?_); (focus (first | (simp; done) | (simp; omega)))) | ((with_reducible refine new_at2 ?_ _); focus (simp; done)) | ((with_reducible refine (Below.heap_alloc _ _ _ ?_).trans ?_); (focus (first | (simp; done) | (simp; omega)))))); done)); have bc : w2.cell? ⟨w.heap.size + 1 + 1 + 1 + 1, 0, none⟩ = some (.int .i64 0) := cell_of bq rfl; have bf := free_of bq; have bl := heap_lt bq; have HBq := hide bq; clear bq)); have HB1 : Hid (w2.heap[w.heap.size + 1]? = some (.cells #[.nilFunc] 430 (0, 0))) := hide ((ho2.block (w.heap.size + 1) (by simp <;> omega) (by show ¬ w.heap.size + 1 = ma; omega)).trans (by (repeat (first | ((with_reducible refine new_at2D ?_ _); focus (simp; done)) | ((with_reducible refine (heap_allocD _ _ ?_).trans ?_); (focus (first | (simp; done) | (simp; omega)))) | ((with_reducible refine new_at2 ?_ _); focus (simp; done)) | ((with_reducible refine (Below.heap_alloc _ _ _ ?_).trans ?_); (focus (first | (simp; done) | (simp; omega)))))))); have HOw : Hid (Only (fun q => q = ma) w w2) := hide (Only.trans (by repeat (first | with_reducible exact Only.refl _ _ | with_reducible refine Only.alloc ?_ _ | with_reducible refine toDrew ?_)) ho2 (fun _ _ e => e)); have hz2 := HOw.out.size; have hz3 := heap_lt HB1.out; have HM2 := hide hm2; have HO2 := hide ho2; clear hm2 ho2))
    all_goals
      go_wp2_with fail
      go_meet
      first
        | exact ⟨w2.heap.size, rfl, by omega, new0 w2 _, (Below.heap_alloc _ _ _ hz3).trans HB1.out, (Below.heap_alloc _ _ _ (by omega)).trans HM2.out, HOw.out.alloc _⟩
        | exact ⟨w.heap.size + 1 + 1 + 1 + 1, rfl, by omega, heap_setCell_same HBq.out _, (Below.heap_setCell _ _ _ _ (by show w.heap.size + 1 ≠ w.heap.size + 1 + 1 + 1 + 1; omega)).trans HB1.out, (Below.heap_setCell _ _ _ _ (by show ma ≠ w.heap.size + 1 + 1 + 1 + 1; omega)).trans HM2.out, HOw.out.setCell (p := ⟨w.heap.size + 1 + 1 + 1 + 1, 0, none⟩) (fun h => absurd h (by show ¬ w.heap.size + 1 + 1 + 1 + 1 < w.heap.size; omega)) _⟩
  case rest =>
    obtain ⟨nb, rfl, hnb, h1, h2, h5, ho⟩ := hcut
    have r0 : wc.cell? ⟨w.heap.size + 1, 0, none⟩ = some .nilFunc := cell_of h2 rfl
    have rf := free_of h2
    have rl := heap_lt h2
    have H5 := hide h5
    have H1 := hide h1
    have H2 := hide h2
    have HO := hide ho
    clear h1 h2 h5 ho HP HN HO3 k0 k4 d0 d1 d2 n0 n1 n2
    go_wp2
    have hzc := HO.out.size
    refine bodyPost_ret (v := .agg #[.func (.func 371) #[] #[.pointer (some ⟨nb, 0, none⟩)]]) (by simp [results, Tryz.results277, go_sem, r0]) rfl ⟨_, rfl, ⟨nb, rfl, by omega, ?_⟩, ⟨?_, ?_, ?_, HK.out.nea, HK.out.lv, HK.out.la, ?_⟩, ?_⟩
    · exact (Below.heap_setCell _ _ _ _ (by show nb ≠ w.heap.size + 1; omega)).trans H1.out
    · exact (Below.heap_setCell _ _ _ _ (by show kb ≠ w.heap.size + 1; omega)).trans ((HO.out.block kb kl hkm).trans HK.out.k)
    · exact (Below.heap_setCell _ _ _ _ (by show mv ≠ w.heap.size + 1; omega)).trans ((HO.out.block mv hvl2 (fun e => HK.out.nea e.symm)).trans HK.out.v)
    · exact (Below.heap_setCell _ _ _ _ (by show ma ≠ w.heap.size + 1; omega)).trans H5.out
    · exact HK.out.t.trans ((HO.out.setCell (p := ⟨w.heap.size + 1, 0, none⟩) (fun h => absurd h (by show ¬ w.heap.size + 1 < w.heap.size; omega)) _) : Only (fun q => q = ma) w _) (fun i hi e => by have := HK.out.lv; have := HK.out.la; omega)
    · exact Only.mono (D := fun q => q = ma) (HO.out.setCell (p := ⟨w.heap.size + 1, 0, none⟩) (fun h => absurd h (by show ¬ w.heap.size + 1 < w.heap.size; omega)) _) (fun _ _ e => Or.inr e)
end Go.Proofs.YtdbdbaepmdmnfaaGreatDoor

namespace Go.Proofs.YtdbdbaepmdmnfaaGreatDoor
open Go.RowKit
variable {wT : World}
set_option maxRecDepth 20000 in
set_option maxHeartbeats 1000000 in
theorem num_first (x : ByteArray) : NumOK x 0 #[] #[⟨.string x, .int .i64 0, 0⟩] := by
  intro mv a w h
  have hm := (Below.heap_alloc _ (.cells #[.string x, .int .i64 a] 92) _ (heap_lt h)).trans h
  have hl := look_first (w := w.alloc (.cells #[.string x, .int .i64 a] 92)) (x := x) hm
  have hg := len287G (w.alloc (.cells #[.string x, .int .i64 a] 92)) mv #[] 0 hm
  obtain ⟨W2, hmu, ho, hM2⟩ := upd_vs (w := w.alloc (.cells #[.string x, .int .i64 a] 92)) (x := x) (.int .i64 0) hm rfl
  have HM := hide hM2
  have HO := hide ho
  clear h hm hM2 ho
  go_enter Tryz.func305, Tryz.ntmps305
  go_wp2_with fail
  go_ret
  exact ⟨rfl, HM.out, ((onlyA w _).mono (fun _ _ e => e.elim)).trans HO.out (fun _ _ e => e)⟩
theorem makesE_str (s : ByteArray) (vs : VA) : MakesE wT (strT s) (fun B w v => ConstE B w v 2 0 s) vs vs := by
  intro kb mv ma mf sg w h
  refine (expr_str _ s w).mono ?_
  rintro en w' ⟨rfl, rfl⟩
  have ho := ((((onlyA w (.cells #[.func (.func 298) #[] #[.pointer (some ⟨w.heap.size + 1 + 1 + 1, 0, none⟩)], .nilFunc] 338)).alloc (.cells #[.string s] 303)).alloc (.cells #[.int .i64 2, .int .i64 0, .string s] 203)).alloc (.cells #[.int .i64 2, .int .i64 0, .string s] 203)).alloc (.cells #[.func (.func 298) #[] #[.pointer (some ⟨w.heap.size + 1 + 1 + 1, 0, none⟩)], .nilFunc] 338)
  exact ⟨_, rfl, ⟨w.heap.size + 1 + 1 + 1, rfl, by omega, (Below.heap_alloc _ _ _ (by simp)).trans (new_at2 (by simp) _)⟩, h.calm ho, ho.mono (fun _ _ e => e.elim)⟩
/-- What works out the key of an element. -/
def KeyK (I : Nat → World → Value → Prop) (B : Nat) (w : World) (v : Value) : Prop := ∃ lb ab g x y z, v = .func (.func 377) #[] #[.pointer (some ⟨lb, 0, none⟩), .pointer (some ⟨ab, 0, none⟩)] ∧ (B ≤ lb ∧ B ≤ ab ∧ B ≤ g) ∧ w.heap[lb]? = some (.cells #[.slice (some ⟨g, 0, none⟩) 1 1] 252 (0, 0)) ∧ w.heap[g]? = some (.cells #[x, y] 338 (0, 0)) ∧ w.heap[ab]? = some (.cells #[z] 430 (0, 0)) ∧ ArrK 0 B w (.agg #[z]) ∧ I B w (.agg #[x, y])
set_option maxRecDepth 20000 in
set_option maxHeartbeats 4000000 in
theorem key_made (x : ByteArray) (a : Int) (t : TypeId) (u : Value) (I : Nat → World → Value → Prop) (hI : KeepsE I) (vs : VA) (a' : Array MapEntry) (vs' : VA) (hN : NumOK x 0 vs.a a') (hE : MakesE wT (.iface t u) I ⟨vs.v, a'⟩ vs') (kb mv ma mf sg : Nat) (g cap : Nat) (w : World) (h : MkV wT w kb mv ma mf sg vs) (hg : w.cell? ⟨g, 0, none⟩ = some (.iface t u)) (hgn : ¬ (g = mv ∨ g = ma)) :
    Calls Tryz.prog 294 #[.pointer (some ⟨kb, 0, none⟩), .agg #[.string x, .int .i64 a], .slice (some ⟨g, 0, none⟩) 1 cap] w fun en w' => ∃ v, en = .returned v ∧ KeyK I w.heap.size w' v ∧ MkV wT w' kb mv ma mf sg vs' ∧ Only (fun q => q = mv ∨ q = ma) w w' := by
  have hmf := hmfT
  have hsf := hsfT
  have hsn := hsnT
  have hml := heap_lt h.v
  have hkl := heap_lt h.k
  have hal := heap_lt h.a
  have hw0 := h.t.size
  have hgl := World.block_lt_of_cell? w ⟨g, 0, none⟩ hg
  simp only at hgl
  have HA := hide (fun W (hW : Only (fun _ => False) w W) => arrk_made kb mv ma mf sg x 0 vs a' hN a W (h.calm hW))
  have HE := hide (fun W (hW : MkV wT W kb mv ma mf sg ⟨vs.v, a'⟩) => exprsk_made t u I hI ⟨vs.v, a'⟩ vs' hE kb mv ma mf sg g cap W hW)
  clear h
  go_enter Tryz.func294, Tryz.ntmps294
  go_wp2_with fail
  refine (HA.out _ (onlyA w _)).mono ?_
  rintro en w1 ⟨v, rfl, hv, hk, ho⟩
  have hgw : w1.cell? ⟨g, 0, none⟩ = some (.iface t u) := (ho.cell (p := ⟨g, 0, none⟩) (by show g < _; simp; omega) hgn).trans (past hg _)
  obtain ⟨nb, rfl, hnb, hnb2⟩ := hv
  have hO1 : Only (fun q => q = mv ∨ q = ma) w w1 := fromAlloc ho
  have hz1 := ho.size
  have hz1' : w.heap.size + 1 ≤ w1.heap.size := by simpa using hz1
  have HK := hide hk
  have HN := hide hnb2
  have HO1 := hide hO1
  clear hk ho hnb2 hO1 HA hz1
  go_wp2_with fail
  refine (HE.out _ (HK.out.allocV _) (past hgw _)).mono ?_
  rintro en w2 ⟨x1, y1, rfl, hb, hi, hk, ho⟩
  have hz2 := ho.size
  have hz2' : w1.heap.size + 1 ≤ w2.heap.size := by simpa using hz2
  have hab := (ho.block w1.heap.size (by simp) (by omega)).trans (new0 w1 (.cells #[.func (.func 371) #[] #[.pointer (some ⟨nb, 0, none⟩)]] 430))
  have hnb2 := (ho.block nb (by simp; have := heap_lt HN.out; omega) (by simp at hnb; omega)).trans ((Below.heap_alloc _ _ _ (heap_lt HN.out)).trans HN.out)
  have HB := hide hb
  have Hi := hide hi
  have HK2 := hide hk
  have HO2 : Hid (Only (fun q => q = mv ∨ q = ma) w w2) := hide ((HO1.out.alloc _).trans ho (fun _ _ e => e))
  have HAb := hide hab
  have HNb := hide hnb2
  clear hb hi hk ho hab hnb2 HE HK HN HO1 hgw hz2
  go_wp2
  have HB2 : w2.heap[w1.heap.size + 1]? = some (.cells #[x1, y1] 338 (0, 0)) := by simpa using HB.out
  go_ret
  refine ⟨_, rfl, ⟨w2.heap.size, w1.heap.size, w1.heap.size + 1, x1, y1, _, rfl, ⟨by omega, by omega, by omega⟩, new0 w2 _, (Below.heap_alloc _ _ _ (heap_lt HB2)).trans HB2, (Below.heap_alloc _ _ _ (heap_lt HAb.out)).trans HAb.out, ⟨nb, rfl, by simp at hnb; omega, (Below.heap_alloc _ _ _ (heap_lt HNb.out)).trans HNb.out⟩, hI.down _ _ _ _ (hI.keep _ _ _ _ Hi.out ((onlyA w2 _).mono (fun _ _ e => e.elim))) (by simp; omega)⟩, HK2.out.allocV _, HO2.out.alloc _⟩
end Go.Proofs.YtdbdbaepmdmnfaaGreatDoor

namespace Go.Proofs.YtdbdbaepmdmnfaaGreatDoor
open Go.RowKit
variable {wT : World}
theorem keyk_keep {I : Nat → World → Value → Prop} (hI : KeepsE I) {B : Nat} {w w' : World} {v : Value} (h : KeyK I B w v) (ho : Only (fun q => q < B) w w') : KeyK I B w' v := by
  obtain ⟨lb, ab, g, x, y, z, e, ⟨k1, k2, k3⟩, h1, h2, h3, h4, h5⟩ := h
  exact ⟨lb, ab, g, x, y, z, e, ⟨k1, k2, k3⟩, (ho.block lb (heap_lt h1) (by omega)).trans h1, (ho.block g (heap_lt h2) (by omega)).trans h2, (ho.block ab (heap_lt h3) (by omega)).trans h3, arrK_keep h4 ho, hI.keep _ _ _ _ h5 ho⟩
theorem keyk_down {I : Nat → World → Value → Prop} (hI : KeepsE I) {A B : Nat} {w : World} {v : Value} (h : KeyK I B w v) (hA : A ≤ B) : KeyK I A w v := by
  obtain ⟨lb, ab, g, x, y, z, e, ⟨k1, k2, k3⟩, h1, h2, h3, h4, h5⟩ := h
  exact ⟨lb, ab, g, x, y, z, e, ⟨by omega, by omega, by omega⟩, h1, h2, h3, arrK_down h4 hA, hI.down _ _ _ _ h5 hA⟩
/-- An element, made. -/
def ElemK (I : Nat → World → Value → Prop) (B : Nat) (w : World) (v : Value) : Prop := ∃ g kq z, v = .agg #[.func (.func 386) #[] #[.pointer (some ⟨g, 0, none⟩)], .func (.func 312) #[] #[.pointer (some ⟨kq, 0, none⟩)]] ∧ B ≤ g ∧ B ≤ kq ∧ w.heap[g]? = some (.cells #[.func (.func 312) #[] #[.pointer (some ⟨kq, 0, none⟩)]] 336 (0, 0)) ∧ w.heap[kq]? = some (.cells #[z] 444 (0, 0)) ∧ KeyK I B w z
theorem elemk_keeps {I : Nat → World → Value → Prop} (hI : KeepsE I) : KeepsE (ElemK I) where
  shape := fun _ _ _ ⟨_, _, _, e, _⟩ => ⟨_, _, e, rfl, rfl⟩
  keep := fun B w w' v ⟨g, kq, z, e, k1, k2, h1, h2, h3⟩ ho => ⟨g, kq, z, e, k1, k2, (ho.block g (heap_lt h1) (by omega)).trans h1, (ho.block kq (heap_lt h2) (by omega)).trans h2, keyk_keep hI h3 ho⟩
  down := fun A B w v ⟨g, kq, z, e, k1, k2, h1, h2, h3⟩ hA => ⟨g, kq, z, e, by omega, by omega, h1, h2, keyk_down hI h3 hA⟩
set_option maxRecDepth 20000 in
set_option maxHeartbeats 4000000 in
theorem elem_made (x : ByteArray) (a : Int) (t : TypeId) (u : Value) (I : Nat → World → Value → Prop) (hI : KeepsE I) (vs : VA) (a' : Array MapEntry) (vs' : VA) (hN : NumOK x 0 vs.a a') (hE : MakesE wT (.iface t u) I ⟨vs.v, a'⟩ vs') (g cap : Nat) (hg : wT.cell? ⟨g, 0, none⟩ = some (.iface t u)) (kb mv ma mf sg : Nat) (w : World) (h : MkV wT w kb mv ma mf sg vs) :
    Calls Tryz.prog 219 #[.pointer (some ⟨kb, 0, none⟩), .agg #[.string x, .int .i64 a, .slice (some ⟨g, 0, none⟩) 1 cap]] w fun en w' => ∃ v, en = .returned v ∧ ElemK I w.heap.size w' v ∧ MkV wT w' kb mv ma mf sg vs' ∧ Only (fun q => q = mv ∨ q = ma) w w' := by
  have hmf := hmfT
  have hsf := hsfT
  have hsn := hsnT
  have hml := heap_lt h.v
  have hkl := heap_lt h.k
  have hal := heap_lt h.a
  have hw0 := h.t.size
  have hgl := World.block_lt_of_cell? wT ⟨g, 0, none⟩ hg
  simp only at hgl
  have hgn : ¬ (g = mv ∨ g = ma) := by have := h.lv; have := h.la; omega
  have HA := hide (fun W (hW : Only (fun _ => False) w W) => key_made x a t u I hI vs a' vs' hN hE kb mv ma mf sg g cap W (h.calm hW) (((h.calm hW).t.cell (p := ⟨g, 0, none⟩) hgl (fun e => e)).trans hg) hgn)
  have HF := hide (found_made 312)
  clear h
  go_enter Tryz.func219, Tryz.ntmps219
  go_wp2_with fail
  refine (HA.out _ ((onlyA w _).alloc _)).mono ?_
  rintro en w1 ⟨v, rfl, hv, hk, ho⟩
  have hz1 := ho.size
  have hz1' : w.heap.size + 1 + 1 ≤ w1.heap.size := by simpa using hz1
  have hb := (ho.block (w.heap.size + 1) (by simp) (by omega)).trans (new_at2 (W := w.alloc _) (by simp) (.cells #[.nilFunc, .nilFunc] 338))
  obtain ⟨lb, ab, g2, x2, y2, z2, rfl, hk2⟩ := hv
  have HV : Hid (KeyK I (w.heap.size + 1 + 1) w1 (.func (.func 377) #[] #[.pointer (some ⟨lb, 0, none⟩), .pointer (some ⟨ab, 0, none⟩)])) := hide (by
    have := (⟨lb, ab, g2, x2, y2, z2, rfl, hk2⟩ : KeyK I _ w1 (.func (.func 377) #[] #[.pointer (some ⟨lb, 0, none⟩), .pointer (some ⟨ab, 0, none⟩)]))
    exact keyk_down hI this (by simp))
  have HK := hide hk
  have HB := hide hb
  have HO1 : Hid (Only (fun q => q = mv ∨ q = ma) w w1) := hide (fromAlloc (fromAlloc ho))
  clear hk2 hk ho hb HA hz1
  go_wp2_with (go_at_call 306; refine (HF.out _ _).mono ?_; rintro en w2 ⟨rfl, hw2⟩; have hO2 : Only (fun _ => False) (w1.alloc (.cells #[.func (.func 377) #[] #[.pointer (some ⟨lb, 0, none⟩), .pointer (some ⟨ab, 0, none⟩)]] 444)) w2 := hw2 ▸ (onlyA _ _).alloc _; have hg2 : w2.heap[w1.heap.size + 1]? = some (.cells #[.func (.func 312) #[] #[.pointer (some ⟨w1.heap.size, 0, none⟩)]] 336 (0, 0)) := hw2 ▸ (Below.heap_alloc _ _ _ (by simp)).trans (new_at2 (by simp) _); have hq2 := (hO2.block w1.heap.size (by simp) (fun e => e)).trans (new0 w1 (.cells #[.func (.func 377) #[] #[.pointer (some ⟨lb, 0, none⟩), .pointer (some ⟨ab, 0, none⟩)]] 444)); have hb2 := (hO2.block (w.heap.size + 1) (by simp; omega) (fun e => e)).trans ((Below.heap_alloc _ _ _ (heap_lt HB.out)).trans HB.out); have r0 : w2.cell? ⟨w.heap.size + 1, 0, none⟩ = some .nilFunc := cell_of hb2 rfl; have r1 : w2.cell? ⟨w.heap.size + 1, 1, none⟩ = some .nilFunc := cell_of hb2 rfl; have rf := free_of hb2; have rl := heap_lt hb2; have HG := hide hg2; have HQ := hide hq2; have HO2 := hide hO2; clear hw2 hg2 hq2 hb2 hO2)
  have hF : Only (fun q => q = w.heap.size + 1) w2 ((w2.setCell ⟨w.heap.size + 1, 0, none⟩ (.func (.func 386) #[] #[.pointer (some ⟨w1.heap.size + 1, 0, none⟩)])).setCell ⟨w.heap.size + 1, 1, none⟩ (.func (.func 312) #[] #[.pointer (some ⟨w1.heap.size, 0, none⟩)])) := ((Only.refl (fun q => q = w.heap.size + 1) w2).setCell (p := ⟨w.heap.size + 1, 0, none⟩) (fun _ => rfl) _).setCell (p := ⟨w.heap.size + 1, 1, none⟩) (fun _ => rfl) _
  have hO12 : Only (fun _ => False) w1 w2 := (onlyA w1 _).trans HO2.out (fun _ _ e => e)
  refine bodyPost_ret (v := .agg #[.func (.func 386) #[] #[.pointer (some ⟨w1.heap.size + 1, 0, none⟩)], .func (.func 312) #[] #[.pointer (some ⟨w1.heap.size, 0, none⟩)]]) (by simp [results, Tryz.results219, go_sem, r0, r1]) rfl ⟨_, rfl, ⟨w1.heap.size + 1, w1.heap.size, _, rfl, by omega, by omega, (hF.block _ (heap_lt HG.out) (by omega)).trans HG.out, (hF.block _ (heap_lt HQ.out) (by omega)).trans HQ.out, ?_⟩, (HK.out.calm hO12).far hF (by omega) (by omega) (by omega) (by omega), ?_⟩
  · refine keyk_down hI (keyk_keep hI HV.out ?_) (by omega)
    exact (hO12.mono (fun _ _ e => e.elim)).trans hF (fun i hi e => by omega)
  · exact (HO1.out.trans hO12 (fun _ _ e => e.elim)).trans hF (fun i hi e => absurd hi (by omega))
set_option maxRecDepth 20000 in
set_option maxHeartbeats 4000000 in
theorem mkx_elem (x : ByteArray) (a : Int) (po : Option Addr) (cap : Nat) (I : Nat → World → Value → Prop) (hI : KeepsE I) (vs vs' : VA) (hM : ∀ kb mv ma mf sg W, MkV wT W kb mv ma mf sg vs → Calls Tryz.prog 219 #[.pointer (some ⟨kb, 0, none⟩), (.agg #[.string x, .int .i64 a, .slice po 1 cap])] W fun en w' => ∃ v, en = .returned v ∧ I W.heap.size w' v ∧ MkV wT w' kb mv ma mf sg vs' ∧ Only (fun q => q = mv ∨ q = ma) W w') : MakesE wT (.iface 306 (.agg #[.string x, .int .i64 a, .slice po 1 cap])) I vs vs' := by
  intro kb mv ma mf sg w h
  have hmf := hmfT
  have hsf := hsfT
  have hsn := hsnT
  have hml := heap_lt h.v
  have hkl := heap_lt h.k
  have hal := heap_lt h.a
  have hw0 := h.t.size
  have e0 : ∀ W, (Instr.typeAssert (.iface 306 (.agg #[.string x, .int .i64 a, .slice po 1 cap])) 238 300 true).run Tryz.prog W = .ok (.tuple #[.agg #[.int .i64 0], .bool false]) W := fun W => by kernel_rfl
  have e1 : ∀ W, (Instr.typeAssert (.iface 306 (.agg #[.string x, .int .i64 a, .slice po 1 cap])) 238 303 true).run Tryz.prog W = .ok (.tuple #[.agg #[.string ⟨#[]⟩], .bool false]) W := fun W => by kernel_rfl
  have e2 : ∀ W, (Instr.typeAssert (.iface 306 (.agg #[.string x, .int .i64 a, .slice po 1 cap])) 238 304 true).run Tryz.prog W = .ok (.tuple #[.agg #[.string ⟨#[]⟩], .bool false]) W := fun W => by kernel_rfl
  have e3 : ∀ W, (Instr.typeAssert (.iface 306 (.agg #[.string x, .int .i64 a, .slice po 1 cap])) 238 92 true).run Tryz.prog W = .ok (.tuple #[.agg #[.string ⟨#[]⟩, .int .i64 0], .bool false]) W := fun W => by kernel_rfl
  have ey : ∀ W, (Instr.typeAssert (.iface 306 (.agg #[.string x, .int .i64 a, .slice po 1 cap])) 238 306 true).run Tryz.prog W = .ok (.tuple #[.agg #[.string x, .int .i64 a, .slice po 1 cap], .bool true]) W := fun W => by kernel_rfl
  have HR := hide (fun W (hW : Only (fun _ => False) w W) => hM kb mv ma mf sg W (h.calm hW))
  clear h hM
  go_enter Tryz.func163, Tryz.ntmps163
  go_wp2_with fail
  refine (HR.out _ ((onlyA w _).alloc _)).mono ?_
  rintro en w2 ⟨v, rfl, hv, hk, ho⟩
  obtain ⟨x1, y1, rfl, hx1, hy1⟩ := hI.shape _ _ _ hv
  have hb := (ho.block w.heap.size (by simp; omega) (by omega)).trans ((Below.heap_alloc _ _ _ (by simp)).trans (new0 w _))
  have r0 : w2.cell? ⟨w.heap.size, 0, none⟩ = some .nilFunc := cell_of hb rfl
  have r1 : w2.cell? ⟨w.heap.size, 1, none⟩ = some .nilFunc := cell_of hb rfl
  have rf := free_of hb
  have rl := heap_lt hb
  have s1 : ∀ (a : Addr) (W : World), (store a x1).run Tryz.prog W = stored Tryz.prog W a x1 .plain := fun a W => run_store _ W a _ _ hx1
  have s2 : ∀ (a : Addr) (W : World), (store a y1).run Tryz.prog W = stored Tryz.prog W a y1 .plain := fun a W => run_store _ W a _ _ hy1
  have HV := hide hv
  have HK := hide hk
  have HO := hide ho
  clear hv ho hb HR hk
  go_wp2
  have hF : Only (fun q => q = w.heap.size) w2 ((w2.setCell ⟨w.heap.size, 0, none⟩ x1).setCell ⟨w.heap.size, 1, none⟩ y1) := ((Only.refl (fun q => q = w.heap.size) w2).setCell (p := ⟨w.heap.size, 0, none⟩) (fun _ => rfl) _).setCell (p := ⟨w.heap.size, 1, none⟩) (fun _ => rfl) _
  refine bodyPost_ret (v := .agg #[x1, y1]) (by simp [results, Tryz.results163, go_sem, r0, r1]) rfl ⟨_, rfl, hI.down _ _ _ _ (hI.keep _ _ _ _ HV.out (hF.mono (fun i _ e => by rw [e]; simp; omega))) (by simp; omega), HK.out.far hF (by omega) (by omega) (by omega) (by omega), ?_⟩
  exact only_box ((onlyA w _).alloc _) HO.out hF (Nat.le_refl _)
theorem makesE_elem (x : ByteArray) (a : Int) (t : TypeId) (u : Value) (I : Nat → World → Value → Prop) (hI : KeepsE I) (vs : VA) (a' : Array MapEntry) (vs' : VA) (hN : NumOK x 0 vs.a a') (hE : MakesE wT (.iface t u) I ⟨vs.v, a'⟩ vs') (g cap : Nat) (hg : wT.cell? ⟨g, 0, none⟩ = some (.iface t u)) : MakesE wT (.iface 306 (.agg #[.string x, .int .i64 a, .slice (some ⟨g, 0, none⟩) 1 cap])) (ElemK I) vs vs' :=
  mkx_elem x a (some ⟨g, 0, none⟩) cap (ElemK I) (elemk_keeps hI) vs vs' (fun kb mv ma mf sg W h => elem_made x a t u I hI vs a' vs' hN hE g cap hg kb mv ma mf sg W h)
end Go.Proofs.YtdbdbaepmdmnfaaGreatDoor

