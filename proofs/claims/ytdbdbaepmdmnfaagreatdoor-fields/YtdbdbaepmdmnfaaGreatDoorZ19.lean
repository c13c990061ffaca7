import Derived.Test.YtdbdbaepmdmnfaaGreatDoorZ10
import Derived.Test.YtdbdbaepmdmnfaaGreatDoorZ05
import Derived.KernelRfl
namespace Go.Proofs.YtdbdbaepmdmnfaaGreatDoor
open Go.RowKit
set_option maxRecDepth 10000 in
set_option maxHeartbeats 4000000 in
/-- The sign at a place: two bytes. -/
theorem sign_two (b : Nat) (T : ByteArray) (i : Nat) (dv : Bool) (hi : i + 2 ≤ T.size) (h5 : T.size ≤ 65000) (hd : dblB (T.extract i (i + 2)).data.toList = true) (w : World) (h : TkAt w b T i dv) :
    Calls Tryz.prog 179 #[.pointer (some ⟨b, 0, none⟩)] w fun en w' => en = .returned (.tuple #[tokV 9 (T.extract i (i + 2)) i, .int .i64 ((i + 2 : Nat) : Int)]) ∧ Only (fun _ => False) w w' := by
  have hl := h.lt
  have HT := hide h
  obtain ⟨c0, c1, c2⟩ := h
  have hii : (i : Int) ≤ (T.size : Int) := by omega
  obtain ⟨X, HX⟩ : ∃ X, Hid (X = T.extract i (i + 2)) := ⟨_, rfl⟩
  have HD : ∀ W, Hid (Calls Tryz.prog 244 #[.string ((T.extract i T.size).extract 0 2)] W fun e w' => e = .returned (.bool true) ∧ w' = W) := fun W => by
    show Calls _ _ _ _ _
    have h3 := dbl_any ((T.extract i T.size).extract 0 2) W
    rw [ext2 T i hi, hd] at h3
    exact h3
  rw [← HX.out]
  have HTk : ∀ (o : Obj) (n : Nat), Hid (Calls Tryz.prog 239 #[.pointer (some ⟨b, 0, none⟩), .int .i64 9, .int .i64 ((i : Int) + 2)] ((w.alloc o).drewN n) fun en w' => en = .returned (.tuple #[tokV 9 X i, .int .i64 ((i : Int) + 2)]) ∧ Only (fun _ => False) ((w.alloc o).drewN n) w') := fun o n => by
    rw [HX.out]
    exact token_any b T i dv 9 (i + 2) (by omega) (by omega) _ ((HT.out.alloc hl o).drewN n)
  have hd1 : (1 : Int) < ((T.size - i : Nat) : Int) := by omega
  clear hd
  go_enter Tryz.func179, Tryz.ntmps179
  go_wp2
  go_quiet (fail)
  go_wp2_with (first | (go_at_call 244; refine ((HD _).out).mono ?_; rintro e w' ⟨rfl, rfl⟩) | (go_at_call 239; refine ((HTk _ _).out).mono ?_; rintro e w1 ⟨rfl, ho1⟩; obtain ⟨HO1, q0, q1, q2, qf⟩ := tokbox ho1; clear ho1; unfold tokV))
  exact bodyPost_ret (v := .tuple #[.agg #[.int .i64 9, .string X, .int .i64 i], .int .i64 ((i : Int) + 2)]) (by simp [results, Tryz.results179, go_sem, q0, q1, q2]) rfl ⟨by unfold tokV; rfl, tokset HO1.out _ _ _⟩
set_option maxRecDepth 10000 in
set_option maxHeartbeats 8000000 in
/-- A number of at most 18 digits, no letter behind it. -/
theorem number_any (b : Nat) (T : ByteArray) (i : Nat) (dv : Bool) (hi : i ≤ T.size) (h5 : T.size ≤ 65000) (h18 : runTo digB T.data.toList i ≤ i + 18) (hle : ∀ c, T.data.toList[runTo digB T.data.toList i]? = some c → letB c = false) (w : World) (h : TkAt w b T i dv) :
    Calls Tryz.prog 174 #[.pointer (some ⟨b, 0, none⟩)] w fun en w' => en = .returned (.tuple #[tokV 2 (T.extract i (runTo digB T.data.toList i)) i, .int .i64 (runTo digB T.data.toList i)]) ∧ Only (fun _ => False) w w' := by
  have hl := h.lt
  have HT := hide h
  obtain ⟨c0, c1, c2⟩ := h
  obtain ⟨E, HE⟩ : ∃ E, Hid (E = runTo digB T.data.toList i) := ⟨_, rfl⟩
  rw [← HE.out] at h18 hle ⊢
  have hEl : E ≤ T.size := by rw [HE.out]; have := runTo_le (p := digB) (l := T.data.toList) (k := i) (by rw [len_eq]; exact hi); rw [len_eq] at this; exact this
  have hiE : i ≤ E := by rw [HE.out]; exact runTo_ge _ _ _
  obtain ⟨X, HX⟩ : ∃ X, Hid (X = T.extract i E) := ⟨_, rfl⟩
  rw [← HX.out]
  have HTk : ∀ (o : Obj) (n : Nat), Hid (Calls Tryz.prog 239 #[.pointer (some ⟨b, 0, none⟩), .int .i64 2, .int .i64 E] ((w.alloc o).drewN n) fun en w' => en = .returned (.tuple #[tokV 2 X i, .int .i64 E]) ∧ Only (fun _ => False) ((w.alloc o).drewN n) w') := fun o n => by
    rw [HX.out]
    exact token_any b T i dv 2 E hiE hEl _ ((HT.out.alloc hl o).drewN n)
  have HLe := hide hle
  clear hle
  go_enter Tryz.func174, Tryz.ntmps174
  go_wp2
  go_loopw [4] (fun s4 wr => ∃ k : Nat, s4 = .int .i64 k ∧ i ≤ k ∧ k ≤ E ∧ runTo digB T.data.toList k = E ∧ wr = w.alloc (.cells #[.int .i64 0, .string ⟨#[]⟩, .int .i64 0] 152)) (fun s4 _ => T.size - (intOf s4).toNat)
  case atStart => exact ⟨i, rfl, Nat.le_refl _, hiE, HE.out.symm, rfl⟩
  case round =>
    obtain ⟨k, rfl, hik, hkE, hrk, rfl⟩ := hrel
    have HRk := hide hrk
    clear hrk
    by_cases hlt : k < T.size
    · have hli : (k : Int) < (T.size : Int) := by omega
      have hget := get_of_lt T k hlt
      cases h2 : digB T[k]
      · have hkE2 : k = E := by
          rw [← HRk.out]
          exact (runTo_stop (fun c hc => by rw [hget] at hc; cases hc; exact h2)).symm
        obtain rfl : k = E := hkE2
        have h1 : letB T[k] = false := HLe.out _ hget
        clear hget
        have hii : (i : Int) ≤ (k : Int) := by omega
        have hee : ¬ (18 : Int) < (k : Int) - (i : Int) := by omega
        go_wp2_with (first | (go_at_call 173; refine (tdigit_any _ _).mono ?_; rintro e w' ⟨rfl, rfl⟩; rw [h2]) | (go_at_call 175; refine (tletter_any _ _).mono ?_; rintro e w' ⟨rfl, rfl⟩; rw [h1]))
        refine ((HTk _ 0).out).mono ?_
        rintro e w1 ⟨rfl, ho1⟩
        obtain ⟨HO1, q0, q1, q2, qf⟩ := tokbox ho1
        clear ho1
        unfold tokV
        go_wp2
        exact bodyPost_ret (v := .tuple #[.agg #[.int .i64 2, .string X, .int .i64 i], .int .i64 k]) (by simp [results, Tryz.results174, go_sem, q0, q1, q2]) rfl ⟨by unfold tokV; rfl, tokset HO1.out _ _ _⟩
      · have HR2 : Hid (runTo digB T.data.toList (k + 1) = E) := by
          show _ = E
          rw [runTo_step hget h2]; exact HRk.out
        clear hget
        go_wp2_with (first | (go_at_call 173; refine (tdigit_any _ _).mono ?_; rintro e w' ⟨rfl, rfl⟩; rw [h2]))
        go_roundw
        case rel => exact ⟨k + 1, by go_num, by omega, by have := runTo_ge digB T.data.toList (k + 1); rw [HR2.out] at this; omega, HR2.out, by trivial⟩
        case measure => simp [intOf]; omega
    · have hli : ¬ (k : Int) < (T.size : Int) := by omega
      have hkE2 : k = E := by
        rw [← HRk.out]
        exact (runTo_stop (fun c hc => by rw [get_none T k (by omega)] at hc; cases hc)).symm
      obtain rfl : k = E := hkE2
      have hee : ¬ (18 : Int) < (k : Int) - (i : Int) := by omega
      go_wp2_with fail
      refine ((HTk _ 0).out).mono ?_
      rintro e w1 ⟨rfl, ho1⟩
      obtain ⟨HO1, q0, q1, q2, qf⟩ := tokbox ho1
      clear ho1
      unfold tokV
      go_wp2
      exact bodyPost_ret (v := .tuple #[.agg #[.int .i64 2, .string X, .int .i64 i], .int .i64 k]) (by simp [results, Tryz.results174, go_sem, q0, q1, q2]) rfl ⟨by unfold tokV; rfl, tokset HO1.out _ _ _⟩
set_option maxRecDepth 10000 in
set_option maxHeartbeats 8000000 in
theorem read_number (pb : Nat) (T : ByteArray) (i : Nat) (dv : Bool) (k : Nat) (x : ByteArray) (e : Nat) (hi : i < T.size) (hdg : digB T[i] = true)
    (hsub : ∀ w, TkAt w pb T i dv → Calls Tryz.prog 174 #[.pointer (some ⟨pb, 0, none⟩)] w fun en w' => en = .returned (.tuple #[tokV k x i, .int .i64 e]) ∧ Only (fun _ => False) w w') : ReadsTo pb T i dv k x e := by
  intro w h
  have hl := h.lt
  have HT := hide h
  have HSub := hide hsub
  obtain ⟨c0, c1, c2⟩ := h
  have hli : (i : Int) < (T.size : Int) := by omega
  clear hsub
  unfold tokV
  go_enter Tryz.func135, Tryz.ntmps135
  go_wp2_with (go_at_call 171; refine (tended_no pb T i _ hi _ (HT.out.alloc hl _)).mono ?_; rintro e w' ⟨rfl, n, rfl⟩)
  go_quiet (fail)
  go_wp2_with (first | (go_at_call 173; refine (tdigit_any _ _).mono ?_; rintro e w' ⟨rfl, rfl⟩; rw [hdg]) | (go_at_call 174; refine (HSub.out _ ((HT.out.alloc hl _).drewN _)).mono ?_; rintro e w1 ⟨rfl, ho1⟩; obtain ⟨HO1, q0, q1, q2, qf⟩ := tokbox ho1; clear ho1; unfold tokV))
  exact bodyPost_ret (v := .tuple #[.agg #[.int .i64 k, .string x, .int .i64 i], .int .i64 e]) (by simp [results, Tryz.results135, go_sem, q0, q1, q2]) rfl ⟨rfl, tokset HO1.out _ _ _⟩
end Go.Proofs.YtdbdbaepmdmnfaaGreatDoor

namespace Go.Proofs.YtdbdbaepmdmnfaaGreatDoor
open Go.RowKit
theorem takeWhile_mid {p : UInt8 → Bool} : ∀ {l : List UInt8} {i : Nat} {c : UInt8}, i < (l.takeWhile p).length → l[i]? = some c → p c = true
  | [], _, _, _, h => by simp at h
  | x :: l, i, c, hi, h => by
    rw [List.takeWhile_cons] at hi
    cases hx : p x with
    | false => rw [hx] at hi; simp at hi
    | true =>
      rw [hx] at hi
      cases i with
      | zero => cases h; exact hx
      | succ i => exact takeWhile_mid (l := l) (i := i) (by simpa using hi) h
theorem runTo_mid {p : UInt8 → Bool} {l : List UInt8} {k j : Nat} (h1 : k ≤ j) (h2 : j < runTo p l k) {c : UInt8} (hc : l[j]? = some c) : p c = true := by
  unfold runTo at h2
  refine takeWhile_mid (l := l.drop k) (i := j - k) (by omega) ?_
  rw [List.getElem?_drop, show k + (j - k) = j by omega]
  exact hc
def plainB (c : UInt8) : Bool := !((c.toNat : Int) == 34) && !((c.toNat : Int) == 10) && !((c.toNat : Int) == 92)
def letAt (l : List UInt8) (e : Nat) : Bool := match l[e]? with | some c => letB c | none => false
/-- The token behind a place, of texts without remarks, patterns and backslashes. -/
def nxAt (T : ByteArray) (l : List UInt8) (j : Nat) : Option TS :=
  match l[j]? with
  | none => if j = T.size then some ⟨j, endsB 1 [], 1, ⟨#[]⟩, j⟩ else none
  | some c =>
    if (c.toNat : Int) == 35 then none
    else if digB c then
      let e := runTo digB l j
      if e ≤ j + 18 ∧ letAt l e = false then some ⟨e, endsB 2 (T.extract j e).data.toList, 2, T.extract j e, j⟩ else none
    else if letB c then
      let e := runTo namB l j
      let x := T.extract j e
      let k := nameK x.data.toList l e
      some ⟨e, endsB k x.data.toList, k, x, j⟩
    else if (c.toNat : Int) == 34 then
      let q := runTo plainB l (j + 1)
      if isAt l q 34 = true then
        let x := ofB (cutL l (j + 1) q)
        some ⟨q + 1, endsB 3 x.data.toList, 3, x, j⟩
      else none
    else if (c.toNat : Int) == 47 then none
    else if j + 2 ≤ T.size ∧ dblB (T.extract j (j + 2)).data.toList = true then some ⟨j + 2, endsB 9 (T.extract j (j + 2)).data.toList, 9, T.extract j (j + 2), j⟩
    else if (j + 1 = T.size ∨ dblB (T.extract j (j + 2)).data.toList = false) ∧ sglB c = true then some ⟨j + 1, endsB 9 (T.extract j (j + 1)).data.toList, 9, T.extract j (j + 1), j⟩
    else none
def nxB (T : ByteArray) (s : TS) : Option TS := nxAt T T.data.toList (runTo blankB T.data.toList s.i)
theorem nx_tok (pb : Nat) (T : ByteArray) (s s' : TS) (h5 : T.size ≤ 65000) (hi : s.i ≤ T.size) (h : nxB T s = some s') : Nx pb T s s' := by
  unfold nxB at h
  have hjl : runTo blankB T.data.toList s.i ≤ T.size := by
    have := runTo_le (p := blankB) (l := T.data.toList) (k := s.i) (by rw [len_eq]; exact hi)
    rw [len_eq] at this
    exact this
  generalize hj : runTo blankB T.data.toList s.i = j at h hjl
  unfold nxAt at h
  dsimp only at h
  split at h
  · rename_i hn
    split at h
    · rename_i hjT
      cases h
      refine nx_of pb T s _ hi h5 hj (fun c hc => by rw [hn] at hc; cases hc) ?_ rfl
      show ReadsTo pb T j s.dv 1 ⟨#[]⟩ j
      rw [hjT]
      exact read_end pb T s.dv
    · cases h
  · rename_i c hc
    have hjs : j < T.size := by
      rcases Nat.lt_or_ge j T.size with h1 | h1
      · exact h1
      · rw [get_none T j h1] at hc; cases hc
    have hcj : T[j] = c := by
      rw [get_of_lt T j hjs] at hc
      exact Option.some.inj hc
    split at h
    · cases h
    · rename_i h35
      have hc35 : ∀ d, T.data.toList[j]? = some d → ((d.toNat : Int) == 35) = false := fun d hd => by
        rw [hc] at hd
        cases hd
        simpa using h35
      split at h
      · rename_i hdg
        split at h
        · rename_i hcond
          cases h
          refine nx_of pb T s _ hi h5 hj hc35 ?_ rfl
          exact read_number pb T j s.dv _ _ _ hjs (by rw [hcj]; exact hdg) (fun w hw => number_any pb T j s.dv (by omega) h5 hcond.1 (fun d hd => by
            have := hcond.2
            unfold letAt at this
            rw [hd] at this
            exact this) w hw)
        · cases h
      · rename_i hdg
        have hdg' : digB T[j] = false := by rw [hcj]; simpa using hdg
        split at h
        · rename_i hlt
          cases h
          refine nx_of pb T s _ hi h5 hj hc35 ?_ rfl
          exact read_name pb T j s.dv _ _ _ hjs hdg' (by rw [hcj]; exact hlt) (fun w hw => name_any pb T j s.dv (by omega) h5 w hw)
        · rename_i hlt
          have hlt' : letB T[j] = false := by rw [hcj]; simpa using hlt
          split at h
          · rename_i hqt
            split at h
            · rename_i hq
              cases h
              refine nx_of pb T s _ hi h5 hj hc35 ?_ rfl
              have hql := isAt_ltB hq
              rw [len_eq] at hql
              exact read_string pb T j s.dv _ _ _ hjs hdg' hlt' (by rw [hcj]; exact hqt) (fun w hw => quoted_plain pb T j s.dv (runTo plainB T.data.toList (j + 1)) (by have := runTo_ge plainB T.data.toList (j + 1); omega) hql h5 hq (fun m h1 h2 d hd => by
                have := runTo_mid h1 h2 hd
                unfold plainB at this
                simp only [Bool.and_eq_true, Bool.not_eq_true'] at this
                exact ⟨this.1.1, this.1.2, this.2⟩) w hw)
            · cases h
          · rename_i hqt
            have hqt' : ((T[j].toNat : Int) == 34) = false := by rw [hcj]; simpa using hqt
            split at h
            · cases h
            · rename_i hsl
              have hsl' : ((T[j].toNat : Int) == 47) = false := by rw [hcj]; simpa using hsl
              split at h
              · rename_i hd
                cases h
                refine nx_of pb T s _ hi h5 hj hc35 ?_ rfl
                exact read_sign pb T j s.dv _ _ _ hjs hdg' hlt' hqt' hsl' (fun w hw => sign_two pb T j s.dv hd.1 h5 hd.2 w hw)
              · split at h
                · rename_i hd
                  cases h
                  refine nx_of pb T s _ hi h5 hj hc35 ?_ rfl
                  exact read_sign pb T j s.dv _ _ _ hjs hdg' hlt' hqt' hsl' (fun w hw => sign_one pb T j s.dv hjs h5 hd.1 (by rw [hcj]; exact hd.2) w hw)
                · cases h
end Go.Proofs.YtdbdbaepmdmnfaaGreatDoor

namespace Go.Proofs.YtdbdbaepmdmnfaaGreatDoor
open Go.RowKit
def F3 : ByteArray := ⟨#[123, 32, 112, 114, 105, 110, 116, 32, 78, 70, 59, 32, 102, 111, 114, 32, 40, 105, 32, 61, 32, 49, 59, 32, 105, 32, 60, 61, 32, 78, 70, 59, 32, 105, 32, 43, 61, 32, 49, 41, 32, 112, 114, 105, 110, 116, 32, 36, 105, 59, 32, 36, 49, 32, 61, 32, 36, 49, 59, 32, 112, 114, 105, 110, 116, 59, 32, 112, 114, 105, 110, 116, 32, 78, 70, 59, 32, 125]⟩
def f3_0 : TS := ⟨1, false, 9, ⟨#[123]⟩, 0⟩
def f3_1 : TS := ⟨7, false, 7, ⟨#[112, 114, 105, 110, 116]⟩, 2⟩
def f3_2 : TS := ⟨10, true, 5, ⟨#[78, 70]⟩, 8⟩
def f3_3 : TS := ⟨11, false, 9, ⟨#[59]⟩, 10⟩
def f3_4 : TS := ⟨15, false, 7, ⟨#[102, 111, 114]⟩, 12⟩
def f3_5 : TS := ⟨17, false, 9, ⟨#[40]⟩, 16⟩
def f3_6 : TS := ⟨18, true, 5, ⟨#[105]⟩, 17⟩
def f3_7 : TS := ⟨20, false, 9, ⟨#[61]⟩, 19⟩
def f3_8 : TS := ⟨22, true, 2, ⟨#[49]⟩, 21⟩
def f3_9 : TS := ⟨23, false, 9, ⟨#[59]⟩, 22⟩
def f3_10 : TS := ⟨25, true, 5, ⟨#[105]⟩, 24⟩
def f3_11 : TS := ⟨28, false, 9, ⟨#[60, 61]⟩, 26⟩
def f3_12 : TS := ⟨31, true, 5, ⟨#[78, 70]⟩, 29⟩
def f3_13 : TS := ⟨32, false, 9, ⟨#[59]⟩, 31⟩
def f3_14 : TS := ⟨34, true, 5, ⟨#[105]⟩, 33⟩
def f3_15 : TS := ⟨37, false, 9, ⟨#[43, 61]⟩, 35⟩
def f3_16 : TS := ⟨39, true, 2, ⟨#[49]⟩, 38⟩
def f3_17 : TS := ⟨40, true, 9, ⟨#[41]⟩, 39⟩
def f3_18 : TS := ⟨46, false, 7, ⟨#[112, 114, 105, 110, 116]⟩, 41⟩
def f3_19 : TS := ⟨48, false, 9, ⟨#[36]⟩, 47⟩
def f3_20 : TS := ⟨49, true, 5, ⟨#[105]⟩, 48⟩
def f3_21 : TS := ⟨50, false, 9, ⟨#[59]⟩, 49⟩
def f3_22 : TS := ⟨52, false, 9, ⟨#[36]⟩, 51⟩
def f3_23 : TS := ⟨53, true, 2, ⟨#[49]⟩, 52⟩
def f3_24 : TS := ⟨55, false, 9, ⟨#[61]⟩, 54⟩
def f3_25 : TS := ⟨57, false, 9, ⟨#[36]⟩, 56⟩
def f3_26 : TS := ⟨58, true, 2, ⟨#[49]⟩, 57⟩
def f3_27 : TS := ⟨59, false, 9, ⟨#[59]⟩, 58⟩
def f3_28 : TS := ⟨65, false, 7, ⟨#[112, 114, 105, 110, 116]⟩, 60⟩
def f3_29 : TS := ⟨66, false, 9, ⟨#[59]⟩, 65⟩
def f3_30 : TS := ⟨72, false, 7, ⟨#[112, 114, 105, 110, 116]⟩, 67⟩
def f3_31 : TS := ⟨75, true, 5, ⟨#[78, 70]⟩, 73⟩
def f3_32 : TS := ⟨76, false, 9, ⟨#[59]⟩, 75⟩
def f3_33 : TS := ⟨78, false, 9, ⟨#[125]⟩, 77⟩
def f3_34 : TS := ⟨78, false, 1, ⟨#[]⟩, 78⟩
theorem nf3_0 (pb : Nat) : Nx pb F3 ts0 f3_0 := nx_tok pb F3 ts0 f3_0 (by decide) (by decide) (by kernel_rfl)
theorem nf3_1 (pb : Nat) : Nx pb F3 f3_0 f3_1 := nx_tok pb F3 f3_0 f3_1 (by decide) (by decide) (by kernel_rfl)
theorem nf3_2 (pb : Nat) : Nx pb F3 f3_1 f3_2 := nx_tok pb F3 f3_1 f3_2 (by decide) (by decide) (by kernel_rfl)
theorem nf3_3 (pb : Nat) : Nx pb F3 f3_2 f3_3 := nx_tok pb F3 f3_2 f3_3 (by decide) (by decide) (by kernel_rfl)
theorem nf3_4 (pb : Nat) : Nx pb F3 f3_3 f3_4 := nx_tok pb F3 f3_3 f3_4 (by decide) (by decide) (by kernel_rfl)
theorem nf3_5 (pb : Nat) : Nx pb F3 f3_4 f3_5 := nx_tok pb F3 f3_4 f3_5 (by decide) (by decide) (by kernel_rfl)
theorem nf3_6 (pb : Nat) : Nx pb F3 f3_5 f3_6 := nx_tok pb F3 f3_5 f3_6 (by decide) (by decide) (by kernel_rfl)
theorem nf3_7 (pb : Nat) : Nx pb F3 f3_6 f3_7 := nx_tok pb F3 f3_6 f3_7 (by decide) (by decide) (by kernel_rfl)
theorem nf3_8 (pb : Nat) : Nx pb F3 f3_7 f3_8 := nx_tok pb F3 f3_7 f3_8 (by decide) (by decide) (by kernel_rfl)
theorem nf3_9 (pb : Nat) : Nx pb F3 f3_8 f3_9 := nx_tok pb F3 f3_8 f3_9 (by decide) (by decide) (by kernel_rfl)
theorem nf3_10 (pb : Nat) : Nx pb F3 f3_9 f3_10 := nx_tok pb F3 f3_9 f3_10 (by decide) (by decide) (by kernel_rfl)
theorem nf3_11 (pb : Nat) : Nx pb F3 f3_10 f3_11 := nx_tok pb F3 f3_10 f3_11 (by decide) (by decide) (by kernel_rfl)
theorem nf3_12 (pb : Nat) : Nx pb F3 f3_11 f3_12 := nx_tok pb F3 f3_11 f3_12 (by decide) (by decide) (by kernel_rfl)
theorem nf3_13 (pb : Nat) : Nx pb F3 f3_12 f3_13 := nx_tok pb F3 f3_12 f3_13 (by decide) (by decide) (by kernel_rfl)
theorem nf3_14 (pb : Nat) : Nx pb F3 f3_13 f3_14 := nx_tok pb F3 f3_13 f3_14 (by decide) (by decide) (by kernel_rfl)
theorem nf3_15 (pb : Nat) : Nx pb F3 f3_14 f3_15 := nx_tok pb F3 f3_14 f3_15 (by decide) (by decide) (by kernel_rfl)
theorem nf3_16 (pb : Nat) : Nx pb F3 f3_15 f3_16 := nx_tok pb F3 f3_15 f3_16 (by decide) (by decide) (by kernel_rfl)
theorem nf3_17 (pb : Nat) : Nx pb F3 f3_16 f3_17 := nx_tok pb F3 f3_16 f3_17 (by decide) (by decide) (by kernel_rfl)
theorem nf3_18 (pb : Nat) : Nx pb F3 f3_17 f3_18 := nx_tok pb F3 f3_17 f3_18 (by decide) (by decide) (by kernel_rfl)
theorem nf3_19 (pb : Nat) : Nx pb F3 f3_18 f3_19 := nx_tok pb F3 f3_18 f3_19 (by decide) (by decide) (by kernel_rfl)
theorem nf3_20 (pb : Nat) : Nx pb F3 f3_19 f3_20 := nx_tok pb F3 f3_19 f3_20 (by decide) (by decide) (by kernel_rfl)
theorem nf3_21 (pb : Nat) : Nx pb F3 f3_20 f3_21 := nx_tok pb F3 f3_20 f3_21 (by decide) (by decide) (by kernel_rfl)
theorem nf3_22 (pb : Nat) : Nx pb F3 f3_21 f3_22 := nx_tok pb F3 f3_21 f3_22 (by decide) (by decide) (by kernel_rfl)
theorem nf3_23 (pb : Nat) : Nx pb F3 f3_22 f3_23 := nx_tok pb F3 f3_22 f3_23 (by decide) (by decide) (by kernel_rfl)
theorem nf3_24 (pb : Nat) : Nx pb F3 f3_23 f3_24 := nx_tok pb F3 f3_23 f3_24 (by decide) (by decide) (by kernel_rfl)
theorem nf3_25 (pb : Nat) : Nx pb F3 f3_24 f3_25 := nx_tok pb F3 f3_24 f3_25 (by decide) (by decide) (by kernel_rfl)
theorem nf3_26 (pb : Nat) : Nx pb F3 f3_25 f3_26 := nx_tok pb F3 f3_25 f3_26 (by decide) (by decide) (by kernel_rfl)
theorem nf3_27 (pb : Nat) : Nx pb F3 f3_26 f3_27 := nx_tok pb F3 f3_26 f3_27 (by decide) (by decide) (by kernel_rfl)
theorem nf3_28 (pb : Nat) : Nx pb F3 f3_27 f3_28 := nx_tok pb F3 f3_27 f3_28 (by decide) (by decide) (by kernel_rfl)
theorem nf3_29 (pb : Nat) : Nx pb F3 f3_28 f3_29 := nx_tok pb F3 f3_28 f3_29 (by decide) (by decide) (by kernel_rfl)
theorem nf3_30 (pb : Nat) : Nx pb F3 f3_29 f3_30 := nx_tok pb F3 f3_29 f3_30 (by decide) (by decide) (by kernel_rfl)
theorem nf3_31 (pb : Nat) : Nx pb F3 f3_30 f3_31 := nx_tok pb F3 f3_30 f3_31 (by decide) (by decide) (by kernel_rfl)
theorem nf3_32 (pb : Nat) : Nx pb F3 f3_31 f3_32 := nx_tok pb F3 f3_31 f3_32 (by decide) (by decide) (by kernel_rfl)
theorem nf3_33 (pb : Nat) : Nx pb F3 f3_32 f3_33 := nx_tok pb F3 f3_32 f3_33 (by decide) (by decide) (by kernel_rfl)
theorem nf3_34 (pb : Nat) : Nx pb F3 f3_33 f3_34 := nx_tok pb F3 f3_33 f3_34 (by decide) (by decide) (by kernel_rfl)
end Go.Proofs.YtdbdbaepmdmnfaaGreatDoor

