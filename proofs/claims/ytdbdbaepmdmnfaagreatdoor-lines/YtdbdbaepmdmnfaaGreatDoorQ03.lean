import Derived.Test.YtdbdbaepmdmnfaaGreatDoorQ02
import Derived.Deep.QuietTactic
import Derived.BigQuiet
import Derived.BigRegion
namespace Go.Proofs.YtdbdbaepmdmnfaaGreatDoor
open Go.RowKit
def wordB (l : List UInt8) : Bool := l == [66, 69, 71, 73, 78] || l == [69, 78, 68] || l == [102, 117, 110, 99, 116, 105, 111, 110] || l == [105, 102] || l == [101, 108, 115, 101] || l == [119, 104, 105, 108, 101] || l == [102, 111, 114] || l == [105, 110] || l == [112, 114, 105, 110, 116] || l == [110, 101, 120, 116] || l == [101, 120, 105, 116] || l == [114, 101, 116, 117, 114, 110] || l == [98, 114, 101, 97, 107] || l == [99, 111, 110, 116, 105, 110, 117, 101] || l == [100, 101, 108, 101, 116, 101]
def ownB (l : List UInt8) : Bool := l == [108, 101, 110, 103, 116, 104] || l == [115, 117, 98, 115, 116, 114] || l == [105, 110, 100, 101, 120] || l == [115, 112, 108, 105, 116] || l == [115, 117, 98] || l == [103, 115, 117, 98] || l == [109, 97, 116, 99, 104] || l == [116, 111, 117, 112, 112, 101, 114] || l == [116, 111, 108, 111, 119, 101, 114] || l == [115, 112, 114, 105, 110, 116, 102]
def dblB (l : List UInt8) : Bool := l == [124, 124] || l == [38, 38] || l == [33, 126] || l == [60, 61] || l == [61, 61] || l == [33, 61] || l == [62, 61] || l == [43, 61] || l == [45, 61] || l == [42, 61] || l == [47, 61] || l == [37, 61]
def sglB (c : UInt8) : Bool := c == 123 || c == 125 || c == 40 || c == 41 || c == 91 || c == 93 || c == 59 || c == 44 || c == 43 || c == 45 || c == 42 || c == 47 || c == 37 || c == 33 || c == 62 || c == 60 || c == 126 || c == 63 || c == 58 || c == 61 || c == 36
set_option maxRecDepth 10000 in
set_option maxHeartbeats 4000000 in
theorem word_any (x : ByteArray) (w : World) : Calls Tryz.prog 240 #[.string x] w fun e w' => e = .returned (.bool (wordB x.data.toList)) ∧ w' = w := by
  obtain ⟨v, HV⟩ : ∃ v, Hid (v = wordB x.toList) := ⟨_, rfl⟩
  rw [← ByteArray.toList_eq, ← HV.out]
  go_enter Tryz.func240, Tryz.ntmps240
  go_wp2
  all_goals
    go_ret
    refine ⟨ret_bool ?_, rfl⟩
    rw [HV.out]
    unfold wordB
    first | (simp [*]; done) | simp_all
set_option maxRecDepth 10000 in
set_option maxHeartbeats 4000000 in
theorem own_any (x : ByteArray) (w : World) : Calls Tryz.prog 241 #[.string x] w fun e w' => e = .returned (.bool (ownB x.data.toList)) ∧ w' = w := by
  obtain ⟨v, HV⟩ : ∃ v, Hid (v = ownB x.toList) := ⟨_, rfl⟩
  rw [← ByteArray.toList_eq, ← HV.out]
  go_enter Tryz.func241, Tryz.ntmps241
  go_wp2
  all_goals
    go_ret
    refine ⟨ret_bool ?_, rfl⟩
    rw [HV.out]
    unfold ownB
    first | (simp [*]; done) | simp_all
set_option maxRecDepth 10000 in
set_option maxHeartbeats 4000000 in
theorem dbl_any (x : ByteArray) (w : World) : Calls Tryz.prog 244 #[.string x] w fun e w' => e = .returned (.bool (dblB x.data.toList)) ∧ w' = w := by
  obtain ⟨v, HV⟩ : ∃ v, Hid (v = dblB x.toList) := ⟨_, rfl⟩
  rw [← ByteArray.toList_eq, ← HV.out]
  go_enter Tryz.func244, Tryz.ntmps244
  go_wp2
  all_goals
    go_ret
    refine ⟨ret_bool ?_, rfl⟩
    rw [HV.out]
    unfold dblB
    first | (simp [*]; done) | simp_all
theorem u8_int (c : UInt8) (n : UInt8) : (c == n) = ((c.toNat : Int) == (n.toNat : Int)) := by
  rw [Bool.eq_iff_iff, beq_iff_eq, beq_iff_eq]
  constructor
  · rintro rfl; rfl
  · intro h; exact UInt8.toNat_inj.1 (by omega)
set_option maxRecDepth 10000 in
set_option maxHeartbeats 8000000 in
theorem sgl_any (c : UInt8) (w : World) : Calls Tryz.prog 245 #[.int .u8 c.toNat] w fun e w' => e = .returned (.bool (sglB c)) ∧ w' = w := by
  obtain ⟨v, HV⟩ : ∃ v, Hid (v = sglB c) := ⟨_, rfl⟩
  rw [← HV.out]
  go_enter Tryz.func245, Tryz.ntmps245
  go_wp2
  all_goals
    go_ret
    refine ⟨ret_bool ?_, rfl⟩
    rw [HV.out]
    unfold sglB
    first | (simp [u8_int, *]; done) | simp_all [u8_int]
end Go.Proofs.YtdbdbaepmdmnfaaGreatDoor
namespace Go.Proofs.YtdbdbaepmdmnfaaGreatDoor
open Go.RowKit
def tokV (k : Nat) (x : ByteArray) (i : Nat) : Value := .agg #[.int .i64 k, .string x, .int .i64 i]
set_option maxRecDepth 10000 in
set_option maxHeartbeats 4000000 in
theorem token_any (b : Nat) (T : ByteArray) (i : Nat) (dv : Bool) (k e : Nat) (hi : i ≤ e) (he : e ≤ T.size) (w : World) (h : TkAt w b T i dv) :
    Calls Tryz.prog 239 #[.pointer (some ⟨b, 0, none⟩), .int .i64 k, .int .i64 e] w fun en w' => en = .returned (.tuple #[tokV k (T.extract i e) i, .int .i64 e]) ∧ Only (fun _ => False) w w' := by
  have hl := h.lt
  obtain ⟨c0, c1, c2⟩ := h
  have hii : (i : Int) ≤ (e : Int) := by omega
  have hee : (e : Int) ≤ (T.size : Int) := by omega
  unfold tokV
  go_enter Tryz.func239, Tryz.ntmps239
  go_wp2
  go_region
  all_goals
    go_wp2
    refine bodyPost_ret (v := .tuple #[.agg #[.int .i64 k, .string (T.extract i e), .int .i64 i], .int .i64 e]) (by simp [results, Tryz.results239, go_sem]) rfl ⟨rfl, ?_⟩
    exact ((Only.refl _ w).alloc _).drewN 1
/-- The sign at a place: one byte. -/
theorem TkAt.only {w w' b T i dv D} (h : TkAt w b T i dv) (ho : Only D w w') (hd : ¬ D b) : TkAt w' b T i dv := by
  have hl := h.lt
  obtain ⟨h0, h1, h2⟩ := h
  exact ⟨(ho.cell (p := ⟨b, 0, none⟩) hl hd).trans h0, (ho.cell (p := ⟨b, 1, none⟩) hl hd).trans h1, (ho.cell (p := ⟨b, 2, none⟩) hl hd).trans h2⟩
theorem ext2 (T : ByteArray) (i : Nat) (h : i + 2 ≤ T.size) : ((T.extract i T.size).extract 0 2).data.toList = (T.extract i (i + 2)).data.toList := by
  simp only [ByteArray.data_extract, Array.toList_extract, List.extract_eq_take_drop, List.drop_zero, Nat.sub_zero, List.take_take]
  congr 1
  have : T.data.toList.length = T.size := len_eq T
  show min 2 (T.size - i) = i + 2 - i
  omega
/-- A token's box, behind a call. -/
theorem tokbox {w w1 : World} {n : Nat} (ho : Only (fun _ => False) ((w.alloc (.cells #[.int .i64 0, .string ⟨#[]⟩, .int .i64 0] 152)).drewN n) w1) :
    Hid (Only (fun _ => False) w w1) ∧ w1.cell? ⟨w.heap.size, 0, none⟩ = some (.int .i64 0) ∧ w1.cell? ⟨w.heap.size, 1, none⟩ = some (.string ⟨#[]⟩) ∧ w1.cell? ⟨w.heap.size, 2, none⟩ = some (.int .i64 0) ∧ (∀ o, w1.frozen? ⟨w.heap.size, o, none⟩ = false) := by
  have hx1 := (ho.block w.heap.size (by simp) (fun e => e)).trans (new0 w (.cells #[.int .i64 0, .string ⟨#[]⟩, .int .i64 0] 152))
  exact ⟨(((Only.refl _ w).alloc _).drewN n).trans ho (fun _ _ e => e), cell_of hx1 rfl, cell_of hx1 rfl, cell_of hx1 rfl, free_of hx1⟩
theorem tokset {w w1 : World} (ho : Only (fun _ => False) w w1) (v0 v1 v2 : Value) : Only (fun _ => False) w (((w1.setCell ⟨w.heap.size, 0, none⟩ v0).setCell ⟨w.heap.size, 1, none⟩ v1).setCell ⟨w.heap.size, 2, none⟩ v2) :=
  ((ho.setCell (p := ⟨w.heap.size, 0, none⟩) (fun h => absurd h (Nat.lt_irrefl _)) v0).setCell (p := ⟨w.heap.size, 1, none⟩) (fun h => absurd h (Nat.lt_irrefl _)) v1).setCell (p := ⟨w.heap.size, 2, none⟩) (fun h => absurd h (Nat.lt_irrefl _)) v2
set_option maxRecDepth 10000 in
set_option maxHeartbeats 4000000 in
theorem sign_one (b : Nat) (T : ByteArray) (i : Nat) (dv : Bool) (hi : i < T.size) (h5 : T.size ≤ 65000) (hd : i + 1 = T.size ∨ dblB (T.extract i (i + 2)).data.toList = false) (hs : sglB T[i] = true) (w : World) (h : TkAt w b T i dv) :
    Calls Tryz.prog 179 #[.pointer (some ⟨b, 0, none⟩)] w fun en w' => en = .returned (.tuple #[tokV 9 (T.extract i (i + 1)) i, .int .i64 ((i + 1 : Nat) : Int)]) ∧ Only (fun _ => False) w w' := by
  have hl := h.lt
  have HT := hide h
  obtain ⟨c0, c1, c2⟩ := h
  have hii : (i : Int) ≤ (T.size : Int) := by omega
  have hg0 : ∀ (hh : 0 < (T.extract i T.size).size), (T.extract i T.size)[0] = T[i] := by intro hh; simp [ByteArray.getElem_extract]
  have HS : ∀ (hh : 0 < (T.extract i T.size).size) (W : World), Hid (Calls Tryz.prog 245 #[.int .u8 (T.extract i T.size)[0].toNat] W fun e w' => e = .returned (.bool true) ∧ w' = W) := fun hh W => by
    show Calls _ _ _ _ _
    rw [hg0 hh, ← hs]
    exact sgl_any T[i] W
  obtain ⟨X, HX⟩ : ∃ X, Hid (X = T.extract i (i + 1)) := ⟨_, rfl⟩
  rw [← HX.out]
  have HTk : ∀ (o : Obj) (n : Nat), Hid (Calls Tryz.prog 239 #[.pointer (some ⟨b, 0, none⟩), .int .i64 9, .int .i64 ((i : Int) + 1)] ((w.alloc o).drewN n) fun en w' => en = .returned (.tuple #[tokV 9 X i, .int .i64 ((i : Int) + 1)]) ∧ Only (fun _ => False) ((w.alloc o).drewN n) w') := fun o n => by
    rw [HX.out]
    exact token_any b T i dv 9 (i + 1) (by omega) (by omega) _ ((HT.out.alloc hl o).drewN n)
  have hd0 : 0 < T.size - i := by omega
  have hdd : ¬ (1 : Int) < ((T.size - i : Nat) : Int) ∨ (i + 2 ≤ T.size ∧ (1 : Int) < ((T.size - i : Nat) : Int)) := by omega
  have HD : i + 2 ≤ T.size → ∀ W, Hid (Calls Tryz.prog 244 #[.string ((T.extract i T.size).extract 0 2)] W fun e w' => e = .returned (.bool false) ∧ w' = W) := fun h2 W => by
    show Calls _ _ _ _ _
    have h3 := dbl_any ((T.extract i T.size).extract 0 2) W
    rw [ext2 T i h2] at h3
    rcases hd with h4 | h4
    · omega
    · rw [h4] at h3; exact h3
  clear hg0 hd hs
  rcases hdd with hd1 | ⟨h2, hd1⟩
  · clear HD
    go_enter Tryz.func179, Tryz.ntmps179
    go_wp2
    go_quiet (fail)
    go_wp2_with (first | (go_at_call 245; refine ((HS (by simp; omega) _).out).mono ?_; rintro e w' ⟨rfl, rfl⟩) | (go_at_call 239; refine ((HTk _ _).out).mono ?_; rintro e w1 ⟨rfl, ho1⟩; obtain ⟨HO1, q0, q1, q2, qf⟩ := tokbox ho1; clear ho1; unfold tokV))
    exact bodyPost_ret (v := .tuple #[.agg #[.int .i64 9, .string X, .int .i64 i], .int .i64 ((i : Int) + 1)]) (by simp [results, Tryz.results179, go_sem, q0, q1, q2]) rfl ⟨by unfold tokV; rfl, tokset HO1.out _ _ _⟩
  · have HD2 := HD h2
    clear HD
    go_enter Tryz.func179, Tryz.ntmps179
    go_wp2
    go_quiet (fail)
    go_wp2_with (first | (go_at_call 244; refine ((HD2 _).out).mono ?_; rintro e w' ⟨rfl, rfl⟩) | (go_at_call 245; refine ((HS (by simp; omega) _).out).mono ?_; rintro e w' ⟨rfl, rfl⟩) | (go_at_call 239; refine ((HTk _ _).out).mono ?_; rintro e w1 ⟨rfl, ho1⟩; obtain ⟨HO1, q0, q1, q2, qf⟩ := tokbox ho1; clear ho1; unfold tokV))
    exact bodyPost_ret (v := .tuple #[.agg #[.int .i64 9, .string X, .int .i64 i], .int .i64 ((i : Int) + 1)]) (by simp [results, Tryz.results179, go_sem, q0, q1, q2]) rfl ⟨by unfold tokV; rfl, tokset HO1.out _ _ _⟩
end Go.Proofs.YtdbdbaepmdmnfaaGreatDoor
namespace Go.Proofs.YtdbdbaepmdmnfaaGreatDoor
open Go.RowKit
def namB (c : UInt8) : Bool := letB c || digB c
/-- What kind of token a name is, that ends ahead of e. -/
def nameK (x l : List UInt8) (e : Nat) : Nat := if wordB x then 7 else if ownB x then 8 else if isAt l e 40 then 6 else 5
set_option maxRecDepth 10000 in
set_option maxHeartbeats 8000000 in
theorem name_any (b : Nat) (T : ByteArray) (i : Nat) (dv : Bool) (hi : i ≤ T.size) (h5 : T.size ≤ 65000) (w : World) (h : TkAt w b T i dv) :
    Calls Tryz.prog 176 #[.pointer (some ⟨b, 0, none⟩)] w fun en w' => en = .returned (.tuple #[tokV (nameK (T.extract i (runTo namB T.data.toList i)).data.toList T.data.toList (runTo namB T.data.toList i)) (T.extract i (runTo namB T.data.toList i)) i, .int .i64 (runTo namB T.data.toList i)]) ∧ Only (fun _ => False) w w' := by
  have hl := h.lt
  have HT := hide h
  obtain ⟨c0, c1, c2⟩ := h
  obtain ⟨E, HE⟩ : ∃ E, Hid (E = runTo namB T.data.toList i) := ⟨_, rfl⟩
  rw [← HE.out]
  have hEl : E ≤ T.size := by rw [HE.out]; have := runTo_le (p := namB) (l := T.data.toList) (k := i) (by rw [len_eq]; exact hi); rw [len_eq] at this; exact this
  have hiE : i ≤ E := by rw [HE.out]; exact runTo_ge _ _ _
  obtain ⟨X, HX⟩ : ∃ X, Hid (X = T.extract i E) := ⟨_, rfl⟩
  rw [← HX.out]
  obtain ⟨K, HK⟩ : ∃ K, Hid (K = nameK X.data.toList T.data.toList E) := ⟨_, rfl⟩
  rw [← HK.out]
  have HTk : ∀ (kk : Nat) (o : Obj) (n : Nat), Hid (Calls Tryz.prog 239 #[.pointer (some ⟨b, 0, none⟩), .int .i64 kk, .int .i64 E] ((w.alloc o).drewN n) fun en w' => en = .returned (.tuple #[tokV kk X i, .int .i64 E]) ∧ Only (fun _ => False) ((w.alloc o).drewN n) w') := fun kk o n => by
    rw [HX.out]
    exact token_any b T i dv kk E hiE hEl _ ((HT.out.alloc hl o).drewN n)
  go_enter Tryz.func176, Tryz.ntmps176
  go_wp2
  go_loopw [4] (fun s4 wr => ∃ k : Nat, s4 = .int .i64 k ∧ i ≤ k ∧ k ≤ E ∧ runTo namB T.data.toList k = E ∧ wr = w.alloc (.cells #[.int .i64 0, .string ⟨#[]⟩, .int .i64 0] 152)) (fun s4 _ => T.size - (intOf s4).toNat)
  case atStart => exact ⟨i, rfl, Nat.le_refl _, hiE, HE.out.symm, rfl⟩
  case round =>
    obtain ⟨k, rfl, hik, hkE, hrk, rfl⟩ := hrel
    have HRk := hide hrk
    clear hrk
    by_cases hlt : k < T.size
    · have hli : (k : Int) < (T.size : Int) := by omega
      have hget := get_of_lt T k hlt
      cases h1 : letB T[k]
      · cases h2 : digB T[k]
        · have hkE2 : k = E := by
            rw [← HRk.out]
            exact (runTo_stop (fun c hc => by rw [hget] at hc; cases hc; unfold namB; rw [h1, h2]; rfl)).symm
          obtain rfl : k = E := hkE2
          clear hget
          have hE2 := True.intro
          have hii : (i : Int) ≤ (k : Int) := by omega
          have hee : (k : Int) ≤ (T.size : Int) := by omega
          cases hw : wordB X.data.toList
          · have HWd : ∀ W, Hid (Calls Tryz.prog 240 #[.string (T.extract i k)] W fun e w' => e = .returned (.bool false) ∧ w' = W) := fun W => by rw [← HX.out, ← hw]; exact word_any X W
            cases ho : ownB X.data.toList
            · have HOw : ∀ W, Hid (Calls Tryz.prog 241 #[.string (T.extract i k)] W fun e w' => e = .returned (.bool false) ∧ w' = W) := fun W => by rw [← HX.out, ← ho]; exact own_any X W
              by_cases hpar : ((T[k].toNat : Int) == 40) = true
              · have hat : isAt T.data.toList k 40 = true := by rw [isAt_lt T k _ hlt]; exact hpar
                have hK : K = 6 := by rw [HK.out]; unfold nameK; simp [hw, ho, hat]
                clear hE2
                go_wp2_with (first | (go_at_call 175; refine (tletter_any _ _).mono ?_; rintro e w' ⟨rfl, rfl⟩; rw [h1]) | (go_at_call 173; refine (tdigit_any _ _).mono ?_; rintro e w' ⟨rfl, rfl⟩; rw [h2]))
                go_quiet (fail)
                go_wp2_with (first | (go_at_call 240; refine ((HWd _).out).mono ?_; rintro e w' ⟨rfl, rfl⟩) | (go_at_call 241; refine ((HOw _).out).mono ?_; rintro e w' ⟨rfl, rfl⟩) | (go_at_call 239; refine ((HTk 6 _ _).out).mono ?_; rintro e w1 ⟨rfl, ho1⟩; obtain ⟨HO1, q0, q1, q2, qf⟩ := tokbox ho1; clear ho1; unfold tokV))
                exact bodyPost_ret (v := .tuple #[.agg #[.int .i64 6, .string X, .int .i64 i], .int .i64 k]) (by simp [results, Tryz.results176, go_sem, q0, q1, q2]) rfl ⟨by rw [hK]; unfold tokV; rfl, tokset HO1.out _ _ _⟩
              · have hpar2 : ((T[k].toNat : Int) == 40) = false := by simpa using hpar
                have hat : isAt T.data.toList k 40 = false := by rw [isAt_lt T k _ hlt]; exact hpar2
                clear hpar
                have hK : K = 5 := by rw [HK.out]; unfold nameK; simp [hw, ho, hat]
                clear hE2
                go_wp2_with (first | (go_at_call 175; refine (tletter_any _ _).mono ?_; rintro e w' ⟨rfl, rfl⟩; rw [h1]) | (go_at_call 173; refine (tdigit_any _ _).mono ?_; rintro e w' ⟨rfl, rfl⟩; rw [h2]))
                go_quiet (fail)
                go_wp2_with (first | (go_at_call 240; refine ((HWd _).out).mono ?_; rintro e w' ⟨rfl, rfl⟩) | (go_at_call 241; refine ((HOw _).out).mono ?_; rintro e w' ⟨rfl, rfl⟩) | (go_at_call 239; refine ((HTk 5 _ _).out).mono ?_; rintro e w1 ⟨rfl, ho1⟩; obtain ⟨HO1, q0, q1, q2, qf⟩ := tokbox ho1; clear ho1; unfold tokV))
                exact bodyPost_ret (v := .tuple #[.agg #[.int .i64 5, .string X, .int .i64 i], .int .i64 k]) (by simp [results, Tryz.results176, go_sem, q0, q1, q2]) rfl ⟨by rw [hK]; unfold tokV; rfl, tokset HO1.out _ _ _⟩
            · have HOw : ∀ W, Hid (Calls Tryz.prog 241 #[.string (T.extract i k)] W fun e w' => e = .returned (.bool true) ∧ w' = W) := fun W => by rw [← HX.out, ← ho]; exact own_any X W
              have hK : K = 8 := by rw [HK.out]; unfold nameK; simp [hw, ho]
              clear hE2
              go_wp2_with (first | (go_at_call 175; refine (tletter_any _ _).mono ?_; rintro e w' ⟨rfl, rfl⟩; rw [h1]) | (go_at_call 173; refine (tdigit_any _ _).mono ?_; rintro e w' ⟨rfl, rfl⟩; rw [h2]))
              go_quiet (fail)
              go_wp2_with (first | (go_at_call 240; refine ((HWd _).out).mono ?_; rintro e w' ⟨rfl, rfl⟩) | (go_at_call 241; refine ((HOw _).out).mono ?_; rintro e w' ⟨rfl, rfl⟩) | (go_at_call 239; refine ((HTk 8 _ _).out).mono ?_; rintro e w1 ⟨rfl, ho1⟩; obtain ⟨HO1, q0, q1, q2, qf⟩ := tokbox ho1; clear ho1; unfold tokV))
              exact bodyPost_ret (v := .tuple #[.agg #[.int .i64 8, .string X, .int .i64 i], .int .i64 k]) (by simp [results, Tryz.results176, go_sem, q0, q1, q2]) rfl ⟨by rw [hK]; unfold tokV; rfl, tokset HO1.out _ _ _⟩
          · have HWd : ∀ W, Hid (Calls Tryz.prog 240 #[.string (T.extract i k)] W fun e w' => e = .returned (.bool true) ∧ w' = W) := fun W => by rw [← HX.out, ← hw]; exact word_any X W
            have HOw := HWd
            have hK : K = 7 := by rw [HK.out]; unfold nameK; simp [hw]
            clear hE2
            go_wp2_with (first | (go_at_call 175; refine (tletter_any _ _).mono ?_; rintro e w' ⟨rfl, rfl⟩; rw [h1]) | (go_at_call 173; refine (tdigit_any _ _).mono ?_; rintro e w' ⟨rfl, rfl⟩; rw [h2]))
            go_quiet (fail)
            go_wp2_with (first | (go_at_call 240; refine ((HWd _).out).mono ?_; rintro e w' ⟨rfl, rfl⟩) | (go_at_call 241; refine ((HOw _).out).mono ?_; rintro e w' ⟨rfl, rfl⟩) | (go_at_call 239; refine ((HTk 7 _ _).out).mono ?_; rintro e w1 ⟨rfl, ho1⟩; obtain ⟨HO1, q0, q1, q2, qf⟩ := tokbox ho1; clear ho1; unfold tokV))
            exact bodyPost_ret (v := .tuple #[.agg #[.int .i64 7, .string X, .int .i64 i], .int .i64 k]) (by simp [results, Tryz.results176, go_sem, q0, q1, q2]) rfl ⟨by rw [hK]; unfold tokV; rfl, tokset HO1.out _ _ _⟩
        · have HR2 : Hid (runTo namB T.data.toList (k + 1) = E) := by
            show _ = E
            rw [runTo_step hget (by unfold namB; rw [h2, Bool.or_true])]; exact HRk.out
          clear hget
          go_wp2_with (first | (go_at_call 175; refine (tletter_any _ _).mono ?_; rintro e w' ⟨rfl, rfl⟩; rw [h1]) | (go_at_call 173; refine (tdigit_any _ _).mono ?_; rintro e w' ⟨rfl, rfl⟩; rw [h2]))
          go_roundw
          case rel => exact ⟨k + 1, by go_num, by omega, by have := runTo_ge namB T.data.toList (k + 1); rw [HR2.out] at this; omega, HR2.out, by trivial⟩
          case measure => simp [intOf]; omega
      · have HR2 : Hid (runTo namB T.data.toList (k + 1) = E) := by
          show _ = E
          rw [runTo_step hget (by unfold namB; rw [h1, Bool.true_or])]; exact HRk.out
        clear hget
        go_wp2_with (first | (go_at_call 175; refine (tletter_any _ _).mono ?_; rintro e w' ⟨rfl, rfl⟩; rw [h1]) | (go_at_call 173; refine (tdigit_any _ _).mono ?_; rintro e w' ⟨rfl, rfl⟩; rw [h2]))
        go_roundw
        case rel => exact ⟨k + 1, by go_num, by omega, by have := runTo_ge namB T.data.toList (k + 1); rw [HR2.out] at this; omega, HR2.out, by trivial⟩
        case measure => simp [intOf]; omega
    · have hli : ¬ (k : Int) < (T.size : Int) := by omega
      have hkE2 : k = E := by
        rw [← HRk.out]
        exact (runTo_stop (fun c hc => by rw [get_none T k (by omega)] at hc; cases hc)).symm
      obtain rfl : k = E := hkE2
      have hE2 := True.intro
      have hii : (i : Int) ≤ (k : Int) := by omega
      have hee : (k : Int) ≤ (T.size : Int) := by omega
      cases hw : wordB X.data.toList
      · have HWd : ∀ W, Hid (Calls Tryz.prog 240 #[.string (T.extract i k)] W fun e w' => e = .returned (.bool false) ∧ w' = W) := fun W => by rw [← HX.out, ← hw]; exact word_any X W
        cases ho : ownB X.data.toList
        · have HOw : ∀ W, Hid (Calls Tryz.prog 241 #[.string (T.extract i k)] W fun e w' => e = .returned (.bool false) ∧ w' = W) := fun W => by rw [← HX.out, ← ho]; exact own_any X W
          have hat : isAt T.data.toList k 40 = false := isAt_ge T k _ (by omega)
          have hK : K = 5 := by rw [HK.out]; unfold nameK; simp [hw, ho, hat]
          clear hE2
          go_wp2
          go_quiet (fail)
          go_wp2_with (first | (go_at_call 240; refine ((HWd _).out).mono ?_; rintro e w' ⟨rfl, rfl⟩) | (go_at_call 241; refine ((HOw _).out).mono ?_; rintro e w' ⟨rfl, rfl⟩) | (go_at_call 239; refine ((HTk 5 _ _).out).mono ?_; rintro e w1 ⟨rfl, ho1⟩; obtain ⟨HO1, q0, q1, q2, qf⟩ := tokbox ho1; clear ho1; unfold tokV))
          exact bodyPost_ret (v := .tuple #[.agg #[.int .i64 5, .string X, .int .i64 i], .int .i64 k]) (by simp [results, Tryz.results176, go_sem, q0, q1, q2]) rfl ⟨by rw [hK]; unfold tokV; rfl, tokset HO1.out _ _ _⟩
        · have HOw : ∀ W, Hid (Calls Tryz.prog 241 #[.string (T.extract i k)] W fun e w' => e = .returned (.bool true) ∧ w' = W) := fun W => by rw [← HX.out, ← ho]; exact own_any X W
          have hK : K = 8 := by rw [HK.out]; unfold nameK; simp [hw, ho]
          clear hE2
          go_wp2
          go_quiet (fail)
          go_wp2_with (first | (go_at_call 240; refine ((HWd _).out).mono ?_; rintro e w' ⟨rfl, rfl⟩) | (go_at_call 241; refine ((HOw _).out).mono ?_; rintro e w' ⟨rfl, rfl⟩) | (go_at_call 239; refine ((HTk 8 _ _).out).mono ?_; rintro e w1 ⟨rfl, ho1⟩; obtain ⟨HO1, q0, q1, q2, qf⟩ := tokbox ho1; clear ho1; unfold tokV))
          exact bodyPost_ret (v := .tuple #[.agg #[.int .i64 8, .string X, .int .i64 i], .int .i64 k]) (by simp [results, Tryz.results176, go_sem, q0, q1, q2]) rfl ⟨by rw [hK]; unfold tokV; rfl, tokset HO1.out _ _ _⟩
      · have HWd : ∀ W, Hid (Calls Tryz.prog 240 #[.string (T.extract i k)] W fun e w' => e = .returned (.bool true) ∧ w' = W) := fun W => by rw [← HX.out, ← hw]; exact word_any X W
        have HOw := HWd
        have hK : K = 7 := by rw [HK.out]; unfold nameK; simp [hw]
        clear hE2
        go_wp2
        go_quiet (fail)
        go_wp2_with (first | (go_at_call 240; refine ((HWd _).out).mono ?_; rintro e w' ⟨rfl, rfl⟩) | (go_at_call 241; refine ((HOw _).out).mono ?_; rintro e w' ⟨rfl, rfl⟩) | (go_at_call 239; refine ((HTk 7 _ _).out).mono ?_; rintro e w1 ⟨rfl, ho1⟩; obtain ⟨HO1, q0, q1, q2, qf⟩ := tokbox ho1; clear ho1; unfold tokV))
        exact bodyPost_ret (v := .tuple #[.agg #[.int .i64 7, .string X, .int .i64 i], .int .i64 k]) (by simp [results, Tryz.results176, go_sem, q0, q1, q2]) rfl ⟨by rw [hK]; unfold tokV; rfl, tokset HO1.out _ _ _⟩
end Go.Proofs.YtdbdbaepmdmnfaaGreatDoor
