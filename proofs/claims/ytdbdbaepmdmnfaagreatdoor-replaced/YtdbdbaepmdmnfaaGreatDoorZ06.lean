import Derived.Test.YtdbdbaepmdmnfaaGreatDoorZ05
import Derived.Deep.RegionWith
import Derived.Deep.QuietTactic
import Derived.BigQuiet
import Derived.BigRegion
import Derived.Test.YtdbdbaepmdmnfaaGreatDoorZ01
import Derived.Test.YtdbdbaepmdmnfaaGreatDoorZ02
import Derived.Laws.BytesArg
namespace Go.Proofs.YtdbdbaepmdmnfaaGreatDoor
open Go.RowKit
/-- A reader of tokens lies at the beginning of a block. -/
def TkAt (w : World) (b : Nat) (T : ByteArray) (i : Nat) (dv : Bool) : Prop := w.cell? ⟨b, 0, none⟩ = some (.string T) ∧ w.cell? ⟨b, 1, none⟩ = some (.int .i64 i) ∧ w.cell? ⟨b, 2, none⟩ = some (.bool dv)
theorem TkAt.drewN {w b T i dv} (h : TkAt w b T i dv) (n : Nat) : TkAt (w.drewN n) b T i dv := h
theorem TkAt.alloc {w b T i dv} (h : TkAt w b T i dv) (hb : b < w.heap.size) (o : Obj) : TkAt (w.alloc o) b T i dv := by
  obtain ⟨h0, h1, h2⟩ := h
  have e := fun k => World.cell?_of_block (w := w) (w' := w.alloc o) (a := ⟨b, k, none⟩) (Below.heap_alloc _ _ _ hb)
  exact ⟨(e 0).trans h0, (e 1).trans h1, (e 2).trans h2⟩
theorem TkAt.lt {w b T i dv} (h : TkAt w b T i dv) : b < w.heap.size := World.block_lt_of_cell? w ⟨b, 0, none⟩ h.1
set_option maxHeartbeats 1000000 in
theorem tended_any (b : Nat) (T : ByteArray) (i : Nat) (dv : Bool) (w : World) (h : TkAt w b T i dv) :
    Calls Tryz.prog 171 #[.pointer (some ⟨b, 0, none⟩)] w fun e w' => e = .returned (.bool (decide (i = T.size))) ∧ ∃ n, w' = w.drewN n := by
  obtain ⟨c0, c1, c2⟩ := h
  go_enter Tryz.func171, Tryz.ntmps171
  go_wp2
  go_quiet (fail)
  go_wp2
  go_ret
  refine ⟨ret_bool ?_, _, rfl⟩
  rw [Bool.eq_iff_iff, beq_iff_eq, decide_eq_true_iff]
  omega
theorem tended_no (b : Nat) (T : ByteArray) (i : Nat) (dv : Bool) (hi : i < T.size) (w : World) (h : TkAt w b T i dv) :
    Calls Tryz.prog 171 #[.pointer (some ⟨b, 0, none⟩)] w fun e w' => e = .returned (.bool false) ∧ ∃ n, w' = w.drewN n := by
  have := tended_any b T i dv w h
  rwa [decide_eq_false (by omega)] at this
theorem tended_yes (b : Nat) (T : ByteArray) (i : Nat) (dv : Bool) (hi : i = T.size) (w : World) (h : TkAt w b T i dv) :
    Calls Tryz.prog 171 #[.pointer (some ⟨b, 0, none⟩)] w fun e w' => e = .returned (.bool true) ∧ ∃ n, w' = w.drewN n := by
  have := tended_any b T i dv w h
  rwa [decide_eq_true hi] at this
def letB (c : UInt8) : Bool := (decide (97 ≤ c.toNat) && decide (c.toNat ≤ 122)) || (decide (65 ≤ c.toNat) && decide (c.toNat ≤ 90)) || c.toNat == 95
set_option maxHeartbeats 1000000 in
theorem tdigit_any (c : UInt8) (w : World) : Calls Tryz.prog 173 #[.int .u8 c.toNat] w fun e w' => e = .returned (.bool (digB c)) ∧ w' = w := by
  obtain ⟨v, HV⟩ : ∃ v, Hid (v = digB c) := ⟨_, rfl⟩
  rw [← HV.out]
  go_enter Tryz.func173, Tryz.ntmps173
  go_wp2
  all_goals
    go_ret
    refine ⟨ret_bool ?_, rfl⟩
    rw [HV.out]
    unfold digB
    rw [Bool.eq_iff_iff]
    simp only [Bool.and_eq_true, decide_eq_true_iff]
    first | omega | (simp; omega)
set_option maxHeartbeats 1000000 in
theorem tletter_any (c : UInt8) (w : World) : Calls Tryz.prog 175 #[.int .u8 c.toNat] w fun e w' => e = .returned (.bool (letB c)) ∧ w' = w := by
  obtain ⟨v, HV⟩ : ∃ v, Hid (v = letB c) := ⟨_, rfl⟩
  rw [← HV.out]
  go_enter Tryz.func175, Tryz.ntmps175
  go_wp2
  all_goals
    go_ret
    refine ⟨ret_bool ?_, rfl⟩
    rw [HV.out]
    unfold letB
    rw [Bool.eq_iff_iff]
    simp only [Bool.and_eq_true, Bool.or_eq_true, decide_eq_true_iff, beq_iff_eq]
    first | omega | (simp; omega)
end Go.Proofs.YtdbdbaepmdmnfaaGreatDoor

namespace Go.Proofs.YtdbdbaepmdmnfaaGreatDoor
open Go.RowKit
def wordB (l : List UInt8) : Bool := l == [66, 69, 71, 73, 78] || l == [69, 78, 68] || l == [102, 117, 110, 99, 116, 105, 111, 110] || l == [105, 102] || l == [101, 108, 115, 101] || l == [119, 104, 105, 108, 101] || l == [102, 111, 114] || l == [105, 110] || l == [112, 114, 105, 110, 116] || l == [110, 101, 120, 116] || l == [101, 120, 105, 116] || l == [114, 101, 116, 117, 114, 110] || l == [98, 114, 101, 97, 107] || l == [99, 111, 110, 116, 105, 110, 117, 101] || l == [100, 101, 108, 101, 116, 101]
def ownB (l : List UInt8) : Bool := l == [108, 101, 110, 103, 116, 104] || l == [115, 117, 98, 115, 116, 114] || l == [105, 110, 100, 101, 120] || l == [115, 112, 108, 105, 116] || l == [115, 117, 98] || l == [103, 115, 117, 98] || l == [109, 97, 116, 99, 104] || l == [116, 111, 117, 112, 112, 101, 114] || l == [116, 111, 108, 111, 119, 101, 114] || l == [115, 112, 114, 105, 110, 116, 102]
def dblB (l : List UInt8) : Bool := l == [124, 124] || l == [38, 38] || l == [33, 126] || l == [60, 61] || l == [61, 61] || l == [33, 61] || l == [62, 61] || l == [43, 61] || l == [45, 61] || l == [42, 61] || l == [47, 61] || l == [37, 61]
def sglB (c : UInt8) : Bool := c == 123 || c == 125 || c == 40 || c == 41 || c == 91 || c == 93 || c == 59 || c == 44 || c == 43 || c == 45 || c == 42 || c == 47 || c == 37 || c == 33 || c == 62 || c == 60 || c == 126 || c == 63 || c == 58 || c == 61 || c == 36
set_option maxRecDepth 10000 in
set_option maxHeartbeats 4000000 in
theorem word_any (x : ByteArray) (w : World) : Calls Tryz.prog 240 #[.string x] w fun e w' => e = .returned (.bool (wordB x.data.toList)) ∧ w' = w := by
  obtain ⟨v, HV⟩ : ∃ v, Hid (v = wordB x.toList) := ⟨_, rfl⟩
  rw [← ByteArray.toList_eq, ← HV.out]
  go_enter Tryz.func240, Tryz.ntmps240
  go_wp2
  all_goals
    go_ret
    refine ⟨ret_bool ?_, rfl⟩
    rw [HV.out]
    unfold wordB
    first | (simp [*]; done) | simp_all
set_option maxRecDepth 10000 in
set_option maxHeartbeats 4000000 in
theorem own_any (x : ByteArray) (w : World) : Calls Tryz.prog 241 #[.string x] w fun e w' => e = .returned (.bool (ownB x.data.toList)) ∧ w' = w := by
  obtain ⟨v, HV⟩ : ∃ v, Hid (v = ownB x.toList) := ⟨_, rfl⟩
  rw [← ByteArray.toList_eq, ← HV.out]
  go_enter Tryz.func241, Tryz.ntmps241
  go_wp2
  all_goals
    go_ret
    refine ⟨ret_bool ?_, rfl⟩
    rw [HV.out]
    unfold ownB
    first | (simp [*]; done) | simp_all
set_option maxRecDepth 10000 in
set_option maxHeartbeats 4000000 in
theorem dbl_any (x : ByteArray) (w : World) : Calls Tryz.prog 244 #[.string x] w fun e w' => e = .returned (.bool (dblB x.data.toList)) ∧ w' = w := by
  obtain ⟨v, HV⟩ : ∃ v, Hid (v = dblB x.toList) := ⟨_, rfl⟩
  rw [← ByteArray.toList_eq, ← HV.out]
  go_enter Tryz.func244, Tryz.ntmps244
  go_wp2
  all_goals
    go_ret
    refine ⟨ret_bool ?_, rfl⟩
    rw [HV.out]
    unfold dblB
    first | (simp [*]; done) | simp_all
theorem u8_int (c : UInt8) (n : UInt8) : (c == n) = ((c.toNat : Int) == (n.toNat : Int)) := by
  rw [Bool.eq_iff_iff, beq_iff_eq, beq_iff_eq]
  constructor
  · rintro rfl; rfl
  · intro h; exact UInt8.toNat_inj.1 (by omega)
set_option maxRecDepth 10000 in
set_option maxHeartbeats 8000000 in
theorem sgl_any (c : UInt8) (w : World) : Calls Tryz.prog 245 #[.int .u8 c.toNat] w fun e w' => e = .returned (.bool (sglB c)) ∧ w' = w := by
  obtain ⟨v, HV⟩ : ∃ v, Hid (v = sglB c) := ⟨_, rfl⟩
  rw [← HV.out]
  go_enter Tryz.func245, Tryz.ntmps245
  go_wp2
  all_goals
    go_ret
    refine ⟨ret_bool ?_, rfl⟩
    rw [HV.out]
    unfold sglB
    first | (simp [u8_int, *]; done) | simp_all [u8_int]
end Go.Proofs.YtdbdbaepmdmnfaaGreatDoor

namespace Go.Proofs.YtdbdbaepmdmnfaaGreatDoor
open Go.RowKit
def tokV (k : Nat) (x : ByteArray) (i : Nat) : Value := .agg #[.int .i64 k, .string x, .int .i64 i]
set_option maxRecDepth 10000 in
set_option maxHeartbeats 4000000 in
theorem token_any (b : Nat) (T : ByteArray) (i : Nat) (dv : Bool) (k e : Nat) (hi : i ≤ e) (he : e ≤ T.size) (w : World) (h : TkAt w b T i dv) :
    Calls Tryz.prog 239 #[.pointer (some ⟨b, 0, none⟩), .int .i64 k, .int .i64 e] w fun en w' => en = .returned (.tuple #[tokV k (T.extract i e) i, .int .i64 e]) ∧ Only (fun _ => False) w w' := by
  have hl := h.lt
  obtain ⟨c0, c1, c2⟩ := h
  have hii : (i : Int) ≤ (e : Int) := by omega
  have hee : (e : Int) ≤ (T.size : Int) := by omega
  unfold tokV
  go_enter Tryz.func239, Tryz.ntmps239
  go_wp2
  go_region
  all_goals
    go_wp2
    refine bodyPost_ret (v := .tuple #[.agg #[.int .i64 k, .string (T.extract i e), .int .i64 i], .int .i64 e]) (by simp [results, Tryz.results239, go_sem]) rfl ⟨rfl, ?_⟩
    exact ((Only.refl _ w).alloc _).drewN 1
/-- The sign at a place: one byte. -/
theorem TkAt.only {w w' b T i dv D} (h : TkAt w b T i dv) (ho : Only D w w') (hd : ¬ D b) : TkAt w' b T i dv := by
  have hl := h.lt
  obtain ⟨h0, h1, h2⟩ := h
  exact ⟨(ho.cell (p := ⟨b, 0, none⟩) hl hd).trans h0, (ho.cell (p := ⟨b, 1, none⟩) hl hd).trans h1, (ho.cell (p := ⟨b, 2, none⟩) hl hd).trans h2⟩
theorem ext2 (T : ByteArray) (i : Nat) (h : i + 2 ≤ T.size) : ((T.extract i T.size).extract 0 2).data.toList = (T.extract i (i + 2)).data.toList := by
  simp only [ByteArray.data_extract, Array.toList_extract, List.extract_eq_take_drop, List.drop_zero, Nat.sub_zero, List.take_take]
  congr 1
  have : T.data.toList.length = T.size := len_eq T
  show min 2 (T.size - i) = i + 2 - i
  omega
/-- A token's box, behind a call. -/
theorem tokbox {w w1 : World} {n : Nat} (ho : Only (fun _ => False) ((w.alloc (.cells #[.int .i64 0, .string ⟨#[]⟩, .int .i64 0] 152)).drewN n) w1) :
    Hid (Only (fun _ => False) w w1) ∧ w1.cell? ⟨w.heap.size, 0, none⟩ = some (.int .i64 0) ∧ w1.cell? ⟨w.heap.size, 1, none⟩ = some (.string ⟨#[]⟩) ∧ w1.cell? ⟨w.heap.size, 2, none⟩ = some (.int .i64 0) ∧ (∀ o, w1.frozen? ⟨w.heap.size, o, none⟩ = false) := by
  have hx1 := (ho.block w.heap.size (by simp) (fun e => e)).trans (new0 w (.cells #[.int .i64 0, .string ⟨#[]⟩, .int .i64 0] 152))
  exact ⟨(((Only.refl _ w).alloc _).drewN n).trans ho (fun _ _ e => e), cell_of hx1 rfl, cell_of hx1 rfl, cell_of hx1 rfl, free_of hx1⟩
theorem tokset {w w1 : World} (ho : Only (fun _ => False) w w1) (v0 v1 v2 : Value) : Only (fun _ => False) w (((w1.setCell ⟨w.heap.size, 0, none⟩ v0).setCell ⟨w.heap.size, 1, none⟩ v1).setCell ⟨w.heap.size, 2, none⟩ v2) :=
  ((ho.setCell (p := ⟨w.heap.size, 0, none⟩) (fun h => absurd h (Nat.lt_irrefl _)) v0).setCell (p := ⟨w.heap.size, 1, none⟩) (fun h => absurd h (Nat.lt_irrefl _)) v1).setCell (p := ⟨w.heap.size, 2, none⟩) (fun h => absurd h (Nat.lt_irrefl _)) v2
set_option maxRecDepth 10000 in
set_option maxHeartbeats 4000000 in
theorem sign_one (b : Nat) (T : ByteArray) (i : Nat) (dv : Bool) (hi : i < T.size) (h5 : T.size ≤ 65000) (hd : i + 1 = T.size ∨ dblB (T.extract i (i + 2)).data.toList = false) (hs : sglB T[i] = true) (w : World) (h : TkAt w b T i dv) :
    Calls Tryz.prog 179 #[.pointer (some ⟨b, 0, none⟩)] w fun en w' => en = .returned (.tuple #[tokV 9 (T.extract i (i + 1)) i, .int .i64 ((i + 1 : Nat) : Int)]) ∧ Only (fun _ => False) w w' := by
  have hl := h.lt
  have HT := hide h
  obtain ⟨c0, c1, c2⟩ := h
  have hii : (i : Int) ≤ (T.size : Int) := by omega
  have hg0 : ∀ (hh : 0 < (T.extract i T.size).size), (T.extract i T.size)[0] = T[i] := by intro hh; simp [ByteArray.getElem_extract]
  have HS : ∀ (hh : 0 < (T.extract i T.size).size) (W : World), Hid (Calls Tryz.prog 245 #[.int .u8 (T.extract i T.size)[0].toNat] W fun e w' => e = .returned (.bool true) ∧ w' = W) := fun hh W => by
    show Calls _ _ _ _ _
    rw [hg0 hh, ← hs]
    exact sgl_any T[i] W
  obtain ⟨X, HX⟩ : ∃ X, Hid (X = T.extract i (i + 1)) := ⟨_, rfl⟩
  rw [← HX.out]
  have HTk : ∀ (o : Obj) (n : Nat), Hid (Calls Tryz.prog 239 #[.pointer (some ⟨b, 0, none⟩), .int .i64 9, .int .i64 ((i : Int) + 1)] ((w.alloc o).drewN n) fun en w' => en = .returned (.tuple #[tokV 9 X i, .int .i64 ((i : Int) + 1)]) ∧ Only (fun _ => False) ((w.alloc o).drewN n) w') := fun o n => by
    rw [HX.out]
    exact token_any b T i dv 9 (i + 1) (by omega) (by omega) _ ((HT.out.alloc hl o).drewN n)
  have hd0 : 0 < T.size - i := by omega
  have hdd : ¬ (1 : Int) < ((T.size - i : Nat) : Int) ∨ (i + 2 ≤ T.size ∧ (1 : Int) < ((T.size - i : Nat) : Int)) := by omega
  have HD : i + 2 ≤ T.size → ∀ W, Hid (Calls Tryz.prog 244 #[.string ((T.extract i T.size).extract 0 2)] W fun e w' => e = .returned (.bool false) ∧ w' = W) := fun h2 W => by
    show Calls _ _ _ _ _
    have h3 := dbl_any ((T.extract i T.size).extract 0 2) W
    rw [ext2 T i h2] at h3
    rcases hd with h4 | h4
    · omega
    · rw [h4] at h3; exact h3
  clear hg0 hd hs
  rcases hdd with hd1 | ⟨h2, hd1⟩
  · clear HD
    go_enter Tryz.func179, Tryz.ntmps179
    go_wp2
    go_quiet (fail)
    go_wp2_with (first | (go_at_call 245; refine ((HS (by simp; omega) _).out).mono ?_; rintro e w' ⟨rfl, rfl⟩) | (go_at_call 239; refine ((HTk _ _).out).mono ?_; rintro e w1 ⟨rfl, ho1⟩; obtain ⟨HO1, q0, q1, q2, qf⟩ := tokbox ho1; clear ho1; unfold tokV))
    exact bodyPost_ret (v := .tuple #[.agg #[.int .i64 9, .string X, .int .i64 i], .int .i64 ((i : Int) + 1)]) (by simp [results, Tryz.results179, go_sem, q0, q1, q2]) rfl ⟨by unfold tokV; rfl, tokset HO1.out _ _ _⟩
  · have HD2 := HD h2
    clear HD
    go_enter Tryz.func179, Tryz.ntmps179
    go_wp2
    go_quiet (fail)
    go_wp2_with (first | (go_at_call 244; refine ((HD2 _).out).mono ?_; rintro e w' ⟨rfl, rfl⟩) | (go_at_call 245; refine ((HS (by simp; omega) _).out).mono ?_; rintro e w' ⟨rfl, rfl⟩) | (go_at_call 239; refine ((HTk _ _).out).mono ?_; rintro e w1 ⟨rfl, ho1⟩; obtain ⟨HO1, q0, q1, q2, qf⟩ := tokbox ho1; clear ho1; unfold tokV))
    exact bodyPost_ret (v := .tuple #[.agg #[.int .i64 9, .string X, .int .i64 i], .int .i64 ((i : Int) + 1)]) (by simp [results, Tryz.results179, go_sem, q0, q1, q2]) rfl ⟨by unfold tokV; rfl, tokset HO1.out _ _ _⟩
end Go.Proofs.YtdbdbaepmdmnfaaGreatDoor

namespace Go.Proofs.YtdbdbaepmdmnfaaGreatDoor
open Go.RowKit
def namB (c : UInt8) : Bool := letB c || digB c
/-- What kind of token a name is, that ends ahead of e. -/
def nameK (x l : List UInt8) (e : Nat) : Nat := if wordB x then 7 else if ownB x then 8 else if isAt l e 40 then 6 else 5
set_option maxRecDepth 10000 in
set_option maxHeartbeats 8000000 in
theorem name_any (b : Nat) (T : ByteArray) (i : Nat) (dv : Bool) (hi : i ≤ T.size) (h5 : T.size ≤ 65000) (w : World) (h : TkAt w b T i dv) :
    Calls Tryz.prog 176 #[.pointer (some ⟨b, 0, none⟩)] w fun en w' => en = .returned (.tuple #[tokV (nameK (T.extract i (runTo namB T.data.toList i)).data.toList T.data.toList (runTo namB T.data.toList i)) (T.extract i (runTo namB T.data.toList i)) i, .int .i64 (runTo namB T.data.toList i)]) ∧ Only (fun _ => False) w w' := by
  have hl := h.lt
  have HT := hide h
  obtain ⟨c0, c1, c2⟩ := h
  obtain ⟨E, HE⟩ : ∃ E, Hid (E = runTo namB T.data.toList i) := ⟨_, rfl⟩
  rw [← HE.out]
  have hEl : E ≤ T.size := by rw [HE.out]; have := runTo_le (p := namB) (l := T.data.toList) (k := i) (by rw [len_eq]; exact hi); rw [len_eq] at this; exact this
  have hiE : i ≤ E := by rw [HE.out]; exact runTo_ge _ _ _
  obtain ⟨X, HX⟩ : ∃ X, Hid (X = T.extract i E) := ⟨_, rfl⟩
  rw [← HX.out]
  obtain ⟨K, HK⟩ : ∃ K, Hid (K = nameK X.data.toList T.data.toList E) := ⟨_, rfl⟩
  rw [← HK.out]
  have HTk : ∀ (kk : Nat) (o : Obj) (n : Nat), Hid (Calls Tryz.prog 239 #[.pointer (some ⟨b, 0, none⟩), .int .i64 kk, .int .i64 E] ((w.alloc o).drewN n) fun en w' => en = .returned (.tuple #[tokV kk X i, .int .i64 E]) ∧ Only (fun _ => False) ((w.alloc o).drewN n) w') := fun kk o n => by
    rw [HX.out]
    exact token_any b T i dv kk E hiE hEl _ ((HT.out.alloc hl o).drewN n)
  go_enter Tryz.func176, Tryz.ntmps176
  go_wp2
  go_loopw [4] (fun s4 wr => ∃ k : Nat, s4 = .int .i64 k ∧ i ≤ k ∧ k ≤ E ∧ runTo namB T.data.toList k = E ∧ wr = w.alloc (.cells #[.int .i64 0, .string ⟨#[]⟩, .int .i64 0] 152)) (fun s4 _ => T.size - (intOf s4).toNat)
  case atStart => exact ⟨i, rfl, Nat.le_refl _, hiE, HE.out.symm, rfl⟩
  case round =>
    obtain ⟨k, rfl, hik, hkE, hrk, rfl⟩ := hrel
    have HRk := hide hrk
    clear hrk
    by_cases hlt : k < T.size
    · have hli : (k : Int) < (T.size : Int) := by omega
      have hget := get_of_lt T k hlt
      cases h1 : letB T[k]
      · cases h2 : digB T[k]
        · have hkE2 : k = E := by
            rw [← HRk.out]
            exact (runTo_stop (fun c hc => by rw [hget] at hc; cases hc; unfold namB; rw [h1, h2]; rfl)).symm
          obtain rfl : k = E := hkE2
          clear hget
          have hE2 := True.intro
          have hii : (i : Int) ≤ (k : Int) := by omega
          have hee : (k : Int) ≤ (T.size : Int) := by omega
          cases hw : wordB X.data.toList
          · have HWd : ∀ W, Hid (Calls Tryz.prog 240 #[.string (T.extract i k)] W fun e w' => e = .returned (.bool false) ∧ w' = W) := fun W => by rw [← HX.out, ← hw]; exact word_any X W
            cases ho : ownB X.data.toList
            · have HOw : ∀ W, Hid (Calls Tryz.prog 241 #[.string (T.extract i k)] W fun e w' => e = .returned (.bool false) ∧ w' = W) := fun W => by rw [← HX.out, ← ho]; exact own_any X W
              by_cases hpar : ((T[k].toNat : Int) == 40) = true
              · have hat : isAt T.data.toList k 40 = true := by rw [isAt_lt T k _ hlt]; exact hpar
                have hK : K = 6 := by rw [HK.out]; unfold nameK; simp [hw, ho, hat]
                clear hE2
                go_wp2_with (first | (go_at_call 175; refine (tletter_any _ _).mono ?_; rintro e w' ⟨rfl, rfl⟩; rw [h1]) | (go_at_call 173; refine (tdigit_any _ _).mono ?_; rintro e w' ⟨rfl, rfl⟩; rw [h2]))
                go_quiet (fail)
                go_wp2_with (first | (go_at_call 240; refine ((HWd _).out).mono ?_; rintro e w' ⟨rfl, rfl⟩) | (go_at_call 241; refine ((HOw _).out).mono ?_; rintro e w' ⟨rfl, rfl⟩) | (go_at_call 239; refine ((HTk 6 _ _).out).mono ?_; rintro e w1 ⟨rfl, ho1⟩; obtain ⟨HO1, q0, q1, q2, qf⟩ := tokbox ho1; clear ho1; unfold tokV))
                exact bodyPost_ret (v := .tuple #[.agg #[.int .i64 6, .string X, .int .i64 i], .int .i64 k]) (by simp [results, Tryz.results176, go_sem, q0, q1, q2]) rfl ⟨by rw [hK]; unfold tokV; rfl, tokset HO1.out _ _ _⟩
              · have hpar2 : ((T[k].toNat : Int) == 40) = false := by simpa using hpar
                have hat : isAt T.data.toList k 40 = false := by rw [isAt_lt T k _ hlt]; exact hpar2
                clear hpar
                have hK : K = 5 := by rw [HK.out]; unfold nameK; simp [hw, ho, hat]
                clear hE2
                go_wp2_with (first | (go_at_call 175; refine (tletter_any _ _).mono ?_; rintro e w' ⟨rfl, rfl⟩; rw [h1]) | (go_at_call 173; refine (tdigit_any _ _).mono ?_; rintro e w' ⟨rfl, rfl⟩; rw [h2]))
                go_quiet (fail)
                go_wp2_with (first | (go_at_call 240; refine ((HWd _).out).mono ?_; rintro e w' ⟨rfl, rfl⟩) | (go_at_call 241; refine ((HOw _).out).mono ?_; rintro e w' ⟨rfl, rfl⟩) | (go_at_call 239; refine ((HTk 5 _ _).out).mono ?_; rintro e w1 ⟨rfl, ho1⟩; obtain ⟨HO1, q0, q1, q2, qf⟩ := tokbox ho1; clear ho1; unfold tokV))
                exact bodyPost_ret (v := .tuple #[.agg #[.int .i64 5, .string X, .int .i64 i], .int .i64 k]) (by simp [results, Tryz.results176, go_sem, q0, q1, q2]) rfl ⟨by rw [hK]; unfold tokV; rfl, tokset HO1.out _ _ _⟩
            · have HOw : ∀ W, Hid (Calls Tryz.prog 241 #[.string (T.extract i k)] W fun e w' => e = .returned (.bool true) ∧ w' = W) := fun W => by rw [← HX.out, ← ho]; exact own_any X W
              have hK : K = 8 := by rw [HK.out]; unfold nameK; simp [hw, ho]
              clear hE2
              go_wp2_with (first | (go_at_call 175; refine (tletter_any _ _).mono ?_; rintro e w' ⟨rfl, rfl⟩; rw [h1]) | (go_at_call 173; refine (tdigit_any _ _).mono ?_; rintro e w' ⟨rfl, rfl⟩; rw [h2]))
              go_quiet (fail)
              go_wp2_with (first | (go_at_call 240; refine ((HWd _).out).mono ?_; rintro e w' ⟨rfl, rfl⟩) | (go_at_call 241; refine ((HOw _).out).mono ?_; rintro e w' ⟨rfl, rfl⟩) | (go_at_call 239; refine ((HTk 8 _ _).out).mono ?_; rintro e w1 ⟨rfl, ho1⟩; obtain ⟨HO1, q0, q1, q2, qf⟩ := tokbox ho1; clear ho1; unfold tokV))
              exact bodyPost_ret (v := .tuple #[.agg #[.int .i64 8, .string X, .int .i64 i], .int .i64 k]) (by simp [results, Tryz.results176, go_sem, q0, q1, q2]) rfl ⟨by rw [hK]; unfold tokV; rfl, tokset HO1.out _ _ _⟩
          · have HWd : ∀ W, Hid (Calls Tryz.prog 240 #[.string (T.extract i k)] W fun e w' => e = .returned (.bool true) ∧ w' = W) := fun W => by rw [← HX.out, ← hw]; exact word_any X W
            have HOw := HWd
            have hK : K = 7 := by rw [HK.out]; unfold nameK; simp [hw]
            clear hE2
            go_wp2_with (first | (go_at_call 175; refine (tletter_any _ _).mono ?_; rintro e w' ⟨rfl, rfl⟩; rw [h1]) | (go_at_call 173; refine (tdigit_any _ _).mono ?_; rintro e w' ⟨rfl, rfl⟩; rw [h2]))
            go_quiet (fail)
            go_wp2_with (first | (go_at_call 240; refine ((HWd _).out).mono ?_; rintro e w' ⟨rfl, rfl⟩) | (go_at_call 241; refine ((HOw _).out).mono ?_; rintro e w' ⟨rfl, rfl⟩) | (go_at_call 239; refine ((HTk 7 _ _).out).mono ?_; rintro e w1 ⟨rfl, ho1⟩; obtain ⟨HO1, q0, q1, q2, qf⟩ := tokbox ho1; clear ho1; unfold tokV))
            exact bodyPost_ret (v := .tuple #[.agg #[.int .i64 7, .string X, .int .i64 i], .int .i64 k]) (by simp [results, Tryz.results176, go_sem, q0, q1, q2]) rfl ⟨by rw [hK]; unfold tokV; rfl, tokset HO1.out _ _ _⟩
        · have HR2 : Hid (runTo namB T.data.toList (k + 1) = E) := by
            show _ = E
            rw [runTo_step hget (by unfold namB; rw [h2, Bool.or_true])]; exact HRk.out
          clear hget
          go_wp2_with (first | (go_at_call 175; refine (tletter_any _ _).mono ?_; rintro e w' ⟨rfl, rfl⟩; rw [h1]) | (go_at_call 173; refine (tdigit_any _ _).mono ?_; rintro e w' ⟨rfl, rfl⟩; rw [h2]))
          go_roundw
          case rel => exact ⟨k + 1, by go_num, by omega, by have := runTo_ge namB T.data.toList (k + 1); rw [HR2.out] at this; omega, HR2.out, by trivial⟩
          case measure => simp [intOf]; omega
      · have HR2 : Hid (runTo namB T.data.toList (k + 1) = E) := by
          show _ = E
          rw [runTo_step hget (by unfold namB; rw [h1, Bool.true_or])]; exact HRk.out
        clear hget
        go_wp2_with (first | (go_at_call 175; refine (tletter_any _ _).mono ?_; rintro e w' ⟨rfl, rfl⟩; rw [h1]) | (go_at_call 173; refine (tdigit_any _ _).mono ?_; rintro e w' ⟨rfl, rfl⟩; rw [h2]))
        go_roundw
        case rel => exact ⟨k + 1, by go_num, by omega, by have := runTo_ge namB T.data.toList (k + 1); rw [HR2.out] at this; omega, HR2.out, by trivial⟩
        case measure => simp [intOf]; omega
    · have hli : ¬ (k : Int) < (T.size : Int) := by omega
      have hkE2 : k = E := by
        rw [← HRk.out]
        exact (runTo_stop (fun c hc => by rw [get_none T k (by omega)] at hc; cases hc)).symm
      obtain rfl : k = E := hkE2
      have hE2 := True.intro
      have hii : (i : Int) ≤ (k : Int) := by omega
      have hee : (k : Int) ≤ (T.size : Int) := by omega
      cases hw : wordB X.data.toList
      · have HWd : ∀ W, Hid (Calls Tryz.prog 240 #[.string (T.extract i k)] W fun e w' => e = .returned (.bool false) ∧ w' = W) := fun W => by rw [← HX.out, ← hw]; exact word_any X W
        cases ho : ownB X.data.toList
        · have HOw : ∀ W, Hid (Calls Tryz.prog 241 #[.string (T.extract i k)] W fun e w' => e = .returned (.bool false) ∧ w' = W) := fun W => by rw [← HX.out, ← ho]; exact own_any X W
          have hat : isAt T.data.toList k 40 = false := isAt_ge T k _ (by omega)
          have hK : K = 5 := by rw [HK.out]; unfold nameK; simp [hw, ho, hat]
          clear hE2
          go_wp2
          go_quiet (fail)
          go_wp2_with (first | (go_at_call 240; refine ((HWd _).out).mono ?_; rintro e w' ⟨rfl, rfl⟩) | (go_at_call 241; refine ((HOw _).out).mono ?_; rintro e w' ⟨rfl, rfl⟩) | (go_at_call 239; refine ((HTk 5 _ _).out).mono ?_; rintro e w1 ⟨rfl, ho1⟩; obtain ⟨HO1, q0, q1, q2, qf⟩ := tokbox ho1; clear ho1; unfold tokV))
          exact bodyPost_ret (v := .tuple #[.agg #[.int .i64 5, .string X, .int .i64 i], .int .i64 k]) (by simp [results, Tryz.results176, go_sem, q0, q1, q2]) rfl ⟨by rw [hK]; unfold tokV; rfl, tokset HO1.out _ _ _⟩
        · have HOw : ∀ W, Hid (Calls Tryz.prog 241 #[.string (T.extract i k)] W fun e w' => e = .returned (.bool true) ∧ w' = W) := fun W => by rw [← HX.out, ← ho]; exact own_any X W
          have hK : K = 8 := by rw [HK.out]; unfold nameK; simp [hw, ho]
          clear hE2
          go_wp2
          go_quiet (fail)
          go_wp2_with (first | (go_at_call 240; refine ((HWd _).out).mono ?_; rintro e w' ⟨rfl, rfl⟩) | (go_at_call 241; refine ((HOw _).out).mono ?_; rintro e w' ⟨rfl, rfl⟩) | (go_at_call 239; refine ((HTk 8 _ _).out).mono ?_; rintro e w1 ⟨rfl, ho1⟩; obtain ⟨HO1, q0, q1, q2, qf⟩ := tokbox ho1; clear ho1; unfold tokV))
          exact bodyPost_ret (v := .tuple #[.agg #[.int .i64 8, .string X, .int .i64 i], .int .i64 k]) (by simp [results, Tryz.results176, go_sem, q0, q1, q2]) rfl ⟨by rw [hK]; unfold tokV; rfl, tokset HO1.out _ _ _⟩
      · have HWd : ∀ W, Hid (Calls Tryz.prog 240 #[.string (T.extract i k)] W fun e w' => e = .returned (.bool true) ∧ w' = W) := fun W => by rw [← HX.out, ← hw]; exact word_any X W
        have HOw := HWd
        have hK : K = 7 := by rw [HK.out]; unfold nameK; simp [hw]
        clear hE2
        go_wp2
        go_quiet (fail)
        go_wp2_with (first | (go_at_call 240; refine ((HWd _).out).mono ?_; rintro e w' ⟨rfl, rfl⟩) | (go_at_call 241; refine ((HOw _).out).mono ?_; rintro e w' ⟨rfl, rfl⟩) | (go_at_call 239; refine ((HTk 7 _ _).out).mono ?_; rintro e w1 ⟨rfl, ho1⟩; obtain ⟨HO1, q0, q1, q2, qf⟩ := tokbox ho1; clear ho1; unfold tokV))
        exact bodyPost_ret (v := .tuple #[.agg #[.int .i64 7, .string X, .int .i64 i], .int .i64 k]) (by simp [results, Tryz.results176, go_sem, q0, q1, q2]) rfl ⟨by rw [hK]; unfold tokV; rfl, tokset HO1.out _ _ _⟩
end Go.Proofs.YtdbdbaepmdmnfaaGreatDoor

namespace Go.Proofs.YtdbdbaepmdmnfaaGreatDoor
/-- The bytes from place a up to place b. -/
def cutL (l : List UInt8) (a b : Nat) : List UInt8 := (l.drop a).take (b - a)
theorem cutL_same (l : List UInt8) (a : Nat) : cutL l a a = [] := by simp [cutL]
theorem cutL_snoc {l : List UInt8} {a b : Nat} {c : UInt8} (hab : a ≤ b) (h : l[b]? = some c) : cutL l a (b + 1) = cutL l a b ++ [c] := by
  unfold cutL
  rw [show b + 1 - a = (b - a) + 1 by omega, List.take_add_one, List.getElem?_drop, show a + (b - a) = b by omega, h]
  rfl
theorem drop_at {l : List UInt8} {k : Nat} {c : UInt8} (h : l[k]? = some c) : l.drop k = c :: l.drop (k + 1) := by
  obtain ⟨hk, e⟩ := List.getElem?_eq_some_iff.1 h
  rw [List.drop_eq_getElem_cons hk, e]
/-- The words of a text: cur is what was read of the one that is open. -/
def words : List UInt8 → List UInt8 → List (List UInt8)
  | cur, [] => if cur = [] then [] else [cur]
  | cur, c :: l => if blankB c then (if cur = [] then words [] l else cur :: words [] l) else words (cur ++ [c]) l
/-- The pieces between the bytes that are s. -/
def splitB (s : UInt8) : List UInt8 → List UInt8 → List (List UInt8)
  | cur, [] => [cur]
  | cur, c :: l => if c = s then cur :: splitB s [] l else splitB s (cur ++ [c]) l
def eachB (l : List UInt8) : List (List UInt8) := l.map (fun c => [c])
/-- The pieces between the matches that are not empty; len k: how long the longest match at place k is. -/
def patCut (l : List UInt8) (len : Nat → Nat) : Nat → Nat → Nat → List (List UInt8)
  | 0, frm, _ => [cutL l frm l.length]
  | f + 1, frm, i => if l.length ≤ i then [cutL l frm l.length] else if 0 < len i then cutL l frm i :: patCut l len f (i + len i) (i + len i) else patCut l len f frm (i + 1)
def patC (l : List UInt8) (len : Nat → Nat) (frm i : Nat) : List (List UInt8) := patCut l len (l.length - i) frm i
theorem splitB_hit {l : List UInt8} {a k : Nat} {s : UInt8} (hk : l[k]? = some s) : splitB s (cutL l a k) (l.drop k) = cutL l a k :: splitB s [] (l.drop (k + 1)) := by
  rw [drop_at hk, splitB, if_pos rfl]
theorem splitB_pass {l : List UInt8} {a k : Nat} {s c : UInt8} (hak : a ≤ k) (hk : l[k]? = some c) (hc : c ≠ s) : splitB s (cutL l a k) (l.drop k) = splitB s (cutL l a (k + 1)) (l.drop (k + 1)) := by
  rw [drop_at hk, splitB, if_neg hc, cutL_snoc hak hk]
theorem splitB_end {l : List UInt8} {a : Nat} {s : UInt8} : splitB s (cutL l a l.length) (l.drop l.length) = [cutL l a l.length] := by
  rw [List.drop_length, splitB]
/-- How long the longest match at place k is; 0: there is none, or it is empty. -/
def LenR (R : Pat) (t : List UInt8) (k m : Nat) : Prop := k + m ≤ t.length ∧ (0 < m → R t k (k + m)) ∧ ∀ e, k < e → e ≤ t.length → R t k e → e ≤ k + m
theorem LenR.unique {R : Pat} {t : List UInt8} {k m n : Nat} (h : LenR R t k m) (h' : LenR R t k n) : m = n := by
  have h1 := h.1
  have h2 := h'.1
  by_cases h3 : m < n
  · have := h.2.2 (k + n) (by omega) h2 (h'.2.1 (by omega)); omega
  · by_cases h4 : n < m
    · have := h'.2.2 (k + m) (by omega) h1 (h.2.1 (by omega)); omega
    · omega
/-- A function that tells how long the longest match at each place is. -/
def IsLen (R : Pat) (t : List UInt8) (len : Nat → Nat) : Prop := ∀ k, k ≤ t.length → LenR R t k (len k)
theorem IsLen.le {R : Pat} {t : List UInt8} {len : Nat → Nat} (hL : IsLen R t len) (k : Nat) (hk : k ≤ t.length) : k + len k ≤ t.length := (hL k hk).1
theorem patCut_congr {l : List UInt8} {len len' : Nat → Nat} (h : ∀ k, k < l.length → len k = len' k) (f frm i : Nat) : patCut l len f frm i = patCut l len' f frm i := by
  induction f generalizing frm i with
  | zero => rfl
  | succ f ih =>
    rw [patCut, patCut]
    by_cases hi : l.length ≤ i
    · rw [if_pos hi, if_pos hi]
    · rw [if_neg hi, if_neg hi, h i (by omega), ih, ih]
/-- The pieces of a text between the matches of a pattern. -/
def patPieces (len : Nat → Nat) (t : List UInt8) : List (List UInt8) := if t = [] then [] else patC t len 0 0
theorem patPieces_same {R : Pat} {t : List UInt8} {len len' : Nat → Nat} (h : IsLen R t len) (h' : IsLen R t len') : patPieces len t = patPieces len' t := by
  unfold patPieces patC
  rw [patCut_congr (fun k hk => (h k (by omega)).unique (h' k (by omega)))]
/-- What Split answers: the pieces and the number of the error. -/
def SplitIs (t p : List UInt8) (L : List (List UInt8)) (n : Nat) : Prop :=
  (500 < t.length ∨ 500 < p.length → L = [] ∧ n = 1) ∧
  (¬ (500 < t.length ∨ 500 < p.length) →
    (p = [32] → L = words [] t ∧ n = 0) ∧ (p = [] → L = eachB t ∧ n = 0) ∧ (∀ c, p = [c] → c ≠ 32 → L = (if t = [] then [] else splitB c [] t) ∧ n = 0) ∧
    (2 ≤ p.length → (wholeP p = none → L = [] ∧ n = 7) ∧ ∀ R, wholeP p = some R → (∃ len, IsLen R t len ∧ L = patPieces len t) ∧ n = 0))
theorem SplitIs.unique {t p : List UInt8} {L M : List (List UInt8)} {n m : Nat} (h : SplitIs t p L n) (h' : SplitIs t p M m) : L = M ∧ n = m := by
  by_cases hl : 500 < t.length ∨ 500 < p.length
  · obtain ⟨rfl, rfl⟩ := h.1 hl
    obtain ⟨rfl, rfl⟩ := h'.1 hl
    exact ⟨rfl, rfl⟩
  · obtain ⟨a1, a2, a3, a4⟩ := h.2 hl
    obtain ⟨b1, b2, b3, b4⟩ := h'.2 hl
    match p with
    | [] =>
      obtain ⟨rfl, rfl⟩ := a2 rfl
      obtain ⟨rfl, rfl⟩ := b2 rfl
      exact ⟨rfl, rfl⟩
    | [c] =>
      by_cases hc : c = 32
      · subst hc
        obtain ⟨rfl, rfl⟩ := a1 rfl
        obtain ⟨rfl, rfl⟩ := b1 rfl
        exact ⟨rfl, rfl⟩
      · obtain ⟨rfl, rfl⟩ := a3 c rfl hc
        obtain ⟨rfl, rfl⟩ := b3 c rfl hc
        exact ⟨rfl, rfl⟩
    | a :: b :: r =>
      obtain ⟨a5, a6⟩ := a4 (by simp)
      obtain ⟨b5, b6⟩ := b4 (by simp)
      cases hw : wholeP (a :: b :: r) with
      | none =>
        obtain ⟨rfl, rfl⟩ := a5 hw
        obtain ⟨rfl, rfl⟩ := b5 hw
        exact ⟨rfl, rfl⟩
      | some R =>
        obtain ⟨⟨len, c1, rfl⟩, rfl⟩ := a6 R hw
        obtain ⟨⟨len', c2, rfl⟩, rfl⟩ := b6 R hw
        exact ⟨patPieces_same c1 c2, rfl⟩
/-- A piece as a text. -/
def ofB (l : List UInt8) : ByteArray := ⟨l.toArray⟩
def strsV (L : List (List UInt8)) : List Go.Value := L.map (fun l => Go.Value.string (ofB l))
theorem strsV_snoc (L : List (List UInt8)) (l : List UInt8) : strsV (L ++ [l]) = strsV L ++ [.string (ofB l)] := by simp [strsV]
theorem extract_cut (s : ByteArray) (a b : Nat) : s.extract a b = ofB (cutL s.data.toList a b) := by
  apply ByteArray.ext
  rw [ByteArray.data_extract]
  apply Array.toList_inj.1
  rw [Array.toList_extract, List.extract_eq_take_drop]
  rfl
theorem words_len (cur l : List UInt8) : (words cur l).length ≤ l.length + 1 := by
  induction l generalizing cur with
  | nil => unfold words; split <;> simp
  | cons c l ih =>
    unfold words
    split
    · split
      · have := ih []; simp only [List.length_cons]; omega
      · have := ih []; simp only [List.length_cons]; omega
    · have := ih (cur ++ [c]); simp only [List.length_cons]; omega
theorem splitB_len (s : UInt8) (cur l : List UInt8) : (splitB s cur l).length ≤ l.length + 1 := by
  induction l generalizing cur with
  | nil => simp [splitB]
  | cons c l ih =>
    unfold splitB
    split
    · have := ih []; simp only [List.length_cons]; omega
    · have := ih (cur ++ [c]); simp only [List.length_cons]; omega
theorem patCut_len (l : List UInt8) (len : Nat → Nat) (f frm i : Nat) : (patCut l len f frm i).length ≤ f + 1 := by
  induction f generalizing frm i with
  | zero => simp [patCut]
  | succ f ih =>
    unfold patCut
    split
    · simp
    · split
      · have := ih (i + len i) (i + len i); simp only [List.length_cons]; omega
      · have := ih frm (i + 1); omega
theorem SplitIs.len {t p : List UInt8} {L : List (List UInt8)} {n : Nat} (h : SplitIs t p L n) : L.length ≤ 501 := by
  by_cases hl : 500 < t.length ∨ 500 < p.length
  · rw [(h.1 hl).1]; simp
  · obtain ⟨a1, a2, a3, a4⟩ := h.2 hl
    match p with
    | [] => rw [(a2 rfl).1]; simp [eachB]; omega
    | [c] =>
      by_cases hc : c = 32
      · subst hc; rw [(a1 rfl).1]; have := words_len [] t; omega
      · rw [(a3 c rfl hc).1]
        split
        · simp
        · have := splitB_len c [] t; omega
    | a :: b :: r =>
      obtain ⟨a5, a6⟩ := a4 (by simp)
      cases hw : wholeP (a :: b :: r) with
      | none => rw [(a5 hw).1]; simp
      | some R =>
        obtain ⟨⟨len, _, rfl⟩, _⟩ := a6 R hw
        unfold patPieces
        split
        · simp
        · have := patCut_len t len (t.length - 0) 0 0; unfold patC; omega
end Go.Proofs.YtdbdbaepmdmnfaaGreatDoor

namespace Go.Proofs.YtdbdbaepmdmnfaaGreatDoor
open Go.RowKit
def byV (c : UInt8) : Value := .int .u8 c.toNat
theorem info5t : (Tryz.prog.info? 5).map (fun i => (i.zero, i.size, i.bytes)) = some (some (.int .u8 0), 1, 1) := by kernel_rfl
/-- A row of bytes, as a text. -/
theorem bytes_conv {w : World} {B : Nat} {v : Value} {M : List UInt8} (h : w.ownsRow B 5 1 v M.length (M.map byV)) : (convert 54 9 v).run Tryz.prog w = .ok (.string (ofB M)) w := by
  rcases h.2 with ⟨rfl, hn⟩ | ⟨g, cp, cur, rfl, hg, hh, _, _, hsz, htk⟩
  · have : M = [] := List.eq_nil_of_length_eq_zero hn
    subst this
    exact run_convert_bytes_nil w 54 5 Tryz.underlying54 Tryz.underlying5 _ _ 9 Tryz.underlying9
  · rw [run_convert_bytes_arg w 54 5 Tryz.underlying54 Tryz.underlying5 g 0 M.length cp (M.map fun b => (b.toNat : Int)) (by simp) ?_ 9 Tryz.underlying9]
    · congr 2
      unfold strOfNums ofB
      simp [Function.comp_def]
    · intro i hi
      have h1 : cur[i]? = some (.int .u8 ((M.map fun b => (b.toNat : Int)).getD i 0)) := by
        have h2 : (cur.toList.take (M.length * 1))[i]? = (M.map byV)[i]? := by rw [htk]
        rw [List.getElem?_take_of_lt (by omega), Array.getElem?_toList, List.getElem?_map, List.getElem?_eq_getElem hi] at h2
        rw [h2, List.getD_eq_getElem?_getD, List.getElem?_map, List.getElem?_eq_getElem hi]; rfl
      simp [World.cell?, hh, h1]
theorem news_one' (W : World) (x : Value) (t : TypeId) : ∀ j u, [x][j]? = some u → (W.alloc (.cells #[x] t)).cell? ((⟨W.heap.size, 0, none⟩ : Addr).add j) = some u := by
  intro j u hj
  match j, hj with
  | 0, hj => simp at hj; subst hj; simp [Addr.add]
  | (j + 1), hj => simp at hj
set_option maxRecDepth 10000 in
set_option maxHeartbeats 8000000 in
/-- A string without a backslash. -/
theorem quoted_plain (b : Nat) (T : ByteArray) (i : Nat) (dv : Bool) (q : Nat) (hiq : i < q) (hq : q < T.size) (h5 : T.size ≤ 65000) (hqc : isAt T.data.toList q 34 = true) (hbw : ∀ j, i + 1 ≤ j → j < q → ∀ c, T.data.toList[j]? = some c → ((c.toNat : Int) == 34) = false ∧ ((c.toNat : Int) == 10) = false ∧ ((c.toNat : Int) == 92) = false) (w : World) (h : TkAt w b T i dv) :
    Calls Tryz.prog 177 #[.pointer (some ⟨b, 0, none⟩)] w fun en w' => en = .returned (.tuple #[tokV 3 (ofB (cutL T.data.toList (i + 1) q)) i, .int .i64 ((q + 1 : Nat) : Int)]) ∧ Only (fun _ => False) w w' := by
  obtain ⟨i0, hi0, hz0, hz1, hz2⟩ := info_parts info5t
  have hl := h.lt
  have HT := hide h
  obtain ⟨c0, c1, c2⟩ := h
  have HB := hide hbw
  have hq1 : ((T[q].toNat : Int) == 34) = true := by rw [isAt_lt T q _ hq] at hqc; exact hqc
  obtain ⟨X, HX⟩ : ∃ X, Hid (X = ofB (cutL T.data.toList (i + 1) q)) := ⟨_, rfl⟩
  rw [← HX.out]
  unfold tokV
  clear hqc hbw
  go_enter Tryz.func177, Tryz.ntmps177
  go_wp2
  go_loopw [4, 5] (fun s4 s5 wr => ∃ k : Nat, s5 = .int .i64 k ∧ i + 1 ≤ k ∧ k ≤ q ∧ wr.ownsRow (w.heap.size + 1) 5 1 s4 (cutL T.data.toList (i + 1) k).length ((cutL T.data.toList (i + 1) k).map byV) ∧ Only (fun _ => False) (w.alloc (.cells #[.int .i64 0, .string ⟨#[]⟩, .int .i64 0] 152)) wr) (fun _ s5 _ => T.size - (intOf s5).toNat)
  case atStart => exact ⟨i + 1, by go_num, Nat.le_refl _, by omega, by rw [cutL_same]; exact World.ownsRow_nil _ _ _ _, Only.refl _ _⟩
  case round =>
    obtain ⟨k, rfl, hik, hkq, hown, ho⟩ := hrel
    have hcl : (cutL T.data.toList (i + 1) k).length ≤ 65000 := by
      unfold cutL; rw [List.length_take]; omega
    have hzw : w.heap.size + 1 ≤ wr.heap.size := by have := ho.size; simpa using this
    obtain ⟨b0, b1, b2⟩ := (HT.out.alloc hl (.cells #[.int .i64 0, .string ⟨#[]⟩, .int .i64 0] 152)).only ho (fun e => e)
    obtain ⟨HO1, q0, q1, q2, qf⟩ := tokbox (n := 0) ho
    have HOw := hide hown
    have HO := hide ho
    have hli : (k : Int) < (T.size : Int) := by omega
    by_cases hlt : k < q
    · have hget := get_of_lt T k (by omega)
      obtain ⟨d1, d2, d3⟩ := HB.out k hik hlt T[k] hget
      have HS := hide (cutL_snoc (a := i + 1) hik hget)
      clear hown ho hget
      go_wp2_with (at_builtin; refine wpList_append_own _ rfl (.tmp 62) (.tmp 64) 54 rfl (w.heap.size + 1) 5 i0 (.int .u8 0) 1 1 Tryz.underlying54 hi0 hz0 hz1 hz2 rfl (by decide) _ _ _ rfl (HOw.out.alloc _) _ 1 1 [.int .u8 T[k].toNat] rfl rfl (news_one' _ _ _) (fun u hu => by simp at hu; subst hu; rfl) (by unfold maxLen; omega) (by omega) (by simp; omega) ?_; intro v' w3 hown' hgrow _)
      have R1 : Hid (w3.ownsRow (w.heap.size + 1) 5 1 v' (cutL T.data.toList (i + 1) (k + 1)).length ((cutL T.data.toList (i + 1) (k + 1)).map byV)) := by
        show World.ownsRow _ _ _ _ _ _ _
        rw [HS.out, List.length_append, List.map_append]
        exact hown'
      have R2 : Hid (Only (fun _ => False) (w.alloc (.cells #[.int .i64 0, .string ⟨#[]⟩, .int .i64 0] 152)) w3) := (HO.out.alloc _).grown hgrow (fun k hk hlt => by have := (HOw.out.lt k hk).1; simp at hlt; omega)
      clear hown' hgrow
      go_wp2
      go_roundw
      case rel => exact ⟨k + 1, by go_num, by omega, by omega, R1.out, R2.out⟩
      case measure => simp [intOf]; omega
    · obtain rfl : k = q := by omega
      have kc := bytes_conv (w := wr.drew) (show wr.drew.ownsRow _ _ _ _ _ _ from hown)
      rw [← HX.out] at kc
      clear hown ho
      go_wp2
      go_region
      all_goals
        go_wp2
        refine bodyPost_ret (v := .tuple #[.agg #[.int .i64 3, .string X, .int .i64 i], .int .i64 ((k : Int) + 1)]) (by simp [results, Tryz.results177, go_sem, q0, q1, q2]) rfl ⟨rfl, ?_⟩
        exact (tokset HO1.out _ _ _).drewN 1
end Go.Proofs.YtdbdbaepmdmnfaaGreatDoor

