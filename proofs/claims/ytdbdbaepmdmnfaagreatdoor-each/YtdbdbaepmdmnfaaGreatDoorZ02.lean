import Derived.Test.YtdbdbaepmdmnfaaGreatDoorZ01
import Derived.Deep.QuietTactic
import Derived.BigQuiet
import Derived.BigRegion
import Derived.Deep.RegionWith
import Derived.Deep.RegionLaw
import Derived.Deep.AppendLies
import Derived.Deep.LoopGhost
namespace Go.Proofs.YtdbdbaepmdmnfaaGreatDoor
open Go.RowKit
def tokV (k : Nat) (x : ByteArray) (i : Nat) : Value := .agg #[.int .i64 k, .string x, .int .i64 i]
set_option maxRecDepth 10000 in
set_option maxHeartbeats 4000000 in
theorem token_any (b : Nat) (T : ByteArray) (i : Nat) (dv : Bool) (k e : Nat) (hi : i ≤ e) (he : e ≤ T.size) (w : World) (h : TkAt w b T i dv) :
    Calls Tryz.prog 239 #[.pointer (some ⟨b, 0, none⟩), .int .i64 k, .int .i64 e] w fun en w' => en = .returned (.tuple #[tokV k (T.extract i e) i, .int .i64 e]) ∧ Only (fun _ => False) w w' := by
  have hl := h.lt
  obtain ⟨c0, c1, c2⟩ := h
  have hii : (i : Int) ≤ (e : Int) := by omega
  have hee : (e : Int) ≤ (T.size : Int) := by omega
  unfold tokV
  go_enter Tryz.func239, Tryz.ntmps239
  go_wp2
  go_region
  all_goals
    go_wp2
    refine bodyPost_ret (v := .tuple #[.agg #[.int .i64 k, .string (T.extract i e), .int .i64 i], .int .i64 e]) (by simp [results, Tryz.results239, go_sem]) rfl ⟨rfl, ?_⟩
    exact ((Only.refl _ w).alloc _).drewN 1
/-- The sign at a place: one byte. -/
theorem TkAt.only {w w' b T i dv D} (h : TkAt w b T i dv) (ho : Only D w w') (hd : ¬ D b) : TkAt w' b T i dv := by
  have hl := h.lt
  obtain ⟨h0, h1, h2⟩ := h
  exact ⟨(ho.cell (p := ⟨b, 0, none⟩) hl hd).trans h0, (ho.cell (p := ⟨b, 1, none⟩) hl hd).trans h1, (ho.cell (p := ⟨b, 2, none⟩) hl hd).trans h2⟩
theorem ext2 (T : ByteArray) (i : Nat) (h : i + 2 ≤ T.size) : ((T.extract i T.size).extract 0 2).data.toList = (T.extract i (i + 2)).data.toList := by
  simp only [ByteArray.data_extract, Array.toList_extract, List.extract_eq_take_drop, List.drop_zero, Nat.sub_zero, List.take_take]
  congr 1
  have : T.data.toList.length = T.size := len_eq T
  show min 2 (T.size - i) = i + 2 - i
  omega
/-- A token's box, behind a call. -/
theorem tokbox {w w1 : World} {n : Nat} (ho : Only (fun _ => False) ((w.alloc (.cells #[.int .i64 0, .string ⟨#[]⟩, .int .i64 0] 152)).drewN n) w1) :
    Hid (Only (fun _ => False) w w1) ∧ w1.cell? ⟨w.heap.size, 0, none⟩ = some (.int .i64 0) ∧ w1.cell? ⟨w.heap.size, 1, none⟩ = some (.string ⟨#[]⟩) ∧ w1.cell? ⟨w.heap.size, 2, none⟩ = some (.int .i64 0) ∧ (∀ o, w1.frozen? ⟨w.heap.size, o, none⟩ = false) := by
  have hx1 := (ho.block w.heap.size (by simp) (fun e => e)).trans (new0 w (.cells #[.int .i64 0, .string ⟨#[]⟩, .int .i64 0] 152))
  exact ⟨(((Only.refl _ w).alloc _).drewN n).trans ho (fun _ _ e => e), cell_of hx1 rfl, cell_of hx1 rfl, cell_of hx1 rfl, free_of hx1⟩
theorem tokset {w w1 : World} (ho : Only (fun _ => False) w w1) (v0 v1 v2 : Value) : Only (fun _ => False) w (((w1.setCell ⟨w.heap.size, 0, none⟩ v0).setCell ⟨w.heap.size, 1, none⟩ v1).setCell ⟨w.heap.size, 2, none⟩ v2) :=
  ((ho.setCell (p := ⟨w.heap.size, 0, none⟩) (fun h => absurd h (Nat.lt_irrefl _)) v0).setCell (p := ⟨w.heap.size, 1, none⟩) (fun h => absurd h (Nat.lt_irrefl _)) v1).setCell (p := ⟨w.heap.size, 2, none⟩) (fun h => absurd h (Nat.lt_irrefl _)) v2
set_option maxRecDepth 10000 in
set_option maxHeartbeats 4000000 in
theorem sign_one (b : Nat) (T : ByteArray) (i : Nat) (dv : Bool) (hi : i < T.size) (h5 : T.size ≤ 65000) (hd : i + 1 = T.size ∨ dblB (T.extract i (i + 2)).data.toList = false) (hs : sglB T[i] = true) (w : World) (h : TkAt w b T i dv) :
    Calls Tryz.prog 179 #[.pointer (some ⟨b, 0, none⟩)] w fun en w' => en = .returned (.tuple #[tokV 9 (T.extract i (i + 1)) i, .int .i64 ((i + 1 : Nat) : Int)]) ∧ Only (fun _ => False) w w' := by
  have hl := h.lt
  have HT := hide h
  obtain ⟨c0, c1, c2⟩ := h
  have hii : (i : Int) ≤ (T.size : Int) := by omega
  have hg0 : ∀ (hh : 0 < (T.extract i T.size).size), (T.extract i T.size)[0] = T[i] := by intro hh; simp [ByteArray.getElem_extract]
  have HS : ∀ (hh : 0 < (T.extract i T.size).size) (W : World), Hid (Calls Tryz.prog 245 #[.int .u8 (T.extract i T.size)[0].toNat] W fun e w' => e = .returned (.bool true) ∧ w' = W) := fun hh W => by
    show Calls _ _ _ _ _
    rw [hg0 hh, ← hs]
    exact sgl_any T[i] W
  obtain ⟨X, HX⟩ : ∃ X, Hid (X = T.extract i (i + 1)) := ⟨_, rfl⟩
  rw [← HX.out]
  have HTk : ∀ (o : Obj) (n : Nat), Hid (Calls Tryz.prog 239 #[.pointer (some ⟨b, 0, none⟩), .int .i64 9, .int .i64 ((i : Int) + 1)] ((w.alloc o).drewN n) fun en w' => en = .returned (.tuple #[tokV 9 X i, .int .i64 ((i : Int) + 1)]) ∧ Only (fun _ => False) ((w.alloc o).drewN n) w') := fun o n => by
    rw [HX.out]
    exact token_any b T i dv 9 (i + 1) (by omega) (by omega) _ ((HT.out.alloc hl o).drewN n)
  have hd0 : 0 < T.size - i := by omega
  have hdd : ¬ (1 : Int) < ((T.size - i : Nat) : Int) ∨ (i + 2 ≤ T.size ∧ (1 : Int) < ((T.size - i : Nat) : Int)) := by omega
  have HD : i + 2 ≤ T.size → ∀ W, Hid (Calls Tryz.prog 244 #[.string ((T.extract i T.size).extract 0 2)] W fun e w' => e = .returned (.bool false) ∧ w' = W) := fun h2 W => by
    show Calls _ _ _ _ _
    have h3 := dbl_any ((T.extract i T.size).extract 0 2) W
    rw [ext2 T i h2] at h3
    rcases hd with h4 | h4
    · omega
    · rw [h4] at h3; exact h3
  clear hg0 hd hs
  rcases hdd with hd1 | ⟨h2, hd1⟩
  · clear HD
    go_enter Tryz.func179, Tryz.ntmps179
    go_wp2
    go_quiet (fail)
    go_wp2_with (first | (go_at_call 245; refine ((HS (by simp; omega) _).out).mono ?_; rintro e w' ⟨rfl, rfl⟩) | (go_at_call 239; refine ((HTk _ _).out).mono ?_; rintro e w1 ⟨rfl, ho1⟩; obtain ⟨HO1, q0, q1, q2, qf⟩ := tokbox ho1; clear ho1; unfold tokV))
    exact bodyPost_ret (v := .tuple #[.agg #[.int .i64 9, .string X, .int .i64 i], .int .i64 ((i : Int) + 1)]) (by simp [results, Tryz.results179, go_sem, q0, q1, q2]) rfl ⟨by unfold tokV; rfl, tokset HO1.out _ _ _⟩
  · have HD2 := HD h2
    clear HD
    go_enter Tryz.func179, Tryz.ntmps179
    go_wp2
    go_quiet (fail)
    go_wp2_with (first | (go_at_call 244; refine ((HD2 _).out).mono ?_; rintro e w' ⟨rfl, rfl⟩) | (go_at_call 245; refine ((HS (by simp; omega) _).out).mono ?_; rintro e w' ⟨rfl, rfl⟩) | (go_at_call 239; refine ((HTk _ _).out).mono ?_; rintro e w1 ⟨rfl, ho1⟩; obtain ⟨HO1, q0, q1, q2, qf⟩ := tokbox ho1; clear ho1; unfold tokV))
    exact bodyPost_ret (v := .tuple #[.agg #[.int .i64 9, .string X, .int .i64 i], .int .i64 ((i : Int) + 1)]) (by simp [results, Tryz.results179, go_sem, q0, q1, q2]) rfl ⟨by unfold tokV; rfl, tokset HO1.out _ _ _⟩
end Go.Proofs.YtdbdbaepmdmnfaaGreatDoor

namespace Go.Proofs.YtdbdbaepmdmnfaaGreatDoor
open Go.RowKit
def namB (c : UInt8) : Bool := letB c || digB c
/-- What kind of token a name is, that ends ahead of e. -/
def nameK (x l : List UInt8) (e : Nat) : Nat := if wordB x then 7 else if ownB x then 8 else if isAt l e 40 then 6 else 5
set_option maxRecDepth 10000 in
set_option maxHeartbeats 8000000 in
theorem name_any (b : Nat) (T : ByteArray) (i : Nat) (dv : Bool) (hi : i ≤ T.size) (h5 : T.size ≤ 65000) (w : World) (h : TkAt w b T i dv) :
    Calls Tryz.prog 176 #[.pointer (some ⟨b, 0, none⟩)] w fun en w' => en = .returned (.tuple #[tokV (nameK (T.extract i (runTo namB T.data.toList i)).data.toList T.data.toList (runTo namB T.data.toList i)) (T.extract i (runTo namB T.data.toList i)) i, .int .i64 (runTo namB T.data.toList i)]) ∧ Only (fun _ => False) w w' := by
  have hl := h.lt
  have HT := hide h
  obtain ⟨c0, c1, c2⟩ := h
  obtain ⟨E, HE⟩ : ∃ E, Hid (E = runTo namB T.data.toList i) := ⟨_, rfl⟩
  rw [← HE.out]
  have hEl : E ≤ T.size := by rw [HE.out]; have := runTo_le (p := namB) (l := T.data.toList) (k := i) (by rw [len_eq]; exact hi); rw [len_eq] at this; exact this
  have hiE : i ≤ E := by rw [HE.out]; exact runTo_ge _ _ _
  obtain ⟨X, HX⟩ : ∃ X, Hid (X = T.extract i E) := ⟨_, rfl⟩
  rw [← HX.out]
  obtain ⟨K, HK⟩ : ∃ K, Hid (K = nameK X.data.toList T.data.toList E) := ⟨_, rfl⟩
  rw [← HK.out]
  have HTk : ∀ (kk : Nat) (o : Obj) (n : Nat), Hid (Calls Tryz.prog 239 #[.pointer (some ⟨b, 0, none⟩), .int .i64 kk, .int .i64 E] ((w.alloc o).drewN n) fun en w' => en = .returned (.tuple #[tokV kk X i, .int .i64 E]) ∧ Only (fun _ => False) ((w.alloc o).drewN n) w') := fun kk o n => by
    rw [HX.out]
    exact token_any b T i dv kk E hiE hEl _ ((HT.out.alloc hl o).drewN n)
  go_enter Tryz.func176, Tryz.ntmps176
  go_wp2
  go_loopw [4] (fun s4 wr => ∃ k : Nat, s4 = .int .i64 k ∧ i ≤ k ∧ k ≤ E ∧ runTo namB T.data.toList k = E ∧ wr = w.alloc (.cells #[.int .i64 0, .string ⟨#[]⟩, .int .i64 0] 152)) (fun s4 _ => T.size - (intOf s4).toNat)
  case atStart => exact ⟨i, rfl, Nat.le_refl _, hiE, HE.out.symm, rfl⟩
  case round =>
    obtain ⟨k, rfl, hik, hkE, hrk, rfl⟩ := hrel
    have HRk := hide hrk
    clear hrk
    by_cases hlt : k < T.size
    · have hli : (k : Int) < (T.size : Int) := by omega
      have hget := get_of_lt T k hlt
      cases h1 : letB T[k]
      · cases h2 : digB T[k]
        · have hkE2 : k = E := by
            rw [← HRk.out]
            exact (runTo_stop (fun c hc => by rw [hget] at hc; cases hc; unfold namB; rw [h1, h2]; rfl)).symm
          obtain rfl : k = E := hkE2
          clear hget
          have hE2 := True.intro
          have hii : (i : Int) ≤ (k : Int) := by omega
          have hee : (k : Int) ≤ (T.size : Int) := by omega
          cases hw : wordB X.data.toList
          · have HWd : ∀ W, Hid (Calls Tryz.prog 240 #[.string (T.extract i k)] W fun e w' => e = .returned (.bool false) ∧ w' = W) := fun W => by rw [← HX.out, ← hw]; exact word_any X W
            cases ho : ownB X.data.toList
            · have HOw : ∀ W, Hid (Calls Tryz.prog 241 #[.string (T.extract i k)] W fun e w' => e = .returned (.bool false) ∧ w' = W) := fun W => by rw [← HX.out, ← ho]; exact own_any X W
              by_cases hpar : ((T[k].toNat : Int) == 40) = true
              · have hat : isAt T.data.toList k 40 = true := by rw [isAt_lt T k _ hlt]; exact hpar
                have hK : K = 6 := by rw [HK.out]; unfold nameK; simp [hw, ho, hat]
                clear hE2
                go_wp2_with (first | (go_at_call 175; refine (tletter_any _ _).mono ?_; rintro e w' ⟨rfl, rfl⟩; rw [h1]) | (go_at_call 173; refine (tdigit_any _ _).mono ?_; rintro e w' ⟨rfl, rfl⟩; rw [h2]))
                go_quiet (fail)
                go_wp2_with (first | (go_at_call 240; refine ((HWd _).out).mono ?_; rintro e w' ⟨rfl, rfl⟩) | (go_at_call 241; refine ((HOw _).out).mono ?_; rintro e w' ⟨rfl, rfl⟩) | (go_at_call 239; refine ((HTk 6 _ _).out).mono ?_; rintro e w1 ⟨rfl, ho1⟩; obtain ⟨HO1, q0, q1, q2, qf⟩ := tokbox ho1; clear ho1; unfold tokV))
                exact bodyPost_ret (v := .tuple #[.agg #[.int .i64 6, .string X, .int .i64 i], .int .i64 k]) (by simp [results, Tryz.results176, go_sem, q0, q1, q2]) rfl ⟨by rw [hK]; unfold tokV; rfl, tokset HO1.out _ _ _⟩
              · have hpar2 : ((T[k].toNat : Int) == 40) = false := by simpa using hpar
                have hat : isAt T.data.toList k 40 = false := by rw [isAt_lt T k _ hlt]; exact hpar2
                clear hpar
                have hK : K = 5 := by rw [HK.out]; unfold nameK; simp [hw, ho, hat]
                clear hE2
                go_wp2_with (first | (go_at_call 175; refine (tletter_any _ _).mono ?_; rintro e w' ⟨rfl, rfl⟩; rw [h1]) | (go_at_call 173; refine (tdigit_any _ _).mono ?_; rintro e w' ⟨rfl, rfl⟩; rw [h2]))
                go_quiet (fail)
                go_wp2_with (first | (go_at_call 240; refine ((HWd _).out).mono ?_; rintro e w' ⟨rfl, rfl⟩) | (go_at_call 241; refine ((HOw _).out).mono ?_; rintro e w' ⟨rfl, rfl⟩) | (go_at_call 239; refine ((HTk 5 _ _).out).mono ?_; rintro e w1 ⟨rfl, ho1⟩; obtain ⟨HO1, q0, q1, q2, qf⟩ := tokbox ho1; clear ho1; unfold tokV))
                exact bodyPost_ret (v := .tuple #[.agg #[.int .i64 5, .string X, .int .i64 i], .int .i64 k]) (by simp [results, Tryz.results176, go_sem, q0, q1, q2]) rfl ⟨by rw [hK]; unfold tokV; rfl, tokset HO1.out _ _ _⟩
            · have HOw : ∀ W, Hid (Calls Tryz.prog 241 #[.string (T.extract i k)] W fun e w' => e = .returned (.bool true) ∧ w' = W) := fun W => by rw [← HX.out, ← ho]; exact own_any X W
              have hK : K = 8 := by rw [HK.out]; unfold nameK; simp [hw, ho]
              clear hE2
              go_wp2_with (first | (go_at_call 175; refine (tletter_any _ _).mono ?_; rintro e w' ⟨rfl, rfl⟩; rw [h1]) | (go_at_call 173; refine (tdigit_any _ _).mono ?_; rintro e w' ⟨rfl, rfl⟩; rw [h2]))
              go_quiet (fail)
              go_wp2_with (first | (go_at_call 240; refine ((HWd _).out).mono ?_; rintro e w' ⟨rfl, rfl⟩) | (go_at_call 241; refine ((HOw _).out).mono ?_; rintro e w' ⟨rfl, rfl⟩) | (go_at_call 239; refine ((HTk 8 _ _).out).mono ?_; rintro e w1 ⟨rfl, ho1⟩; obtain ⟨HO1, q0, q1, q2, qf⟩ := tokbox ho1; clear ho1; unfold tokV))
              exact bodyPost_ret (v := .tuple #[.agg #[.int .i64 8, .string X, .int .i64 i], .int .i64 k]) (by simp [results, Tryz.results176, go_sem, q0, q1, q2]) rfl ⟨by rw [hK]; unfold tokV; rfl, tokset HO1.out _ _ _⟩
          · have HWd : ∀ W, Hid (Calls Tryz.prog 240 #[.string (T.extract i k)] W fun e w' => e = .returned (.bool true) ∧ w' = W) := fun W => by rw [← HX.out, ← hw]; exact word_any X W
            have HOw := HWd
            have hK : K = 7 := by rw [HK.out]; unfold nameK; simp [hw]
            clear hE2
            go_wp2_with (first | (go_at_call 175; refine (tletter_any _ _).mono ?_; rintro e w' ⟨rfl, rfl⟩; rw [h1]) | (go_at_call 173; refine (tdigit_any _ _).mono ?_; rintro e w' ⟨rfl, rfl⟩; rw [h2]))
            go_quiet (fail)
            go_wp2_with (first | (go_at_call 240; refine ((HWd _).out).mono ?_; rintro e w' ⟨rfl, rfl⟩) | (go_at_call 241; refine ((HOw _).out).mono ?_; rintro e w' ⟨rfl, rfl⟩) | (go_at_call 239; refine ((HTk 7 _ _).out).mono ?_; rintro e w1 ⟨rfl, ho1⟩; obtain ⟨HO1, q0, q1, q2, qf⟩ := tokbox ho1; clear ho1; unfold tokV))
            exact bodyPost_ret (v := .tuple #[.agg #[.int .i64 7, .string X, .int .i64 i], .int .i64 k]) (by simp [results, Tryz.results176, go_sem, q0, q1, q2]) rfl ⟨by rw [hK]; unfold tokV; rfl, tokset HO1.out _ _ _⟩
        · have HR2 : Hid (runTo namB T.data.toList (k + 1) = E) := by
            show _ = E
            rw [runTo_step hget (by unfold namB; rw [h2, Bool.or_true])]; exact HRk.out
          clear hget
          go_wp2_with (first | (go_at_call 175; refine (tletter_any _ _).mono ?_; rintro e w' ⟨rfl, rfl⟩; rw [h1]) | (go_at_call 173; refine (tdigit_any _ _).mono ?_; rintro e w' ⟨rfl, rfl⟩; rw [h2]))
          go_roundw
          case rel => exact ⟨k + 1, by go_num, by omega, by have := runTo_ge namB T.data.toList (k + 1); rw [HR2.out] at this; omega, HR2.out, by trivial⟩
          case measure => simp [intOf]; omega
      · have HR2 : Hid (runTo namB T.data.toList (k + 1) = E) := by
          show _ = E
          rw [runTo_step hget (by unfold namB; rw [h1, Bool.true_or])]; exact HRk.out
        clear hget
        go_wp2_with (first | (go_at_call 175; refine (tletter_any _ _).mono ?_; rintro e w' ⟨rfl, rfl⟩; rw [h1]) | (go_at_call 173; refine (tdigit_any _ _).mono ?_; rintro e w' ⟨rfl, rfl⟩; rw [h2]))
        go_roundw
        case rel => exact ⟨k + 1, by go_num, by omega, by have := runTo_ge namB T.data.toList (k + 1); rw [HR2.out] at this; omega, HR2.out, by trivial⟩
        case measure => simp [intOf]; omega
    · have hli : ¬ (k : Int) < (T.size : Int) := by omega
      have hkE2 : k = E := by
        rw [← HRk.out]
        exact (runTo_stop (fun c hc => by rw [get_none T k (by omega)] at hc; cases hc)).symm
      obtain rfl : k = E := hkE2
      have hE2 := True.intro
      have hii : (i : Int) ≤ (k : Int) := by omega
      have hee : (k : Int) ≤ (T.size : Int) := by omega
      cases hw : wordB X.data.toList
      · have HWd : ∀ W, Hid (Calls Tryz.prog 240 #[.string (T.extract i k)] W fun e w' => e = .returned (.bool false) ∧ w' = W) := fun W => by rw [← HX.out, ← hw]; exact word_any X W
        cases ho : ownB X.data.toList
        · have HOw : ∀ W, Hid (Calls Tryz.prog 241 #[.string (T.extract i k)] W fun e w' => e = .returned (.bool false) ∧ w' = W) := fun W => by rw [← HX.out, ← ho]; exact own_any X W
          have hat : isAt T.data.toList k 40 = false := isAt_ge T k _ (by omega)
          have hK : K = 5 := by rw [HK.out]; unfold nameK; simp [hw, ho, hat]
          clear hE2
          go_wp2
          go_quiet (fail)
          go_wp2_with (first | (go_at_call 240; refine ((HWd _).out).mono ?_; rintro e w' ⟨rfl, rfl⟩) | (go_at_call 241; refine ((HOw _).out).mono ?_; rintro e w' ⟨rfl, rfl⟩) | (go_at_call 239; refine ((HTk 5 _ _).out).mono ?_; rintro e w1 ⟨rfl, ho1⟩; obtain ⟨HO1, q0, q1, q2, qf⟩ := tokbox ho1; clear ho1; unfold tokV))
          exact bodyPost_ret (v := .tuple #[.agg #[.int .i64 5, .string X, .int .i64 i], .int .i64 k]) (by simp [results, Tryz.results176, go_sem, q0, q1, q2]) rfl ⟨by rw [hK]; unfold tokV; rfl, tokset HO1.out _ _ _⟩
        · have HOw : ∀ W, Hid (Calls Tryz.prog 241 #[.string (T.extract i k)] W fun e w' => e = .returned (.bool true) ∧ w' = W) := fun W => by rw [← HX.out, ← ho]; exact own_any X W
          have hK : K = 8 := by rw [HK.out]; unfold nameK; simp [hw, ho]
          clear hE2
          go_wp2
          go_quiet (fail)
          go_wp2_with (first | (go_at_call 240; refine ((HWd _).out).mono ?_; rintro e w' ⟨rfl, rfl⟩) | (go_at_call 241; refine ((HOw _).out).mono ?_; rintro e w' ⟨rfl, rfl⟩) | (go_at_call 239; refine ((HTk 8 _ _).out).mono ?_; rintro e w1 ⟨rfl, ho1⟩; obtain ⟨HO1, q0, q1, q2, qf⟩ := tokbox ho1; clear ho1; unfold tokV))
          exact bodyPost_ret (v := .tuple #[.agg #[.int .i64 8, .string X, .int .i64 i], .int .i64 k]) (by simp [results, Tryz.results176, go_sem, q0, q1, q2]) rfl ⟨by rw [hK]; unfold tokV; rfl, tokset HO1.out _ _ _⟩
      · have HWd : ∀ W, Hid (Calls Tryz.prog 240 #[.string (T.extract i k)] W fun e w' => e = .returned (.bool true) ∧ w' = W) := fun W => by rw [← HX.out, ← hw]; exact word_any X W
        have HOw := HWd
        have hK : K = 7 := by rw [HK.out]; unfold nameK; simp [hw]
        clear hE2
        go_wp2
        go_quiet (fail)
        go_wp2_with (first | (go_at_call 240; refine ((HWd _).out).mono ?_; rintro e w' ⟨rfl, rfl⟩) | (go_at_call 241; refine ((HOw _).out).mono ?_; rintro e w' ⟨rfl, rfl⟩) | (go_at_call 239; refine ((HTk 7 _ _).out).mono ?_; rintro e w1 ⟨rfl, ho1⟩; obtain ⟨HO1, q0, q1, q2, qf⟩ := tokbox ho1; clear ho1; unfold tokV))
        exact bodyPost_ret (v := .tuple #[.agg #[.int .i64 7, .string X, .int .i64 i], .int .i64 k]) (by simp [results, Tryz.results176, go_sem, q0, q1, q2]) rfl ⟨by rw [hK]; unfold tokV; rfl, tokset HO1.out _ _ _⟩
end Go.Proofs.YtdbdbaepmdmnfaaGreatDoor

namespace Go.Proofs.YtdbdbaepmdmnfaaGreatDoor
open Go.RowKit
end Go.Proofs.YtdbdbaepmdmnfaaGreatDoor
namespace Go.Proofs.YtdbdbaepmdmnfaaGreatDoor
open Go.RowKit
theorem size_setCell (w : World) (p : Addr) (v : Value) : (w.setCell p v).heap.size = w.heap.size := by simp [World.setCell]
end Go.Proofs.YtdbdbaepmdmnfaaGreatDoor

namespace Go.Proofs.YtdbdbaepmdmnfaaGreatDoor
open Go.RowKit
theorem RdB.grown {w w' b s i row} (h : RdB w b s i) (hg : w.grownBy w' row) (hr : some b ≠ row) : RdB w' b s i := (hg.block b (heap_lt h) hr).trans h
end Go.Proofs.YtdbdbaepmdmnfaaGreatDoor

namespace Go.Proofs.YtdbdbaepmdmnfaaGreatDoor
open Go.RowKit
theorem RdAt.drew {w b o s i} (h : RdAt w b o s i) : RdAt w.drew b o s i := h
end Go.Proofs.YtdbdbaepmdmnfaaGreatDoor

namespace Go.Proofs.YtdbdbaepmdmnfaaGreatDoor
open Go.RowKit
/-- A state's seven cells. -/
def stCs (q : St) (ys : Nat → Nat) : List Value := [.int .i64 q.kind, .int .u64 (ys 0), .int .u64 (ys 1), .int .u64 (ys 2), .int .u64 (ys 3), .int .i64 q.next, .int .i64 q.other]
def StCells (Q : List St) (xs : List Value) : Prop := ∀ k q, Q[k]? = some q → ∃ ys, SetIs ys q.set ∧ ∀ j u, (stCs q ys)[j]? = some u → xs[k * 7 + j]? = some u
/-- A pattern lies in block pb: its row of states is v, and they are Q. -/
def Mach (w : World) (pb : Nat) (v : Value) (fst : Int) (Q : List St) : Prop :=
  w.heap[pb]? = some (.cells #[v, .int .i64 fst] 68 (0, 0)) ∧ ∃ xs, w.ownsRow 0 125 7 v Q.length xs ∧ StCells Q xs
/-- What building may turn: the pattern's block and its row of states. -/
def Grew (w w' : World) (pb : Nat) (v v' : Value) : Prop :=
  Only (fun k => k = pb ∨ some k = v.ownBlock) w w' ∧ (v'.ownBlock = v.ownBlock ∨ ∃ G, v'.ownBlock = some G ∧ w.heap.size ≤ G)
theorem Grew.refl (w : World) (pb : Nat) (v : Value) : Grew w w pb v v := ⟨Only.refl _ _, Or.inl rfl⟩
theorem Grew.trans {a b c : World} {pb : Nat} {u v x : Value} (h : Grew a b pb u v) (k : Grew b c pb v x) : Grew a c pb u x := by
  refine ⟨h.1.trans k.1 (fun i hi hk => ?_), ?_⟩
  · rcases hk with hk | hk
    · exact Or.inl hk
    · rcases h.2 with h2 | ⟨G, h2, h3⟩
      · rw [h2] at hk; exact Or.inr hk
      · rw [h2] at hk; cases hk; omega
  · rcases k.2 with k2 | ⟨G, k2, k3⟩
    · rw [k2]; exact h.2
    · exact Or.inr ⟨G, k2, Nat.le_trans h.1.size k3⟩
theorem Grew.before {a b c : World} {pb : Nat} {u v : Value} {D : Nat → Prop} (h : Only D a b) (hD : ∀ k, k < a.heap.size → ¬ D k) (k : Grew b c pb u v) : Grew a c pb u v := by
  refine ⟨⟨k.1.os.trans h.os, k.1.tape.trans h.tape, k.1.output.trans h.output, Nat.le_trans h.size k.1.size, fun i hi hd => (k.1.block i (Nat.lt_of_lt_of_le hi h.size) hd).trans (h.block i hi (hD i hi))⟩, ?_⟩
  rcases k.2 with k2 | ⟨G, k2, k3⟩
  · exact Or.inl k2
  · exact Or.inr ⟨G, k2, Nat.le_trans h.size k3⟩
theorem Mach.own_lt {w pb v fst Q} (h : Mach w pb v fst Q) : ∀ k, v.ownBlock = some k → k < w.heap.size := by
  obtain ⟨h1, xs, h2, _⟩ := h
  exact fun k hk => (h2.lt k hk).2
theorem Mach.of {w w' pb v fst Q} (h : Mach w pb v fst Q) (h1 : w'.heap[pb]? = w.heap[pb]?) (h2 : ∀ k, v.ownBlock = some k → w'.heap[k]? = w.heap[k]?) : Mach w' pb v fst Q := by
  obtain ⟨h3, xs, h4, h5⟩ := h
  exact ⟨h1.trans h3, xs, ownsRow_of h4 h2, h5⟩
theorem Mach.only {w w' pb v fst Q D} (h : Mach w pb v fst Q) (ho : Only D w w') (hD : ∀ k, k < w.heap.size → ¬ D k) : Mach w' pb v fst Q :=
  h.of (ho.block pb (heap_lt h.1) (hD _ (heap_lt h.1))) (fun k hk => ho.block k (h.own_lt k hk) (hD _ (h.own_lt k hk)))
theorem Mach.slice {w pb v fst Q} (h : Mach w pb v fst Q) : ∃ po cap, v = .slice po Q.length cap := by
  obtain ⟨h1, xs, h2, _⟩ := h
  exact ownsRow_slice h2
theorem StCells.push {Q xs q ys} (h : StCells Q xs) (hl : xs.length = Q.length * 7) (hs : SetIs ys q.set) : StCells (Q ++ [q]) (xs ++ stCs q ys) := by
  intro k r hk
  by_cases hlt : k < Q.length
  · rw [List.getElem?_append_left hlt] at hk
    obtain ⟨zs, h1, h2⟩ := h k r hk
    refine ⟨zs, h1, fun j u hj => ?_⟩
    have h3 := h2 j u hj
    rw [List.getElem?_append_left (List.getElem?_eq_some_iff.1 h3).1]
    exact h3
  · rw [List.getElem?_append_right (by omega)] at hk
    have hk' : k = Q.length := by
      have := (List.getElem?_eq_some_iff.1 hk).1
      simp at this; omega
    subst hk'
    simp at hk
    subst hk
    refine ⟨ys, hs, fun j u hj => ?_⟩
    rw [List.getElem?_append_right (by omega), hl, Nat.add_sub_cancel_left]; exact hj
end Go.Proofs.YtdbdbaepmdmnfaaGreatDoor

namespace Go.Proofs.YtdbdbaepmdmnfaaGreatDoor
open Go.RowKit
theorem Mach.alloc {w pb v fst Q} (h : Mach w pb v fst Q) (o : Obj) : Mach (w.alloc o) pb v fst Q := h.only (D := fun _ => False) ((Only.refl _ w).alloc o) (fun _ _ e => e)
theorem Grew.alloc {w w' pb v v'} {o : Obj} (h : Grew (w.alloc o) w' pb v v') : Grew w w' pb v v' := Grew.before (D := fun _ => False) ((Only.refl _ w).alloc o) (fun _ _ e => e) h
/-- No block of F is the pattern's or its row's. -/
def Away (F : Nat → Prop) (w : World) (pb : Nat) (v : Value) : Prop := ∀ g, F g → g < w.heap.size → g ≠ pb ∧ some g ≠ v.ownBlock
theorem Away.alloc {F w pb v Q fst} (h : Away F w pb v) (hm : Mach w pb v fst Q) (o : Obj) : Away F (w.alloc o) pb v := fun g hg hl => by
  by_cases hs : g < w.heap.size
  · exact h g hg hs
  · refine ⟨fun e => ?_, fun e => ?_⟩
    · have := heap_lt hm.1; omega
    · have := hm.own_lt g e.symm; omega
theorem Grew.keep {F w w' pb v v'} (hg : Grew w w' pb v v') (hF : Away F w pb v) : ∀ g, F g → g < w.heap.size → w'.heap[g]? = w.heap[g]? := fun g h1 h2 => hg.1.block g h2 (by
  rintro (e | e)
  · exact (hF g h1 h2).1 e
  · exact (hF g h1 h2).2 e)
theorem Den.form {d N w F cs R} (h : Den d N w F cs R) : ∃ (kind : Int) (xs : Nat → Nat) (po : Option Addr) (n cap : Nat), cs = nodeCs kind xs po n cap := by
  cases d with
  | zero => exact h.elim
  | succ d =>
    obtain ⟨kind, xs, po, n, cap, Rs, Ns, h1, _⟩ := h
    exact ⟨kind, xs, po, n, cap, h1⟩
/-- The parts of a node. -/
def DenParts (d : Nat) (w : World) (F : Nat → Prop) (po : Option Addr) (Rs : List Pat) (Ns : List Nat) : Prop :=
  Rs.length = 0 ∨ ∃ g, po = some ⟨g, 0, none⟩ ∧ F g ∧ g < w.heap.size ∧ ∀ i A M, Rs[i]? = some A → Ns[i]? = some M → ∃ cs', CellsAt w g (i * 6) cs' ∧ Den d M w F cs' A
theorem DenParts.alloc {d w F po Rs Ns} (h : DenParts d w F po Rs Ns) (o : Obj) : DenParts d (w.alloc o) F po Rs Ns := by
  rcases h with h | ⟨g, h6, h7, h8, h9⟩
  · exact Or.inl h
  · refine Or.inr ⟨g, h6, h7, by simp; omega, fun i A M hA hM => ?_⟩
    obtain ⟨cs', h10, h11⟩ := h9 i A M hA hM
    exact ⟨cs', h10.of (Below.heap_alloc _ _ _ h8), h11.frame (by simp) (fun g _ hl => Below.heap_alloc _ _ _ hl)⟩
/-- One part's cells. -/
theorem DenParts.at {d w F po Rs Ns i A M} (h : DenParts d w F po Rs Ns) (hA : Rs[i]? = some A) (hM : Ns[i]? = some M) : ∃ g, po = some ⟨g, 0, none⟩ ∧ F g ∧ g < w.heap.size ∧ ∃ (kind : Int) (xs : Nat → Nat) (qo : Option Addr) (n cap : Nat), CellsAt w g (i * 6) (nodeCs kind xs qo n cap) ∧ Den d M w F (nodeCs kind xs qo n cap) A := by
  rcases h with h | ⟨g, h6, h7, h8, h9⟩
  · have := (List.getElem?_eq_some_iff.1 hA).1; omega
  · obtain ⟨cs', h10, h11⟩ := h9 i A M hA hM
    obtain ⟨kind, xs, qo, n, cap, rfl⟩ := h11.form
    exact ⟨g, h6, h7, h8, kind, xs, qo, n, cap, h10, h11⟩
def StOK (m : Nat) (q : St) : Prop := q.kind ≤ 3 ∧ q.next < m ∧ q.other < m
theorem StOK.up {m m' q} (h : StOK m q) (hm : m ≤ m') : StOK m' q := ⟨h.1, Nat.lt_of_lt_of_le h.2.1 hm, Nat.lt_of_lt_of_le h.2.2 hm⟩
/-- The states Q', laid from number n on, are a machine from b to next. -/
def BuiltIn (n : Nat) (Q' : List St) (b next : Nat) (R : Pat) : Prop := ∀ Qx : List St, (∀ k q, Q'[k]? = some q → Qx[n + k]? = some q) → ∀ t, Built Qx t b next (R t)
def BuildPost (pb : Nat) (v : Value) (fst : Int) (Q : List St) (next N : Nat) (R : Pat) (w : World) (e : Ending) (w' : World) : Prop :=
  ∃ (v' : Value) (Q' : List St) (b : Nat), e = .returned (.int .i64 b) ∧ Mach w' pb v' fst (Q ++ Q') ∧ Grew w w' pb v v' ∧ Q'.length ≤ N ∧ b < Q.length + Q'.length ∧ (∀ q ∈ Q', StOK (Q.length + Q'.length) q) ∧ BuiltIn Q.length Q' b next R
theorem BuildPost.alloc {pb v fst Q next N R w o e w'} (h : BuildPost pb v fst Q next N R (w.alloc o) e w') : BuildPost pb v fst Q next N R w e w' := by
  obtain ⟨v', Q', b, h1, h2, h3, h4⟩ := h
  exact ⟨v', Q', b, h1, h2, h3.alloc, h4⟩
end Go.Proofs.YtdbdbaepmdmnfaaGreatDoor
namespace Go.Proofs.YtdbdbaepmdmnfaaGreatDoor
open Go.RowKit
theorem BuiltIn.row {n : Nat} {Q1 Q2 : List St} {b c next : Nat} {A R : Pat} (h1 : BuiltIn n Q1 c next R) (h2 : BuiltIn (n + Q1.length) Q2 b c A) : BuiltIn n (Q1 ++ Q2) b next (compR R A) := by
  intro Qx hx t
  refine Built.comp (h2 Qx (fun k q hk => ?_) t) (h1 Qx (fun k q hk => ?_) t)
  · have := hx (Q1.length + k) q (by rw [List.getElem?_append_right (by omega), Nat.add_sub_cancel_left]; exact hk)
    rwa [← Nat.add_assoc] at this
  · exact hx k q (by rw [List.getElem?_append_left (List.getElem?_eq_some_iff.1 hk).1]; exact hk)
end Go.Proofs.YtdbdbaepmdmnfaaGreatDoor
namespace Go.Proofs.YtdbdbaepmdmnfaaGreatDoor
open Go.RowKit
theorem BuiltIn.one {n : Nat} {Q2 : List St} {b next : Nat} {A : Pat} (h : BuiltIn n Q2 b next A) : BuiltIn n Q2 b next (altR [A]) := fun Qx hx t => (h Qx hx t).congr (fun i j => ⟨fun h => Or.inl h, fun h => by rcases h with h | h; exact h; exact h.elim⟩)
end Go.Proofs.YtdbdbaepmdmnfaaGreatDoor
namespace Go.Proofs.YtdbdbaepmdmnfaaGreatDoor
open Go.RowKit
theorem Mach.form {w pb v fst Q} (h : Mach w pb v fst Q) (hQ : Q.length ≠ 0) : ∃ G cap, v = .slice (some ⟨G, 0, none⟩) Q.length cap := by
  obtain ⟨h1, xs, h2, _⟩ := h
  rcases h2.2 with ⟨_, h0⟩ | ⟨g, cap, cur, hv, _⟩
  · exact absurd h0 hQ
  · exact ⟨g, cap, hv⟩
theorem Mach.cells {w pb G n cap fst Q k q} (h : Mach w pb (.slice (some ⟨G, 0, none⟩) n cap) fst Q) (hk : Q[k]? = some q) : ∃ ys, SetIs ys q.set ∧ ∀ j u, (stCs q ys)[j]? = some u → w.cell? ⟨G, k * 7 + j, none⟩ = some u := by
  obtain ⟨h1, xs, h2, h3⟩ := h
  obtain ⟨ys, h4, h5⟩ := h3 k q hk
  refine ⟨ys, h4, fun j u hj => ?_⟩
  rcases h2.2 with ⟨e, _⟩ | ⟨g, cap', cur, hv, _, h7, _, _, _, h8⟩
  · cases e
  · cases hv
    have h9 := h5 j u hj
    rw [← h8, List.getElem?_take] at h9
    split at h9
    · refine cell_of h7 ?_
      rw [← Array.getElem?_toList]; exact h9
    · cases h9
theorem Mach.free {w pb G n cap fst Q} (h : Mach w pb (.slice (some ⟨G, 0, none⟩) n cap) fst Q) (o : Nat) : w.frozen? ⟨G, o, none⟩ = false := by
  obtain ⟨h1, xs, h2, h3⟩ := h
  rcases h2.2 with ⟨e, _⟩ | ⟨g, cap', cur, hv, _, h7, _⟩
  · cases e
  · cases hv
    exact free_of h7 o
end Go.Proofs.YtdbdbaepmdmnfaaGreatDoor

