import Derived.Test.YtdbdbaepmdmnfaaGreatDoorZ02
import Derived.Test.YtdbdbaepmdmnfaaGreatDoorZ01
import Derived.Deep.RegionWith
namespace Go.Proofs.YtdbdbaepmdmnfaaGreatDoor
open Go.RowKit
def namB (c : UInt8) : Bool := letB c || digB c
/-- What kind of token a name is, that ends ahead of e. -/
def nameK (x l : List UInt8) (e : Nat) : Nat := if wordB x then 7 else if ownB x then 8 else if isAt l e 40 then 6 else 5
set_option maxRecDepth 10000 in
set_option maxHeartbeats 8000000 in
theorem name_any (b : Nat) (T : ByteArray) (i : Nat) (dv : Bool) (hi : i ≤ T.size) (h5 : T.size ≤ 65000) (w : World) (h : TkAt w b T i dv) :
    Calls Tryz.prog 176 #[.pointer (some ⟨b, 0, none⟩)] w fun en w' => en = .returned (.tuple #[tokV (nameK (T.extract i (runTo namB T.data.toList i)).data.toList T.data.toList (runTo namB T.data.toList i)) (T.extract i (runTo namB T.data.toList i)) i, .int .i64 (runTo namB T.data.toList i)]) ∧ Only (fun _ => False) w w' := by
  have hl := h.lt
  have HT := hide h
  obtain ⟨c0, c1, c2⟩ := h
  obtain ⟨E, HE⟩ : ∃ E, Hid (E = runTo namB T.data.toList i) := ⟨_, rfl⟩
  rw [← HE.out]
  have hEl : E ≤ T.size := by rw [HE.out]; have := runTo_le (p := namB) (l := T.data.toList) (k := i) (by rw [len_eq]; exact hi); rw [len_eq] at this; exact this
  have hiE : i ≤ E := by rw [HE.out]; exact runTo_ge _ _ _
  obtain ⟨X, HX⟩ : ∃ X, Hid (X = T.extract i E) := ⟨_, rfl⟩
  rw [← HX.out]
  obtain ⟨K, HK⟩ : ∃ K, Hid (K = nameK X.data.toList T.data.toList E) := ⟨_, rfl⟩
  rw [← HK.out]
  have HTk : ∀ (kk : Nat) (o : Obj) (n : Nat), Hid (Calls Tryz.prog 239 #[.pointer (some ⟨b, 0, none⟩), .int .i64 kk, .int .i64 E] ((w.alloc o).drewN n) fun en w' => en = .returned (.tuple #[tokV kk X i, .int .i64 E]) ∧ Only (fun _ => False) ((w.alloc o).drewN n) w') := fun kk o n => by
    rw [HX.out]
    exact token_any b T i dv kk E hiE hEl _ ((HT.out.alloc hl o).drewN n)
  go_enter Tryz.func176, Tryz.ntmps176
  go_wp2
  go_loopw [4] (fun s4 wr => ∃ k : Nat, s4 = .int .i64 k ∧ i ≤ k ∧ k ≤ E ∧ runTo namB T.data.toList k = E ∧ wr = w.alloc (.cells #[.int .i64 0, .string ⟨#[]⟩, .int .i64 0] 152)) (fun s4 _ => T.size - (intOf s4).toNat)
  case atStart => exact ⟨i, rfl, Nat.le_refl _, hiE, HE.out.symm, rfl⟩
  case round =>
    obtain ⟨k, rfl, hik, hkE, hrk, rfl⟩ := hrel
    have HRk := hide hrk
    clear hrk
    by_cases hlt : k < T.size
    · have hli : (k : Int) < (T.size : Int) := by omega
      have hget := get_of_lt T k hlt
      cases h1 : letB T[k]
      · cases h2 : digB T[k]
        · have hkE2 : k = E := by
            rw [← HRk.out]
            exact (runTo_stop (fun c hc => by rw [hget] at hc; cases hc; unfold namB; rw [h1, h2]; rfl)).symm
          obtain rfl : k = E := hkE2
          clear hget
          have hE2 := True.intro
          have hii : (i : Int) ≤ (k : Int) := by omega
          have hee : (k : Int) ≤ (T.size : Int) := by omega
          cases hw : wordB X.data.toList
          · have HWd : ∀ W, Hid (Calls Tryz.prog 240 #[.string (T.extract i k)] W fun e w' => e = .returned (.bool false) ∧ w' = W) := fun W => by rw [← HX.out, ← hw]; exact word_any X W
            cases ho : ownB X.data.toList
            · have HOw : ∀ W, Hid (Calls Tryz.prog 241 #[.string (T.extract i k)] W fun e w' => e = .returned (.bool false) ∧ w' = W) := fun W => by rw [← HX.out, ← ho]; exact own_any X W
              by_cases hpar : ((T[k].toNat : Int) == 40) = true
              · have hat : isAt T.data.toList k 40 = true := by rw [isAt_lt T k _ hlt]; exact hpar
                have hK : K = 6 := by rw [HK.out]; unfold nameK; simp [hw, ho, hat]
                clear hE2
                go_wp2_with (first | (go_at_call 175; refine (tletter_any _ _).mono ?_; rintro e w' ⟨rfl, rfl⟩; rw [h1]) | (go_at_call 173; refine (tdigit_any _ _).mono ?_; rintro e w' ⟨rfl, rfl⟩; rw [h2]))
                go_quiet (fail)
                go_wp2_with (first | (go_at_call 240; refine ((HWd _).out).mono ?_; rintro e w' ⟨rfl, rfl⟩) | (go_at_call 241; refine ((HOw _).out).mono ?_; rintro e w' ⟨rfl, rfl⟩) | (go_at_call 239; refine ((HTk 6 _ _).out).mono ?_; rintro e w1 ⟨rfl, ho1⟩; obtain ⟨HO1, q0, q1, q2, qf⟩ := tokbox ho1; clear ho1; unfold tokV))
                exact bodyPost_ret (v := .tuple #[.agg #[.int .i64 6, .string X, .int .i64 i], .int .i64 k]) (by simp [results, Tryz.results176, go_sem, q0, q1, q2]) rfl ⟨by rw [hK]; unfold tokV; rfl, tokset HO1.out _ _ _⟩
              · have hpar2 : ((T[k].toNat : Int) == 40) = false := by simpa using hpar
                have hat : isAt T.data.toList k 40 = false := by rw [isAt_lt T k _ hlt]; exact hpar2
                clear hpar
                have hK : K = 5 := by rw [HK.out]; unfold nameK; simp [hw, ho, hat]
                clear hE2
                go_wp2_with (first | (go_at_call 175; refine (tletter_any _ _).mono ?_; rintro e w' ⟨rfl, rfl⟩; rw [h1]) | (go_at_call 173; refine (tdigit_any _ _).mono ?_; rintro e w' ⟨rfl, rfl⟩; rw [h2]))
                go_quiet (fail)
                go_wp2_with (first | (go_at_call 240; refine ((HWd _).out).mono ?_; rintro e w' ⟨rfl, rfl⟩) | (go_at_call 241; refine ((HOw _).out).mono ?_; rintro e w' ⟨rfl, rfl⟩) | (go_at_call 239; refine ((HTk 5 _ _).out).mono ?_; rintro e w1 ⟨rfl, ho1⟩; obtain ⟨HO1, q0, q1, q2, qf⟩ := tokbox ho1; clear ho1; unfold tokV))
                exact bodyPost_ret (v := .tuple #[.agg #[.int .i64 5, .string X, .int .i64 i], .int .i64 k]) (by simp [results, Tryz.results176, go_sem, q0, q1, q2]) rfl ⟨by rw [hK]; unfold tokV; rfl, tokset HO1.out _ _ _⟩
            · have HOw : ∀ W, Hid (Calls Tryz.prog 241 #[.string (T.extract i k)] W fun e w' => e = .returned (.bool true) ∧ w' = W) := fun W => by rw [← HX.out, ← ho]; exact own_any X W
              have hK : K = 8 := by rw [HK.out]; unfold nameK; simp [hw, ho]
              clear hE2
              go_wp2_with (first | (go_at_call 175; refine (tletter_any _ _).mono ?_; rintro e w' ⟨rfl, rfl⟩; rw [h1]) | (go_at_call 173; refine (tdigit_any _ _).mono ?_; rintro e w' ⟨rfl, rfl⟩; rw [h2]))
              go_quiet (fail)
              go_wp2_with (first | (go_at_call 240; refine ((HWd _).out).mono ?_; rintro e w' ⟨rfl, rfl⟩) | (go_at_call 241; refine ((HOw _).out).mono ?_; rintro e w' ⟨rfl, rfl⟩) | (go_at_call 239; refine ((HTk 8 _ _).out).mono ?_; rintro e w1 ⟨rfl, ho1⟩; obtain ⟨HO1, q0, q1, q2, qf⟩ := tokbox ho1; clear ho1; unfold tokV))
              exact bodyPost_ret (v := .tuple #[.agg #[.int .i64 8, .string X, .int .i64 i], .int .i64 k]) (by simp [results, Tryz.results176, go_sem, q0, q1, q2]) rfl ⟨by rw [hK]; unfold tokV; rfl, tokset HO1.out _ _ _⟩
          · have HWd : ∀ W, Hid (Calls Tryz.prog 240 #[.string (T.extract i k)] W fun e w' => e = .returned (.bool true) ∧ w' = W) := fun W => by rw [← HX.out, ← hw]; exact word_any X W
            have HOw := HWd
            have hK : K = 7 := by rw [HK.out]; unfold nameK; simp [hw]
            clear hE2
            go_wp2_with (first | (go_at_call 175; refine (tletter_any _ _).mono ?_; rintro e w' ⟨rfl, rfl⟩; rw [h1]) | (go_at_call 173; refine (tdigit_any _ _).mono ?_; rintro e w' ⟨rfl, rfl⟩; rw [h2]))
            go_quiet (fail)
            go_wp2_with (first | (go_at_call 240; refine ((HWd _).out).mono ?_; rintro e w' ⟨rfl, rfl⟩) | (go_at_call 241; refine ((HOw _).out).mono ?_; rintro e w' ⟨rfl, rfl⟩) | (go_at_call 239; refine ((HTk 7 _ _).out).mono ?_; rintro e w1 ⟨rfl, ho1⟩; obtain ⟨HO1, q0, q1, q2, qf⟩ := tokbox ho1; clear ho1; unfold tokV))
            exact bodyPost_ret (v := .tuple #[.agg #[.int .i64 7, .string X, .int .i64 i], .int .i64 k]) (by simp [results, Tryz.results176, go_sem, q0, q1, q2]) rfl ⟨by rw [hK]; unfold tokV; rfl, tokset HO1.out _ _ _⟩
        · have HR2 : Hid (runTo namB T.data.toList (k + 1) = E) := by
            show _ = E
            rw [runTo_step hget (by unfold namB; rw [h2, Bool.or_true])]; exact HRk.out
          clear hget
          go_wp2_with (first | (go_at_call 175; refine (tletter_any _ _).mono ?_; rintro e w' ⟨rfl, rfl⟩; rw [h1]) | (go_at_call 173; refine (tdigit_any _ _).mono ?_; rintro e w' ⟨rfl, rfl⟩; rw [h2]))
          go_roundw
          case rel => exact ⟨k + 1, by go_num, by omega, by have := runTo_ge namB T.data.toList (k + 1); rw [HR2.out] at this; omega, HR2.out, by trivial⟩
          case measure => simp [intOf]; omega
      · have HR2 : Hid (runTo namB T.data.toList (k + 1) = E) := by
          show _ = E
          rw [runTo_step hget (by unfold namB; rw [h1, Bool.true_or])]; exact HRk.out
        clear hget
        go_wp2_with (first | (go_at_call 175; refine (tletter_any _ _).mono ?_; rintro e w' ⟨rfl, rfl⟩; rw [h1]) | (go_at_call 173; refine (tdigit_any _ _).mono ?_; rintro e w' ⟨rfl, rfl⟩; rw [h2]))
        go_roundw
        case rel => exact ⟨k + 1, by go_num, by omega, by have := runTo_ge namB T.data.toList (k + 1); rw [HR2.out] at this; omega, HR2.out, by trivial⟩
        case measure => simp [intOf]; omega
    · have hli : ¬ (k : Int) < (T.size : Int) := by omega
      have hkE2 : k = E := by
        rw [← HRk.out]
        exact (runTo_stop (fun c hc => by rw [get_none T k (by omega)] at hc; cases hc)).symm
      obtain rfl : k = E := hkE2
      have hE2 := True.intro
      have hii : (i : Int) ≤ (k : Int) := by omega
      have hee : (k : Int) ≤ (T.size : Int) := by omega
      cases hw : wordB X.data.toList
      · have HWd : ∀ W, Hid (Calls Tryz.prog 240 #[.string (T.extract i k)] W fun e w' => e = .returned (.bool false) ∧ w' = W) := fun W => by rw [← HX.out, ← hw]; exact word_any X W
        cases ho : ownB X.data.toList
        · have HOw : ∀ W, Hid (Calls Tryz.prog 241 #[.string (T.extract i k)] W fun e w' => e = .returned (.bool false) ∧ w' = W) := fun W => by rw [← HX.out, ← ho]; exact own_any X W
          have hat : isAt T.data.toList k 40 = false := isAt_ge T k _ (by omega)
          have hK : K = 5 := by rw [HK.out]; unfold nameK; simp [hw, ho, hat]
          clear hE2
          go_wp2
          go_quiet (fail)
          go_wp2_with (first | (go_at_call 240; refine ((HWd _).out).mono ?_; rintro e w' ⟨rfl, rfl⟩) | (go_at_call 241; refine ((HOw _).out).mono ?_; rintro e w' ⟨rfl, rfl⟩) | (go_at_call 239; refine ((HTk 5 _ _).out).mono ?_; rintro e w1 ⟨rfl, ho1⟩; obtain ⟨HO1, q0, q1, q2, qf⟩ := tokbox ho1; clear ho1; unfold tokV))
          exact bodyPost_ret (v := .tuple #[.agg #[.int .i64 5, .string X, .int .i64 i], .int .i64 k]) (by simp [results, Tryz.results176, go_sem, q0, q1, q2]) rfl ⟨by rw [hK]; unfold tokV; rfl, tokset HO1.out _ _ _⟩
        · have HOw : ∀ W, Hid (Calls Tryz.prog 241 #[.string (T.extract i k)] W fun e w' => e = .returned (.bool true) ∧ w' = W) := fun W => by rw [← HX.out, ← ho]; exact own_any X W
          have hK : K = 8 := by rw [HK.out]; unfold nameK; simp [hw, ho]
          clear hE2
          go_wp2
          go_quiet (fail)
          go_wp2_with (first | (go_at_call 240; refine ((HWd _).out).mono ?_; rintro e w' ⟨rfl, rfl⟩) | (go_at_call 241; refine ((HOw _).out).mono ?_; rintro e w' ⟨rfl, rfl⟩) | (go_at_call 239; refine ((HTk 8 _ _).out).mono ?_; rintro e w1 ⟨rfl, ho1⟩; obtain ⟨HO1, q0, q1, q2, qf⟩ := tokbox ho1; clear ho1; unfold tokV))
          exact bodyPost_ret (v := .tuple #[.agg #[.int .i64 8, .string X, .int .i64 i], .int .i64 k]) (by simp [results, Tryz.results176, go_sem, q0, q1, q2]) rfl ⟨by rw [hK]; unfold tokV; rfl, tokset HO1.out _ _ _⟩
      · have HWd : ∀ W, Hid (Calls Tryz.prog 240 #[.string (T.extract i k)] W fun e w' => e = .returned (.bool true) ∧ w' = W) := fun W => by rw [← HX.out, ← hw]; exact word_any X W
        have HOw := HWd
        have hK : K = 7 := by rw [HK.out]; unfold nameK; simp [hw]
        clear hE2
        go_wp2
        go_quiet (fail)
        go_wp2_with (first | (go_at_call 240; refine ((HWd _).out).mono ?_; rintro e w' ⟨rfl, rfl⟩) | (go_at_call 241; refine ((HOw _).out).mono ?_; rintro e w' ⟨rfl, rfl⟩) | (go_at_call 239; refine ((HTk 7 _ _).out).mono ?_; rintro e w1 ⟨rfl, ho1⟩; obtain ⟨HO1, q0, q1, q2, qf⟩ := tokbox ho1; clear ho1; unfold tokV))
        exact bodyPost_ret (v := .tuple #[.agg #[.int .i64 7, .string X, .int .i64 i], .int .i64 k]) (by simp [results, Tryz.results176, go_sem, q0, q1, q2]) rfl ⟨by rw [hK]; unfold tokV; rfl, tokset HO1.out _ _ _⟩
end Go.Proofs.YtdbdbaepmdmnfaaGreatDoor

namespace Go.Proofs.YtdbdbaepmdmnfaaGreatDoor
open Go.RowKit
end Go.Proofs.YtdbdbaepmdmnfaaGreatDoor
namespace Go.Proofs.YtdbdbaepmdmnfaaGreatDoor
open Go.RowKit
theorem size_setCell (w : World) (p : Addr) (v : Value) : (w.setCell p v).heap.size = w.heap.size := by simp [World.setCell]
end Go.Proofs.YtdbdbaepmdmnfaaGreatDoor

namespace Go.Proofs.YtdbdbaepmdmnfaaGreatDoor
open Go.RowKit
theorem RdB.grown {w w' b s i row} (h : RdB w b s i) (hg : w.grownBy w' row) (hr : some b ≠ row) : RdB w' b s i := (hg.block b (heap_lt h) hr).trans h
end Go.Proofs.YtdbdbaepmdmnfaaGreatDoor

namespace Go.Proofs.YtdbdbaepmdmnfaaGreatDoor
open Go.RowKit
theorem RdAt.drew {w b o s i} (h : RdAt w b o s i) : RdAt w.drew b o s i := h
end Go.Proofs.YtdbdbaepmdmnfaaGreatDoor

