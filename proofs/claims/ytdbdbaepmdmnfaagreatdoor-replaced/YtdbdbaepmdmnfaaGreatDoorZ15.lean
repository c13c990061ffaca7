import Derived.Test.YtdbdbaepmdmnfaaGreatDoorZ06
import Derived.Test.YtdbdbaepmdmnfaaGreatDoorZ14
import Derived.Deep.LoopGhost
import Derived.Laws.BytesArg
namespace Go.Proofs.YtdbdbaepmdmnfaaGreatDoor
open Go.RowKit
/-- A reader that is the beginning of a parser's block. -/
def PSt (w : World) (pb : Nat) (T : ByteArray) (i : Nat) (dv : Bool) (k : Nat) (x : ByteArray) (xa : Nat) (ge : Bool) : Prop :=
  w.heap[pb]? = some (.cells #[.string T, .int .i64 i, .bool dv, .int .i64 k, .string x, .int .i64 xa, .bool ge] 154 (0, 0))
theorem PSt.tk {w pb T i dv k x xa ge} (h : PSt w pb T i dv k x xa ge) : TkAt w pb T i dv := ⟨cell_of h rfl, cell_of h rfl, cell_of h rfl⟩
theorem PSt.drewN {w pb T i dv k x xa ge} (h : PSt w pb T i dv k x xa ge) (n : Nat) : PSt (w.drewN n) pb T i dv k x xa ge := h
theorem PSt.setAt {w pb T i dv k x xa ge} (h : PSt w pb T i dv k x xa ge) (j : Nat) : PSt (w.setCell ⟨pb, 1, none⟩ (.int .i64 j)) pb T j dv k x xa ge := heap_setCell_same h _
theorem PSt.setDv {w pb T i dv k x xa ge} (h : PSt w pb T i dv k x xa ge) (d : Bool) : PSt (w.setCell ⟨pb, 2, none⟩ (.bool d)) pb T i d k x xa ge := heap_setCell_same h _
theorem PSt.only {w w' pb T i dv k x xa ge D} (h : PSt w pb T i dv k x xa ge) (ho : Only D w w') (hd : ¬ D pb) : PSt w' pb T i dv k x xa ge := (ho.block pb (heap_lt h) hd).trans h
set_option maxRecDepth 10000 in
set_option maxHeartbeats 8000000 in
theorem skip_all (pb : Nat) (T : ByteArray) (i : Nat) (dv : Bool) (k : Nat) (x : ByteArray) (xa : Nat) (ge : Bool) (hi : i ≤ T.size) (h5 : T.size ≤ 65000) (hc : ∀ c, T.data.toList[runTo blankB T.data.toList i]? = some c → ((c.toNat : Int) == 35) = false) (w : World) (h : PSt w pb T i dv k x xa ge) :
    Calls Tryz.prog 134 #[.pointer (some ⟨pb, 0, none⟩)] w fun en w' => en = .returned (.tuple #[]) ∧ PSt w' pb T (runTo blankB T.data.toList i) dv k x xa ge ∧ Only (fun k => k = pb) w w' := by
  obtain ⟨E, HE⟩ : ∃ E, Hid (E = runTo blankB T.data.toList i) := ⟨_, rfl⟩
  rw [← HE.out]
  rw [← HE.out] at hc
  have HC := hide hc
  have hEl : E ≤ T.size := by rw [HE.out]; have := runTo_le (p := blankB) (l := T.data.toList) (k := i) (by rw [len_eq]; exact hi); rw [len_eq] at this; exact this
  have HP := hide h
  clear h hc
  go_enter Tryz.func134, Tryz.ntmps134
  go_wp2
  go_loopg [2] (T.size + 1 - i) (fun g _ wr => ∃ j : Nat, g = T.size + 1 - j ∧ PSt wr pb T j dv k x xa ge ∧ Only (fun k => k = pb) w wr ∧ i ≤ j ∧ j ≤ E ∧ runTo blankB T.data.toList j = E)
  case atStart => exact ⟨i, rfl, HP.out, Only.refl _ _, Nat.le_refl _, by rw [HE.out]; exact runTo_ge _ _ _, HE.out.symm⟩
  case round =>
    obtain ⟨j, hg, hp, ho, hij, hjE, hrj⟩ := hrel
    have HG := hide hg
    have HPj := hide hp
    have HO := hide ho
    have HRj := hide hrj
    have c0 : wr.cell? ⟨pb, 0, none⟩ = some (.string T) := cell_of hp rfl
    have c1 : wr.cell? ⟨pb, 1, none⟩ = some (.int .i64 j) := cell_of hp rfl
    have cf := free_of hp
    clear hg hp ho hrj
    by_cases hlt : j < T.size
    · have hli : (j : Int) < (T.size : Int) := by omega
      have hget := get_of_lt T j hlt
      cases hb : blankB T[j]
      · have hjE2 : j = E := by
          rw [← HRj.out]
          exact (runTo_stop (fun c hc => by rw [hget] at hc; cases hc; exact hb)).symm
        have hne : ((T[j].toNat : Int) == 35) = false := by
          have := HC.out T[j]
          rw [← hjE2] at this
          exact this hget
        subst hjE2
        clear hget
        go_wp2_with fail
        go_quiet (first | (go_at_call 171; exact Calls.quiet_of (tended_no pb T j dv hlt _ HPj.out.tk)) | (go_at_call 51; exact Calls.quiet_of_same (by have := isBlank_any T[j]; rw [hb] at this; exact this _)))
        go_wp2
        go_end0
        exact ⟨rfl, HPj.out.drewN _, HO.out.drewN _⟩
      · have HR2 : Hid (runTo blankB T.data.toList (j + 1) = E) := by
          show _ = E
          rw [runTo_step hget hb]; exact HRj.out
        have hnn : ((T[j].toNat : Int) == 35) = false := by
          rw [beq_eq_false_iff_ne]
          intro e
          unfold blankB at hb
          rw [e] at hb
          simp at hb
        clear hget
        go_wp2_with fail
        go_quiet (first | (go_at_call 171; exact Calls.quiet_of (tended_no pb T j dv hlt _ HPj.out.tk)) | (go_at_call 51; exact Calls.quiet_of_same (by have := isBlank_any T[j]; rw [hb] at this; exact this _)))
        go_wp2
        go_quiet (fail)
        go_wp2
        go_roundg (T.size + 1 - (j + 1))
        case measure => rw [HG.out]; omega
        case rel => exact ⟨j + 1, rfl, HPj.out.setAt (j + 1), (HO.out.drewN _).setCell (p := ⟨pb, 1, none⟩) (fun _ => rfl) _, by omega, by have := runTo_ge blankB T.data.toList (j + 1); rw [HR2.out] at this; omega, HR2.out⟩
    · have hjs : j = T.size := by omega
      have hjE2 : j = E := by omega
      subst hjE2
      go_wp2_with fail
      go_quiet (first | (go_at_call 171; exact Calls.quiet_of (tended_yes pb T j dv hjs _ HPj.out.tk)))
      go_wp2
      go_end0
      exact ⟨rfl, HPj.out.drewN _, HO.out.drewN _⟩
end Go.Proofs.YtdbdbaepmdmnfaaGreatDoor

namespace Go.Proofs.YtdbdbaepmdmnfaaGreatDoor
open Go.RowKit
/-- Does a slash behind the token divide? -/
def endsB (k : Nat) (x : List UInt8) : Bool := k == 2 || k == 3 || k == 4 || k == 5 || (k == 9 && (x == [41] || x == [93]))
set_option maxRecDepth 10000 in
set_option maxHeartbeats 8000000 in
theorem ends_any (k : Nat) (x : ByteArray) (i : Nat) (w : World) : Calls Tryz.prog 136 #[tokV k x i] w fun e w' => e = .returned (.bool (endsB k x.data.toList)) ∧ Only (fun _ => False) w w' := by
  obtain ⟨v, HV⟩ : ∃ v, Hid (v = endsB k x.toList) := ⟨_, rfl⟩
  rw [← ByteArray.toList_eq, ← HV.out]
  unfold tokV
  by_cases hk : k = 2 ∨ k = 3 ∨ k = 4 ∨ k = 5 ∨ k = 9
  · rcases hk with rfl | rfl | rfl | rfl | rfl
    all_goals
      go_enter Tryz.func136, Tryz.ntmps136
      go_wp2
      all_goals
        go_ret
        refine ⟨ret_bool ?_, (Only.refl _ w).alloc _⟩
        rw [HV.out]
        unfold endsB
        first | (simp [*]; done) | simp_all
  · have d2 : ((k : Int) == 2) = false := by rw [beq_eq_false_iff_ne]; omega
    have d3 : ((k : Int) == 3) = false := by rw [beq_eq_false_iff_ne]; omega
    have d4 : ((k : Int) == 4) = false := by rw [beq_eq_false_iff_ne]; omega
    have d5 : ((k : Int) == 5) = false := by rw [beq_eq_false_iff_ne]; omega
    have d9 : ((k : Int) == 9) = false := by rw [beq_eq_false_iff_ne]; omega
    have hv : v = false := by
      rw [HV.out]
      unfold endsB
      simp only [Bool.or_eq_false_iff, Bool.and_eq_false_iff, beq_eq_false_iff_ne]
      refine ⟨⟨⟨⟨?_, ?_⟩, ?_⟩, ?_⟩, Or.inl ?_⟩ <;> omega
    subst hv
    clear hk
    go_enter Tryz.func136, Tryz.ntmps136
    go_wp2
    go_ret
    exact ⟨rfl, (Only.refl _ w).alloc _⟩
/-- What reading a token at a place answers. -/
def ReadsTo (pb : Nat) (T : ByteArray) (i : Nat) (dv : Bool) (k : Nat) (x : ByteArray) (e : Nat) : Prop :=
  ∀ w, TkAt w pb T i dv → Calls Tryz.prog 135 #[.pointer (some ⟨pb, 0, none⟩)] w fun en w' => en = .returned (.tuple #[tokV k x i, .int .i64 e]) ∧ Only (fun _ => False) w w'
set_option maxRecDepth 10000 in
set_option maxHeartbeats 8000000 in
theorem read_end (pb : Nat) (T : ByteArray) (dv : Bool) : ReadsTo pb T T.size dv 1 ⟨#[]⟩ T.size := by
  intro w h
  have hl := h.lt
  have HT := hide h
  obtain ⟨c0, c1, c2⟩ := h
  unfold tokV
  go_enter Tryz.func135, Tryz.ntmps135
  go_wp2_with (go_at_call 171; refine (tended_yes pb T T.size dv rfl _ (HT.out.alloc hl _)).mono ?_; rintro e w' ⟨rfl, n, rfl⟩)
  go_region
  all_goals
    go_wp2
    refine bodyPost_ret (v := .tuple #[.agg #[.int .i64 1, .string ⟨#[]⟩, .int .i64 T.size], .int .i64 T.size]) (by simp [results, Tryz.results135, go_sem]) rfl ⟨rfl, ?_⟩
    exact tokset (((Only.refl _ w).alloc _).drewN _) _ _ _
set_option maxRecDepth 10000 in
set_option maxHeartbeats 8000000 in
theorem read_name (pb : Nat) (T : ByteArray) (i : Nat) (dv : Bool) (k : Nat) (x : ByteArray) (e : Nat) (hi : i < T.size) (hdg : digB T[i] = false) (hlt : letB T[i] = true)
    (hsub : ∀ w, TkAt w pb T i dv → Calls Tryz.prog 176 #[.pointer (some ⟨pb, 0, none⟩)] w fun en w' => en = .returned (.tuple #[tokV k x i, .int .i64 e]) ∧ Only (fun _ => False) w w') : ReadsTo pb T i dv k x e := by
  intro w h
  have hl := h.lt
  have HT := hide h
  have HSub := hide hsub
  obtain ⟨c0, c1, c2⟩ := h
  have hli : (i : Int) < (T.size : Int) := by omega
  clear hsub
  unfold tokV
  go_enter Tryz.func135, Tryz.ntmps135
  go_wp2_with (go_at_call 171; refine (tended_no pb T i _ hi _ (HT.out.alloc hl _)).mono ?_; rintro e w' ⟨rfl, n, rfl⟩)
  go_quiet (fail)
  go_wp2_with (first | (go_at_call 173; refine (tdigit_any _ _).mono ?_; rintro e w' ⟨rfl, rfl⟩; rw [hdg]) | (go_at_call 175; refine (tletter_any _ _).mono ?_; rintro e w' ⟨rfl, rfl⟩; rw [hlt]) | (go_at_call 176; refine (HSub.out _ ((HT.out.alloc hl _).drewN _)).mono ?_; rintro e w1 ⟨rfl, ho1⟩; obtain ⟨HO1, q0, q1, q2, qf⟩ := tokbox ho1; clear ho1; unfold tokV))
  exact bodyPost_ret (v := .tuple #[.agg #[.int .i64 k, .string x, .int .i64 i], .int .i64 e]) (by simp [results, Tryz.results135, go_sem, q0, q1, q2]) rfl ⟨rfl, tokset HO1.out _ _ _⟩
set_option maxRecDepth 10000 in
set_option maxHeartbeats 8000000 in
theorem read_string (pb : Nat) (T : ByteArray) (i : Nat) (dv : Bool) (k : Nat) (x : ByteArray) (e : Nat) (hi : i < T.size) (hdg : digB T[i] = false) (hlt : letB T[i] = false) (hqt : ((T[i].toNat : Int) == 34) = true)
    (hsub : ∀ w, TkAt w pb T i dv → Calls Tryz.prog 177 #[.pointer (some ⟨pb, 0, none⟩)] w fun en w' => en = .returned (.tuple #[tokV k x i, .int .i64 e]) ∧ Only (fun _ => False) w w') : ReadsTo pb T i dv k x e := by
  intro w h
  have hl := h.lt
  have HT := hide h
  have HSub := hide hsub
  obtain ⟨c0, c1, c2⟩ := h
  have hli : (i : Int) < (T.size : Int) := by omega
  clear hsub
  unfold tokV
  go_enter Tryz.func135, Tryz.ntmps135
  go_wp2_with (go_at_call 171; refine (tended_no pb T i _ hi _ (HT.out.alloc hl _)).mono ?_; rintro e w' ⟨rfl, n, rfl⟩)
  go_quiet (fail)
  go_wp2_with (first | (go_at_call 173; refine (tdigit_any _ _).mono ?_; rintro e w' ⟨rfl, rfl⟩; rw [hdg]) | (go_at_call 175; refine (tletter_any _ _).mono ?_; rintro e w' ⟨rfl, rfl⟩; rw [hlt]) | (go_at_call 177; refine (HSub.out _ ((HT.out.alloc hl _).drewN _)).mono ?_; rintro e w1 ⟨rfl, ho1⟩; obtain ⟨HO1, q0, q1, q2, qf⟩ := tokbox ho1; clear ho1; unfold tokV))
  exact bodyPost_ret (v := .tuple #[.agg #[.int .i64 k, .string x, .int .i64 i], .int .i64 e]) (by simp [results, Tryz.results135, go_sem, q0, q1, q2]) rfl ⟨rfl, tokset HO1.out _ _ _⟩
set_option maxRecDepth 10000 in
set_option maxHeartbeats 8000000 in
theorem read_sign (pb : Nat) (T : ByteArray) (i : Nat) (dv : Bool) (k : Nat) (x : ByteArray) (e : Nat) (hi : i < T.size) (hdg : digB T[i] = false) (hlt : letB T[i] = false) (hqt : ((T[i].toNat : Int) == 34) = false) (hsl : ((T[i].toNat : Int) == 47) = false)
    (hsub : ∀ w, TkAt w pb T i dv → Calls Tryz.prog 179 #[.pointer (some ⟨pb, 0, none⟩)] w fun en w' => en = .returned (.tuple #[tokV k x i, .int .i64 e]) ∧ Only (fun _ => False) w w') : ReadsTo pb T i dv k x e := by
  intro w h
  have hl := h.lt
  have HT := hide h
  have HSub := hide hsub
  obtain ⟨c0, c1, c2⟩ := h
  have hli : (i : Int) < (T.size : Int) := by omega
  clear hsub
  unfold tokV
  go_enter Tryz.func135, Tryz.ntmps135
  go_wp2_with (go_at_call 171; refine (tended_no pb T i _ hi _ (HT.out.alloc hl _)).mono ?_; rintro e w' ⟨rfl, n, rfl⟩)
  go_quiet (fail)
  go_wp2_with (first | (go_at_call 173; refine (tdigit_any _ _).mono ?_; rintro e w' ⟨rfl, rfl⟩; rw [hdg]) | (go_at_call 175; refine (tletter_any _ _).mono ?_; rintro e w' ⟨rfl, rfl⟩; rw [hlt]) | (go_at_call 179; refine (HSub.out _ ((HT.out.alloc hl _).drewN _)).mono ?_; rintro e w1 ⟨rfl, ho1⟩; obtain ⟨HO1, q0, q1, q2, qf⟩ := tokbox ho1; clear ho1; unfold tokV))
  exact bodyPost_ret (v := .tuple #[.agg #[.int .i64 k, .string x, .int .i64 i], .int .i64 e]) (by simp [results, Tryz.results135, go_sem, q0, q1, q2]) rfl ⟨rfl, tokset HO1.out _ _ _⟩
end Go.Proofs.YtdbdbaepmdmnfaaGreatDoor

