import Derived.Test.YtdbdbaepmdmnfaaGreatDoorZ02
import Derived.Test.YtdbdbaepmdmnfaaGreatDoorZ04
import Derived.Laws.BytesArg
import Derived.Test.YtdbdbaepmdmnfaaGreatDoorZ03
namespace Go.Proofs.YtdbdbaepmdmnfaaGreatDoor
open Go.RowKit
def byV (c : UInt8) : Value := .int .u8 c.toNat
theorem info5t : (Tryz.prog.info? 5).map (fun i => (i.zero, i.size, i.bytes)) = some (some (.int .u8 0), 1, 1) := by kernel_rfl
/-- A row of bytes, as a text. -/
theorem bytes_conv {w : World} {B : Nat} {v : Value} {M : List UInt8} (h : w.ownsRow B 5 1 v M.length (M.map byV)) : (convert 54 9 v).run Tryz.prog w = .ok (.string (ofB M)) w := by
  rcases h.2 with ⟨rfl, hn⟩ | ⟨g, cp, cur, rfl, hg, hh, _, _, hsz, htk⟩
  · have : M = [] := List.eq_nil_of_length_eq_zero hn
    subst this
    exact run_convert_bytes_nil w 54 5 Tryz.underlying54 Tryz.underlying5 _ _ 9 Tryz.underlying9
  · rw [run_convert_bytes_arg w 54 5 Tryz.underlying54 Tryz.underlying5 g 0 M.length cp (M.map fun b => (b.toNat : Int)) (by simp) ?_ 9 Tryz.underlying9]
    · congr 2
      unfold strOfNums ofB
      simp [Function.comp_def]
    · intro i hi
      have h1 : cur[i]? = some (.int .u8 ((M.map fun b => (b.toNat : Int)).getD i 0)) := by
        have h2 : (cur.toList.take (M.length * 1))[i]? = (M.map byV)[i]? := by rw [htk]
        rw [List.getElem?_take_of_lt (by omega), Array.getElem?_toList, List.getElem?_map, List.getElem?_eq_getElem hi] at h2
        rw [h2, List.getD_eq_getElem?_getD, List.getElem?_map, List.getElem?_eq_getElem hi]; rfl
      simp [World.cell?, hh, h1]
theorem news_one' (W : World) (x : Value) (t : TypeId) : ∀ j u, [x][j]? = some u → (W.alloc (.cells #[x] t)).cell? ((⟨W.heap.size, 0, none⟩ : Addr).add j) = some u := by
  intro j u hj
  match j, hj with
  | 0, hj => simp at hj; subst hj; simp [Addr.add]
  | (j + 1), hj => simp at hj
set_option maxRecDepth 10000 in
set_option maxHeartbeats 8000000 in
/-- A string without a backslash. -/
theorem quoted_plain (b : Nat) (T : ByteArray) (i : Nat) (dv : Bool) (q : Nat) (hiq : i < q) (hq : q < T.size) (h5 : T.size ≤ 65000) (hqc : isAt T.data.toList q 34 = true) (hbw : ∀ j, i + 1 ≤ j → j < q → ∀ c, T.data.toList[j]? = some c → ((c.toNat : Int) == 34) = false ∧ ((c.toNat : Int) == 10) = false ∧ ((c.toNat : Int) == 92) = false) (w : World) (h : TkAt w b T i dv) :
    Calls Tryz.prog 177 #[.pointer (some ⟨b, 0, none⟩)] w fun en w' => en = .returned (.tuple #[tokV 3 (ofB (cutL T.data.toList (i + 1) q)) i, .int .i64 ((q + 1 : Nat) : Int)]) ∧ Only (fun _ => False) w w' := by
  obtain ⟨i0, hi0, hz0, hz1, hz2⟩ := info_parts info5t
  have hl := h.lt
  have HT := hide h
  obtain ⟨c0, c1, c2⟩ := h
  have HB := hide hbw
  have hq1 : ((T[q].toNat : Int) == 34) = true := by rw [isAt_lt T q _ hq] at hqc; exact hqc
  obtain ⟨X, HX⟩ : ∃ X, Hid (X = ofB (cutL T.data.toList (i + 1) q)) := ⟨_, rfl⟩
  rw [← HX.out]
  unfold tokV
  clear hqc hbw
  go_enter Tryz.func177, Tryz.ntmps177
  go_wp2
  go_loopw [4, 5] (fun s4 s5 wr => ∃ k : Nat, s5 = .int .i64 k ∧ i + 1 ≤ k ∧ k ≤ q ∧ wr.ownsRow (w.heap.size + 1) 5 1 s4 (cutL T.data.toList (i + 1) k).length ((cutL T.data.toList (i + 1) k).map byV) ∧ Only (fun _ => False) (w.alloc (.cells #[.int .i64 0, .string ⟨#[]⟩, .int .i64 0] 152)) wr) (fun _ s5 _ => T.size - (intOf s5).toNat)
  case atStart => exact ⟨i + 1, by go_num, Nat.le_refl _, by omega, by rw [cutL_same]; exact World.ownsRow_nil _ _ _ _, Only.refl _ _⟩
  case round =>
    obtain ⟨k, rfl, hik, hkq, hown, ho⟩ := hrel
    have hcl : (cutL T.data.toList (i + 1) k).length ≤ 65000 := by
      unfold cutL; rw [List.length_take]; omega
    have hzw : w.heap.size + 1 ≤ wr.heap.size := by have := ho.size; simpa using this
    obtain ⟨b0, b1, b2⟩ := (HT.out.alloc hl (.cells #[.int .i64 0, .string ⟨#[]⟩, .int .i64 0] 152)).only ho (fun e => e)
    obtain ⟨HO1, q0, q1, q2, qf⟩ := tokbox (n := 0) ho
    have HOw := hide hown
    have HO := hide ho
    have hli : (k : Int) < (T.size : Int) := by omega
    by_cases hlt : k < q
    · have hget := get_of_lt T k (by omega)
      obtain ⟨d1, d2, d3⟩ := HB.out k hik hlt T[k] hget
      have HS := hide (cutL_snoc (a := i + 1) hik hget)
      clear hown ho hget
      go_wp2_with (at_builtin; refine wpList_append_own _ rfl (.tmp 62) (.tmp 64) 54 rfl (w.heap.size + 1) 5 i0 (.int .u8 0) 1 1 Tryz.underlying54 hi0 hz0 hz1 hz2 rfl (by decide) _ _ _ rfl (HOw.out.alloc _) _ 1 1 [.int .u8 T[k].toNat] rfl rfl (news_one' _ _ _) (fun u hu => by simp at hu; subst hu; rfl) (by unfold maxLen; omega) (by omega) (by simp; omega) ?_; intro v' w3 hown' hgrow _)
      have R1 : Hid (w3.ownsRow (w.heap.size + 1) 5 1 v' (cutL T.data.toList (i + 1) (k + 1)).length ((cutL T.data.toList (i + 1) (k + 1)).map byV)) := by
        show World.ownsRow _ _ _ _ _ _ _
        rw [HS.out, List.length_append, List.map_append]
        exact hown'
      have R2 : Hid (Only (fun _ => False) (w.alloc (.cells #[.int .i64 0, .string ⟨#[]⟩, .int .i64 0] 152)) w3) := (HO.out.alloc _).grown hgrow (fun k hk hlt => by have := (HOw.out.lt k hk).1; simp at hlt; omega)
      clear hown' hgrow
      go_wp2
      go_roundw
      case rel => exact ⟨k + 1, by go_num, by omega, by omega, R1.out, R2.out⟩
      case measure => simp [intOf]; omega
    · obtain rfl : k = q := by omega
      have kc := bytes_conv (w := wr.drew) (show wr.drew.ownsRow _ _ _ _ _ _ from hown)
      rw [← HX.out] at kc
      clear hown ho
      go_wp2
      go_region
      all_goals
        go_wp2
        refine bodyPost_ret (v := .tuple #[.agg #[.int .i64 3, .string X, .int .i64 i], .int .i64 ((k : Int) + 1)]) (by simp [results, Tryz.results177, go_sem, q0, q1, q2]) rfl ⟨rfl, ?_⟩
        exact (tokset HO1.out _ _ _).drewN 1
end Go.Proofs.YtdbdbaepmdmnfaaGreatDoor

namespace Go.Proofs.YtdbdbaepmdmnfaaGreatDoor
open Go.RowKit
/-- Does a slash behind the token divide? -/
def endsB (k : Nat) (x : List UInt8) : Bool := k == 2 || k == 3 || k == 4 || k == 5 || (k == 9 && (x == [41] || x == [93]))
set_option maxRecDepth 10000 in
set_option maxHeartbeats 8000000 in
theorem ends_any (k : Nat) (x : ByteArray) (i : Nat) (w : World) : Calls Tryz.prog 136 #[tokV k x i] w fun e w' => e = .returned (.bool (endsB k x.data.toList)) ∧ Only (fun _ => False) w w' := by
  obtain ⟨v, HV⟩ : ∃ v, Hid (v = endsB k x.toList) := ⟨_, rfl⟩
  rw [← ByteArray.toList_eq, ← HV.out]
  unfold tokV
  by_cases hk : k = 2 ∨ k = 3 ∨ k = 4 ∨ k = 5 ∨ k = 9
  · rcases hk with rfl | rfl | rfl | rfl | rfl
    all_goals
      go_enter Tryz.func136, Tryz.ntmps136
      go_wp2
      all_goals
        go_ret
        refine ⟨ret_bool ?_, (Only.refl _ w).alloc _⟩
        rw [HV.out]
        unfold endsB
        first | (simp [*]; done) | simp_all
  · have d2 : ((k : Int) == 2) = false := by rw [beq_eq_false_iff_ne]; omega
    have d3 : ((k : Int) == 3) = false := by rw [beq_eq_false_iff_ne]; omega
    have d4 : ((k : Int) == 4) = false := by rw [beq_eq_false_iff_ne]; omega
    have d5 : ((k : Int) == 5) = false := by rw [beq_eq_false_iff_ne]; omega
    have d9 : ((k : Int) == 9) = false := by rw [beq_eq_false_iff_ne]; omega
    have hv : v = false := by
      rw [HV.out]
      unfold endsB
      simp only [Bool.or_eq_false_iff, Bool.and_eq_false_iff, beq_eq_false_iff_ne]
      refine ⟨⟨⟨⟨?_, ?_⟩, ?_⟩, ?_⟩, Or.inl ?_⟩ <;> omega
    subst hv
    clear hk
    go_enter Tryz.func136, Tryz.ntmps136
    go_wp2
    go_ret
    exact ⟨rfl, (Only.refl _ w).alloc _⟩
/-- What reading a token at a place answers. -/
def ReadsTo (pb : Nat) (T : ByteArray) (i : Nat) (dv : Bool) (k : Nat) (x : ByteArray) (e : Nat) : Prop :=
  ∀ w, TkAt w pb T i dv → Calls Tryz.prog 135 #[.pointer (some ⟨pb, 0, none⟩)] w fun en w' => en = .returned (.tuple #[tokV k x i, .int .i64 e]) ∧ Only (fun _ => False) w w'
set_option maxRecDepth 10000 in
set_option maxHeartbeats 8000000 in
theorem read_end (pb : Nat) (T : ByteArray) (dv : Bool) : ReadsTo pb T T.size dv 1 ⟨#[]⟩ T.size := by
  intro w h
  have hl := h.lt
  have HT := hide h
  obtain ⟨c0, c1, c2⟩ := h
  unfold tokV
  go_enter Tryz.func135, Tryz.ntmps135
  go_wp2_with (go_at_call 171; refine (tended_yes pb T T.size dv rfl _ (HT.out.alloc hl _)).mono ?_; rintro e w' ⟨rfl, n, rfl⟩)
  go_region
  all_goals
    go_wp2
    refine bodyPost_ret (v := .tuple #[.agg #[.int .i64 1, .string ⟨#[]⟩, .int .i64 T.size], .int .i64 T.size]) (by simp [results, Tryz.results135, go_sem]) rfl ⟨rfl, ?_⟩
    exact tokset (((Only.refl _ w).alloc _).drewN _) _ _ _
set_option maxRecDepth 10000 in
set_option maxHeartbeats 8000000 in
theorem read_name (pb : Nat) (T : ByteArray) (i : Nat) (dv : Bool) (k : Nat) (x : ByteArray) (e : Nat) (hi : i < T.size) (hdg : digB T[i] = false) (hlt : letB T[i] = true)
    (hsub : ∀ w, TkAt w pb T i dv → Calls Tryz.prog 176 #[.pointer (some ⟨pb, 0, none⟩)] w fun en w' => en = .returned (.tuple #[tokV k x i, .int .i64 e]) ∧ Only (fun _ => False) w w') : ReadsTo pb T i dv k x e := by
  intro w h
  have hl := h.lt
  have HT := hide h
  have HSub := hide hsub
  obtain ⟨c0, c1, c2⟩ := h
  have hli : (i : Int) < (T.size : Int) := by omega
  clear hsub
  unfold tokV
  go_enter Tryz.func135, Tryz.ntmps135
  go_wp2_with (go_at_call 171; refine (tended_no pb T i _ hi _ (HT.out.alloc hl _)).mono ?_; rintro e w' ⟨rfl, n, rfl⟩)
  go_quiet (fail)
  go_wp2_with (first | (go_at_call 173; refine (tdigit_any _ _).mono ?_; rintro e w' ⟨rfl, rfl⟩; rw [hdg]) | (go_at_call 175; refine (tletter_any _ _).mono ?_; rintro e w' ⟨rfl, rfl⟩; rw [hlt]) | (go_at_call 176; refine (HSub.out _ ((HT.out.alloc hl _).drewN _)).mono ?_; rintro e w1 ⟨rfl, ho1⟩; obtain ⟨HO1, q0, q1, q2, qf⟩ := tokbox ho1; clear ho1; unfold tokV))
  exact bodyPost_ret (v := .tuple #[.agg #[.int .i64 k, .string x, .int .i64 i], .int .i64 e]) (by simp [results, Tryz.results135, go_sem, q0, q1, q2]) rfl ⟨rfl, tokset HO1.out _ _ _⟩
set_option maxRecDepth 10000 in
set_option maxHeartbeats 8000000 in
theorem read_string (pb : Nat) (T : ByteArray) (i : Nat) (dv : Bool) (k : Nat) (x : ByteArray) (e : Nat) (hi : i < T.size) (hdg : digB T[i] = false) (hlt : letB T[i] = false) (hqt : ((T[i].toNat : Int) == 34) = true)
    (hsub : ∀ w, TkAt w pb T i dv → Calls Tryz.prog 177 #[.pointer (some ⟨pb, 0, none⟩)] w fun en w' => en = .returned (.tuple #[tokV k x i, .int .i64 e]) ∧ Only (fun _ => False) w w') : ReadsTo pb T i dv k x e := by
  intro w h
  have hl := h.lt
  have HT := hide h
  have HSub := hide hsub
  obtain ⟨c0, c1, c2⟩ := h
  have hli : (i : Int) < (T.size : Int) := by omega
  clear hsub
  unfold tokV
  go_enter Tryz.func135, Tryz.ntmps135
  go_wp2_with (go_at_call 171; refine (tended_no pb T i _ hi _ (HT.out.alloc hl _)).mono ?_; rintro e w' ⟨rfl, n, rfl⟩)
  go_quiet (fail)
  go_wp2_with (first | (go_at_call 173; refine (tdigit_any _ _).mono ?_; rintro e w' ⟨rfl, rfl⟩; rw [hdg]) | (go_at_call 175; refine (tletter_any _ _).mono ?_; rintro e w' ⟨rfl, rfl⟩; rw [hlt]) | (go_at_call 177; refine (HSub.out _ ((HT.out.alloc hl _).drewN _)).mono ?_; rintro e w1 ⟨rfl, ho1⟩; obtain ⟨HO1, q0, q1, q2, qf⟩ := tokbox ho1; clear ho1; unfold tokV))
  exact bodyPost_ret (v := .tuple #[.agg #[.int .i64 k, .string x, .int .i64 i], .int .i64 e]) (by simp [results, Tryz.results135, go_sem, q0, q1, q2]) rfl ⟨rfl, tokset HO1.out _ _ _⟩
set_option maxRecDepth 10000 in
set_option maxHeartbeats 8000000 in
theorem read_sign (pb : Nat) (T : ByteArray) (i : Nat) (dv : Bool) (k : Nat) (x : ByteArray) (e : Nat) (hi : i < T.size) (hdg : digB T[i] = false) (hlt : letB T[i] = false) (hqt : ((T[i].toNat : Int) == 34) = false) (hsl : ((T[i].toNat : Int) == 47) = false)
    (hsub : ∀ w, TkAt w pb T i dv → Calls Tryz.prog 179 #[.pointer (some ⟨pb, 0, none⟩)] w fun en w' => en = .returned (.tuple #[tokV k x i, .int .i64 e]) ∧ Only (fun _ => False) w w') : ReadsTo pb T i dv k x e := by
  intro w h
  have hl := h.lt
  have HT := hide h
  have HSub := hide hsub
  obtain ⟨c0, c1, c2⟩ := h
  have hli : (i : Int) < (T.size : Int) := by omega
  clear hsub
  unfold tokV
  go_enter Tryz.func135, Tryz.ntmps135
  go_wp2_with (go_at_call 171; refine (tended_no pb T i _ hi _ (HT.out.alloc hl _)).mono ?_; rintro e w' ⟨rfl, n, rfl⟩)
  go_quiet (fail)
  go_wp2_with (first | (go_at_call 173; refine (tdigit_any _ _).mono ?_; rintro e w' ⟨rfl, rfl⟩; rw [hdg]) | (go_at_call 175; refine (tletter_any _ _).mono ?_; rintro e w' ⟨rfl, rfl⟩; rw [hlt]) | (go_at_call 179; refine (HSub.out _ ((HT.out.alloc hl _).drewN _)).mono ?_; rintro e w1 ⟨rfl, ho1⟩; obtain ⟨HO1, q0, q1, q2, qf⟩ := tokbox ho1; clear ho1; unfold tokV))
  exact bodyPost_ret (v := .tuple #[.agg #[.int .i64 k, .string x, .int .i64 i], .int .i64 e]) (by simp [results, Tryz.results135, go_sem, q0, q1, q2]) rfl ⟨rfl, tokset HO1.out _ _ _⟩
end Go.Proofs.YtdbdbaepmdmnfaaGreatDoor

