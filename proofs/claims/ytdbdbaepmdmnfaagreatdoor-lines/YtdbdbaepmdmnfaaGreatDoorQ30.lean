import Derived.Test.YtdbdbaepmdmnfaaGreatDoorQ29
namespace Go.Proofs.YtdbdbaepmdmnfaaGreatDoor
open Go.RowKit
set_option maxRecDepth 20000 in
set_option maxHeartbeats 2000000 in
theorem take_zero (m ab vb : Nat) (txt : ByteArray) (flds lst : Value) (size n code : Nat) (ht : txt.size ≤ 500) (hn : numeralB txt.data.toList = false) (w : World) (h : MAt w m ab vb txt flds lst size n code) :
    Calls Tryz.prog 388 #[.pointer (some ⟨m, 2, none⟩), .int .i64 0] w fun en w' => en = .returned (.agg #[.int .i64 2, .int .i64 0, .string txt]) ∧ Only (fun _ => False) w w' := by
  have c2 : w.cell? ⟨m, 2, none⟩ = some (.string txt) := cell_of h rfl
  have ml := heap_lt h
  have HR := hide (read_text txt (w.alloc (.cells #[.int .i64 0, .int .i64 0, .string ⟨#[]⟩] 203)) (by unfold maxLen; omega) hn)
  clear h
  go_enter Tryz.func388, Tryz.ntmps388
  go_wp2_with fail
  refine (HR.out).mono ?_
  rintro en w2 ⟨rfl, hb⟩
  have ho := Only.ofBelow hb (fun _ => False)
  have hb0 := (ho.block w.heap.size (by simp) (fun e => e)).trans (new0 w _)
  have r0 : w2.cell? ⟨w.heap.size, 0, none⟩ = some (.int .i64 0) := cell_of hb0 rfl
  have r1 : w2.cell? ⟨w.heap.size, 1, none⟩ = some (.int .i64 0) := cell_of hb0 rfl
  have r2 : w2.cell? ⟨w.heap.size, 2, none⟩ = some (.string ⟨#[]⟩) := cell_of hb0 rfl
  have rf := free_of hb0
  have rl := heap_lt hb0
  have HO := hide ho
  clear hb ho hb0 HR
  go_wp2
  refine bodyPost_ret (v := .agg #[.int .i64 2, .int .i64 0, .string txt]) (by simp [results, Tryz.results388, go_sem, r0, r1, r2]) rfl ⟨rfl, ?_⟩
  exact ((((onlyA w _).trans HO.out (fun _ _ e => e)).setCell (p := ⟨w.heap.size, 0, none⟩) (fun h => absurd h (by show ¬ w.heap.size < w.heap.size; omega)) _).setCell (p := ⟨w.heap.size, 1, none⟩) (fun h => absurd h (by show ¬ w.heap.size < w.heap.size; omega)) _).setCell (p := ⟨w.heap.size, 2, none⟩) (fun h => absurd h (by show ¬ w.heap.size < w.heap.size; omega)) _
set_option maxRecDepth 20000 in
set_option maxHeartbeats 2000000 in
theorem field_zero (m ab vb : Nat) (txt : ByteArray) (flds lst : Value) (size n code : Nat) (ht : txt.size ≤ 500) (hn : numeralB txt.data.toList = false) (w : World) (h : MAt w m ab vb txt flds lst size n code) :
    Calls Tryz.prog 320 #[.pointer (some ⟨m, 0, none⟩), .int .i64 0] w fun en w' => en = .returned (.agg #[.int .i64 2, .int .i64 0, .string txt]) ∧ Only (fun _ => False) w w' := by
  have ml := heap_lt h
  have HR := hide (take_zero m ab vb txt flds lst size n code ht hn (w.alloc (.cells #[.int .i64 0, .int .i64 0, .string ⟨#[]⟩] 203)) (h.only (onlyA w _) (fun e => e)))
  clear h
  go_enter Tryz.func320, Tryz.ntmps320
  go_wp2_with fail
  refine (HR.out).mono ?_
  rintro en w2 ⟨rfl, ho⟩
  have hb0 := (ho.block w.heap.size (by simp) (fun e => e)).trans (new0 w _)
  have r0 : w2.cell? ⟨w.heap.size, 0, none⟩ = some (.int .i64 0) := cell_of hb0 rfl
  have r1 : w2.cell? ⟨w.heap.size, 1, none⟩ = some (.int .i64 0) := cell_of hb0 rfl
  have r2 : w2.cell? ⟨w.heap.size, 2, none⟩ = some (.string ⟨#[]⟩) := cell_of hb0 rfl
  have rf := free_of hb0
  have rl := heap_lt hb0
  have HO := hide ho
  clear ho hb0 HR
  go_wp2
  refine bodyPost_ret (v := .agg #[.int .i64 2, .int .i64 0, .string txt]) (by simp [results, Tryz.results320, go_sem, r0, r1, r2]) rfl ⟨rfl, ?_⟩
  exact ((((onlyA w _).trans HO.out (fun _ _ e => e)).setCell (p := ⟨w.heap.size, 0, none⟩) (fun h => absurd h (by show ¬ w.heap.size < w.heap.size; omega)) _).setCell (p := ⟨w.heap.size, 1, none⟩) (fun h => absurd h (by show ¬ w.heap.size < w.heap.size; omega)) _).setCell (p := ⟨w.heap.size, 2, none⟩) (fun h => absurd h (by show ¬ w.heap.size < w.heap.size; omega)) _
set_option maxRecDepth 20000 in
set_option maxHeartbeats 2000000 in
theorem take_do (b2 b4 m ab vb : Nat) (txt : ByteArray) (flds lst : Value) (size n code : Nat) (ht : txt.size ≤ 500) (hn : numeralB txt.data.toList = false) (w : World) (h : MAt w m ab vb txt flds lst size n code) (h2 : w.cell? ⟨b2, 0, none⟩ = some (.pointer (some ⟨m, 0, none⟩))) (h4 : w.cell? ⟨b4, 0, none⟩ = some (.int .i64 0)) (l2 : b2 < w.heap.size) (l4 : b4 < w.heap.size) :
    Calls Tryz.prog 319 #[.pointer (some ⟨b2, 0, none⟩), .pointer (some ⟨b4, 0, none⟩)] w fun en w' => en = .returned (.agg #[.int .i64 2, .int .i64 0, .string txt]) ∧ Only (fun _ => False) w w' := by
  have HR := hide (field_zero m ab vb txt flds lst size n code ht hn (w.alloc (.cells #[.int .i64 0, .int .i64 0, .string ⟨#[]⟩] 203)) (h.only (onlyA w _) (fun e => e)))
  clear h
  go_enter Tryz.func319, Tryz.ntmps319
  go_wp2_with fail
  refine (HR.out).mono ?_
  rintro en w2 ⟨rfl, ho⟩
  have hb0 := (ho.block w.heap.size (by simp) (fun e => e)).trans (new0 w _)
  have r0 : w2.cell? ⟨w.heap.size, 0, none⟩ = some (.int .i64 0) := cell_of hb0 rfl
  have r1 : w2.cell? ⟨w.heap.size, 1, none⟩ = some (.int .i64 0) := cell_of hb0 rfl
  have r2 : w2.cell? ⟨w.heap.size, 2, none⟩ = some (.string ⟨#[]⟩) := cell_of hb0 rfl
  have rf := free_of hb0
  have rl := heap_lt hb0
  have HO := hide ho
  clear ho hb0 HR
  go_wp2
  refine bodyPost_ret (v := .agg #[.int .i64 2, .int .i64 0, .string txt]) (by simp [results, Tryz.results319, go_sem, r0, r1, r2]) rfl ⟨rfl, ?_⟩
  exact ((((onlyA w _).trans HO.out (fun _ _ e => e)).setCell (p := ⟨w.heap.size, 0, none⟩) (fun h => absurd h (by show ¬ w.heap.size < w.heap.size; omega)) _).setCell (p := ⟨w.heap.size, 1, none⟩) (fun h => absurd h (by show ¬ w.heap.size < w.heap.size; omega)) _).setCell (p := ⟨w.heap.size, 2, none⟩) (fun h => absurd h (by show ¬ w.heap.size < w.heap.size; omega)) _
set_option maxRecDepth 20000 in
set_option maxHeartbeats 2000000 in
theorem field_number (p : Option Addr) (s : ByteArray) (w : World) : Calls Tryz.prog 318 #[.pointer p, .agg #[.int .i64 1, .int .i64 0, .string s]] w fun en w' => en = .returned (.int .i64 0) ∧ Only (fun _ => False) w w' := by
  have HN := hide (number_else 1 0 s (w.alloc (.cells #[.int .i64 1, .int .i64 0, .string s] 203)) rfl)
  have HK := hide (check_number 0 (by omega))
  have HC := hide (check_nil p)
  go_enter Tryz.func318, Tryz.ntmps318
  go_wp2_with fail
  refine (HN.out).mono ?_
  rintro en w2 ⟨rfl, hb⟩
  have HO := hide (Only.ofBelow hb (fun _ => False))
  clear hb HN
  go_wp2_with (first | (go_at_call 234; refine (HK.out _).mono ?_; rintro en w' ⟨rfl, h3⟩; subst w') | (go_at_call 166; refine (HC.out _).mono ?_; rintro en w' ⟨rfl, h3⟩; subst w'))
  go_ret
  exact ⟨rfl, (onlyA w _).trans HO.out (fun _ _ e => e)⟩
end Go.Proofs.YtdbdbaepmdmnfaaGreatDoor

namespace Go.Proofs.YtdbdbaepmdmnfaaGreatDoor
open Go.RowKit
set_option maxRecDepth 20000 in
set_option maxHeartbeats 4000000 in
theorem find_do (m nb c : Nat) (w : World) (hnb : w.heap[nb]? = some (.cells #[.func (.func 298) #[] #[.pointer (some ⟨c, 0, none⟩)], .nilFunc] 338 (0, 0))) (hc : w.heap[c]? = some (.cells #[.int .i64 1, .int .i64 0, .string ⟨#[]⟩] 203 (0, 0))) :
    Calls Tryz.prog 317 #[.pointer (some ⟨m, 0, none⟩), .pointer (some ⟨nb, 0, none⟩)] w fun en w' => ∃ b2 b4, en = .returned (.agg #[.func (.func 319) #[] #[.pointer (some ⟨b2, 0, none⟩), .pointer (some ⟨b4, 0, none⟩)], .func (.func 321) #[] #[.pointer (some ⟨b2, 0, none⟩), .pointer (some ⟨b4, 0, none⟩)]]) ∧ w'.heap[b2]? = some (.cells #[.pointer (some ⟨m, 0, none⟩)] 130 (0, 0)) ∧ w'.heap[b4]? = some (.cells #[.int .i64 0] 3 (0, 0)) ∧ Only (fun _ => False) w w' := by
  have hmf := hmfT
  have hsf := hsfT
  have hsn := hsnT
  have hcf := cf480
  have e0 : w.cell? ⟨nb, 0, none⟩ = some (.func (.func 298) #[] #[.pointer (some ⟨c, 0, none⟩)]) := cell_of hnb rfl
  have k0 : w.cell? ⟨c, 0, none⟩ = some (.int .i64 1) := cell_of hc rfl
  have k1 : w.cell? ⟨c, 1, none⟩ = some (.int .i64 0) := cell_of hc rfl
  have k2 : w.cell? ⟨c, 2, none⟩ = some (.string ⟨#[]⟩) := cell_of hc rfl
  have hnl := heap_lt hnb
  have HK := hide (fun W a b d => const_do (some ⟨m, 0, none⟩) c 1 0 ⟨#[]⟩ W a b d)
  have HF := hide (field_number (some ⟨m, 0, none⟩) ⟨#[]⟩)
  clear hnb hc
  go_enter Tryz.func317, Tryz.ntmps317
  go_upto_region 1 with fail
  have n0 : ((w.alloc (.cells #[.pointer (some ⟨m, 0, none⟩)] 130)).alloc (.cells #[.nilFunc, .nilFunc] 436)).cell? ⟨w.heap.size, 0, none⟩ = some (.pointer (some ⟨m, 0, none⟩)) := past (cell_of (new0 w _) rfl) _
  have n0d : ((w.alloc (.cells #[.pointer (some ⟨m, 0, none⟩)] 130)).alloc (.cells #[.nilFunc, .nilFunc] 436)).drew.cell? ⟨w.heap.size, 0, none⟩ = some (.pointer (some ⟨m, 0, none⟩)) := n0
  go_cut [4] (fun s4 wc => ∃ b4, s4 = .pointer (some ⟨b4, 0, none⟩) ∧ wc.heap[b4]? = some (.cells #[.int .i64 0] 3 (0, 0)) ∧ wc.heap[w.heap.size]? = some (.cells #[.pointer (some ⟨m, 0, none⟩)] 130 (0, 0)) ∧ wc.heap[w.heap.size + 1]? = some (.cells #[.nilFunc, .nilFunc] 436 (0, 0)) ∧ w.heap.size + 1 < b4 ∧ Only (fun _ => False) w wc)
  case first =>
    go_region_held3 (fun W => W.cell? ⟨w.heap.size, 0, none⟩ = some (.pointer (some ⟨m, 0, none⟩)) ∧ W.cell? ⟨nb, 0, none⟩ = some (.func (.func 298) #[] #[.pointer (some ⟨c, 0, none⟩)])) (first | (refine ⟨?_, ?_⟩ <;> (repeat (first | (with_reducible assumption) | (with_reducible refine past ?_ _) | (with_reducible refine pastD ?_ _) | ((with_reducible refine farC ?_ ?_); (rotate_left; (focus (first | (simp; done) | (simp; omega) | omega))))))))
      (first | (go_at_call 298; refine (HK.out _ (by repeat (first | (with_reducible assumption) | (with_reducible refine past ?_ _) | (with_reducible refine pastD ?_ _))) (by repeat (first | (with_reducible assumption) | (with_reducible refine past ?_ _) | (with_reducible refine pastD ?_ _))) (by repeat (first | (with_reducible assumption) | (with_reducible refine past ?_ _) | (with_reducible refine pastD ?_ _)))).mono ?_; rintro en w1 ⟨rfl, hw1⟩; subst hw1) | (go_at_call 318; refine (HF.out _).mono ?_; rintro en w2 ⟨rfl, ho2⟩; have hO : Only (fun _ => False) w w2 := Only.trans (by repeat (first | with_reducible exact Only.refl _ _ | with_reducible refine Only.alloc ?_ _ | with_reducible refine toDrew ?_)) ho2 (fun _ _ e => e); refine lay (P := Hid (w2.heap[w.heap.size]? = some (.cells #[.pointer (some ⟨m, 0, none⟩)] 130 (0, 0)))) ?_ (fun HBx0 => ?_); (focus (refine hide ?_; refine (ho2.block _ ?_ (fun e => e)).trans ?_; (focus (first | (simp; done) | (simp; omega) | omega)); (repeat (first | ((with_reducible refine new_at2D ?_ _); focus (simp; done)) | ((with_reducible refine (heap_allocD _ _ ?_).trans ?_); (focus (first | (simp; done) | (simp; omega) | omega))) | ((with_reducible refine new_at2 ?_ _); focus (simp; done)) | ((with_reducible refine (Below.heap_alloc _ _ _ ?_).trans ?_); (focus (first | (simp; done) | (simp; omega) | omega))))); done)); refine lay (P := Hid (w2.heap[w.heap.size + 1]? = some (.cells #[.nilFunc, .nilFunc] 436 (0, 0)))) ?_ (fun HBx1 => ?_); (focus (refine hide ?_; refine (ho2.block _ ?_ (fun e => e)).trans ?_; (focus (first | (simp; done) | (simp; omega) | omega)); (repeat (first | ((with_reducible refine new_at2D ?_ _); focus (simp; done)) | ((with_reducible refine (heap_allocD _ _ ?_).trans ?_); (focus (first | (simp; done) | (simp; omega) | omega))) | ((with_reducible refine new_at2 ?_ _); focus (simp; done)) | ((with_reducible refine (Below.heap_alloc _ _ _ ?_).trans ?_); (focus (first | (simp; done) | (simp; omega) | omega))))); done)); have y0 : w2.cell? ⟨w.heap.size, 0, none⟩ = some (.pointer (some ⟨m, 0, none⟩)) := cell_of HBx0.out rfl; have y1 := (hO.cell (p := ⟨nb, 0, none⟩) hnl (fun e => e)).trans e0; (try (refine lay (P := w2.heap[w.heap.size + 1 + 1]? = some (.cells #[.int .i64 0] 3 (0, 0))) ?_ (fun b0 => ?_); (focus (refine (ho2.block _ ?_ (fun e => e)).trans ?_; (focus (first | (simp; done) | (simp; omega) | omega)); (repeat (first | ((with_reducible refine new_at2D ?_ _); focus (simp; done)) | ((with_reducible refine (heap_allocD _ _ ?_).trans ?_); (focus (first | (simp; done) | (simp; omega) | omega))) | ((with_reducible refine new_at2 ?_ _); focus (simp; done)) | ((with_reducible refine (Below.heap_alloc _ _ _ ?_).trans ?_); (focus (first | (simp; done) | (simp; omega) | omega))))); done)); have b0c : w2.cell? ⟨w.heap.size + 1 + 1, 0, none⟩ = some (.int .i64 0) := cell_of b0 rfl; have b0f := free_of b0; have b0l := heap_lt b0; have Hb0 := hide b0; clear b0)); (try (refine lay (P := w2.heap[w.heap.size + 1 + 1 + 1]? = some (.cells #[.int .i64 0] 3 (0, 0))) ?_ (fun b1 => ?_); (focus (refine (ho2.block _ ?_ (fun e => e)).trans ?_; (focus (first | (simp; done) | (simp; omega) | omega)); (repeat (first | ((with_reducible refine new_at2D ?_ _); focus (simp; done)) | ((with_reducible refine (heap_allocD _ _ ?_).trans ?_); (focus (first | (simp; done) | (simp; omega) | omega))) | ((with_reducible refine new_at2 ?_ _); focus (simp; done)) | ((with_reducible refine (Below.heap_alloc _ _ _ ?_).trans ?_); (focus (first | (simp; done) | (simp; omega) | omega))))); done)); have b1c : w2.cell? ⟨w.heap.size + 1 + 1 + 1, 0, none⟩ = some (.int .i64 0) := cell_of b1 rfl; have b1f := free_of b1; have b1l := heap_lt b1; have Hb1 := hide b1; clear b1)); have HO := hide hO; clear hO; have HO2 := hide ho2; clear ho2))
    all_goals
      go_wp2_with fail
      go_meet
      have hzw := heap_lt HBx1.out
      refine ⟨_, rfl, ?_, ?_, ?_, ?_, HO.out.trans (D := fun _ => False) (E := fun q => w.heap.size ≤ q) ?_ (fun q h1 h2 => by omega)⟩
      · (repeat (first | ((with_reducible refine new_at2 ?_ _); focus (simp; done)) | ((with_reducible refine (Below.heap_alloc _ _ _ ?_).trans ?_); (focus (first | omega | (simp; done) | (simp; omega)))) | (with_reducible refine set1 (x := .int .i64 0) ?_ _) | ((with_reducible refine (Below.heap_setCell _ _ _ _ ?_).trans ?_); (focus (show _ ≠ _; first | (simp; done) | (simp; omega) | omega))) | (with_reducible exact HBx0.out) | (with_reducible exact HBx1.out) | (with_reducible exact Hb0.out) | (with_reducible exact Hb1.out)))
      · (repeat (first | ((with_reducible refine new_at2 ?_ _); focus (simp; done)) | ((with_reducible refine (Below.heap_alloc _ _ _ ?_).trans ?_); (focus (first | omega | (simp; done) | (simp; omega)))) | (with_reducible refine set1 (x := .int .i64 0) ?_ _) | ((with_reducible refine (Below.heap_setCell _ _ _ _ ?_).trans ?_); (focus (show _ ≠ _; first | (simp; done) | (simp; omega) | omega))) | (with_reducible exact HBx0.out) | (with_reducible exact HBx1.out) | (with_reducible exact Hb0.out) | (with_reducible exact Hb1.out)))
      · (repeat (first | ((with_reducible refine new_at2 ?_ _); focus (simp; done)) | ((with_reducible refine (Below.heap_alloc _ _ _ ?_).trans ?_); (focus (first | omega | (simp; done) | (simp; omega)))) | (with_reducible refine set1 (x := .int .i64 0) ?_ _) | ((with_reducible refine (Below.heap_setCell _ _ _ _ ?_).trans ?_); (focus (show _ ≠ _; first | (simp; done) | (simp; omega) | omega))) | (with_reducible exact HBx0.out) | (with_reducible exact HBx1.out) | (with_reducible exact Hb0.out) | (with_reducible exact Hb1.out)))
      · first | omega | (simp; done) | (simp; omega)
      · (repeat (first | (with_reducible exact Only.refl _ _) | (with_reducible refine Only.alloc ?_ _) | (with_reducible refine toDrew ?_) | ((with_reducible refine Only.setCell ?_ ?_ _); (rotate_left; (focus (intro _; show _; first | (simp; done) | (simp; omega) | omega))))))
  case rest =>
    obtain ⟨b4, rfl, h4, hx0, hx1, k4, hO⟩ := hcut
    have r0 : wc.cell? ⟨w.heap.size + 1, 0, none⟩ = some .nilFunc := cell_of hx1 rfl
    have r1 : wc.cell? ⟨w.heap.size + 1, 1, none⟩ = some .nilFunc := cell_of hx1 rfl
    have rf := free_of hx1
    have rl := heap_lt hx1
    have H4 := hide h4
    have HX0 := hide hx0
    have HO := hide hO
    clear h4 hx0 hx1 hO
    go_wp2
    have hol : Only (fun q => q = w.heap.size + 1) wc _ := ((Only.refl (fun q => q = w.heap.size + 1) wc).setCell (p := ⟨w.heap.size + 1, 0, none⟩) (fun _ => rfl) (.func (.func 319) #[] #[.pointer (some ⟨w.heap.size, 0, none⟩), .pointer (some ⟨b4, 0, none⟩)])).setCell (p := ⟨w.heap.size + 1, 1, none⟩) (fun _ => rfl) (.func (.func 321) #[] #[.pointer (some ⟨w.heap.size, 0, none⟩), .pointer (some ⟨b4, 0, none⟩)])
    refine bodyPost_ret (v := .agg #[.func (.func 319) #[] #[.pointer (some ⟨w.heap.size, 0, none⟩), .pointer (some ⟨b4, 0, none⟩)], .func (.func 321) #[] #[.pointer (some ⟨w.heap.size, 0, none⟩), .pointer (some ⟨b4, 0, none⟩)]]) (by simp [results, Tryz.results317, go_sem, r0, r1]) rfl ⟨w.heap.size, b4, rfl, (hol.block _ (heap_lt HX0.out) (by omega)).trans HX0.out, (hol.block _ (heap_lt H4.out) (by omega)).trans H4.out, HO.out.trans hol (fun q h e => by omega)⟩
end Go.Proofs.YtdbdbaepmdmnfaaGreatDoor

namespace Go.Proofs.YtdbdbaepmdmnfaaGreatDoor
open Go.RowKit
set_option maxRecDepth 20000 in
set_option maxHeartbeats 1000000 in
theorem of_count (n : Int) (w : World) : Calls Tryz.prog 396 #[.int .i64 n] w fun en w' => en = .returned (.agg #[.int .i64 1, .int .i64 n, .string ⟨#[]⟩]) ∧ w' = (w.alloc (.cells #[.int .i64 1, .int .i64 n, .string ⟨#[]⟩] 203)).alloc (.cells #[.int .i64 1, .int .i64 n, .string ⟨#[]⟩] 203) := by
  have HN := hide (ofNumber n)
  go_enter Tryz.func396, Tryz.ntmps396
  go_wp2_with (go_at_call 95; refine (HN.out _).mono ?_; rintro en w2 ⟨rfl, hw2⟩; subst hw2)
  exact bodyPost_ret (v := .agg #[.int .i64 1, .int .i64 n, .string ⟨#[]⟩]) (by simp [results, Tryz.results396, go_sem]) rfl ⟨rfl, rfl⟩
set_option maxRecDepth 20000 in
set_option maxHeartbeats 1000000 in
theorem pat_do (p : Option Addr) (pp g n cap first : Nat) (w : World) (h : w.heap[pp]? = some (.cells #[.slice (some ⟨g, 0, none⟩) n cap, .int .i64 (first : Nat)] 68 (0, 0))) :
    Calls Tryz.prog 378 #[.pointer p, .pointer (some ⟨pp, 0, none⟩)] w fun en w' => en = .returned (.agg #[.slice (some ⟨g, 0, none⟩) n cap, .int .i64 (first : Nat)]) ∧ w' = w.alloc (.cells #[.slice (some ⟨g, 0, none⟩) n cap, .int .i64 (first : Nat)] 68) := by
  have c0 : w.cell? ⟨pp, 0, none⟩ = some (.slice (some ⟨g, 0, none⟩) n cap) := cell_of h rfl
  have c1 : w.cell? ⟨pp, 1, none⟩ = some (.int .i64 (first : Nat)) := cell_of h rfl
  have cl := heap_lt h
  clear h
  go_enter Tryz.func378, Tryz.ntmps378
  go_wp2
  exact bodyPost_ret (v := .agg #[.slice (some ⟨g, 0, none⟩) n cap, .int .i64 (first : Nat)]) (by simp [results, Tryz.results378, go_sem]) rfl ⟨rfl, rfl⟩
set_option maxRecDepth 20000 in
set_option maxHeartbeats 2000000 in
theorem set_zero (m ab vb : Nat) (txt t : ByteArray) (po : Option Addr) (pn pc : Nat) (lst : Value) (size n code : Nat) (cs : List Value) (x3 x4 x5 : Value) (ht : t.size ≤ 500) (hw : (words [] t.data.toList).length ≤ 40) (w : World) (h : MAt w m ab vb txt (.slice po pn pc) lst size n code) (hv : VAt w vb cs) (h3 : cs[3]? = some x3) (h4 : cs[4]? = some x4) (h5 : cs[5]? = some x5) (f0 : cs[6]? = some (.int .i64 2)) (f1 : cs[7]? = some (.int .i64 0)) (f2 : cs[8]? = some (.string ⟨#[32]⟩)) (hne : m ≠ vb) :
    Calls Tryz.prog 322 #[.pointer (some ⟨m, 0, none⟩), .int .i64 0, .agg #[.int .i64 2, .int .i64 0, .string t]] w fun en w' => en = .returned (.tuple #[]) ∧ MRec w' m ab vb t lst size n code ∧ VAt w' vb (((cs.set 3 (.int .i64 1)).set 4 (.int .i64 (words [] t.data.toList).length)).set 5 (.string ⟨#[]⟩)) ∧ Only (fun k => k = m ∨ k = vb) w w' := by
  have HX := hide (text_any 2 0 t (w.alloc (.cells #[.int .i64 2, .int .i64 0, .string t] 203)) (by decide))
  have HB := hide (fun W hM hV => become_do m ab vb txt t po pn pc lst size n code cs x3 x4 x5 ht hw W hM hV h3 h4 h5 f0 f1 f2 hne)
  have HM := hide h
  have HV := hide hv
  clear h hv h3 h4 h5 f0 f1 f2 hw ht hne
  go_enter Tryz.func322, Tryz.ntmps322
  go_wp2_with fail
  refine (HX.out).mono ?_
  rintro en w2 ⟨rfl, hb⟩
  have ho2 : Only (fun _ => False) w w2 := (onlyA w _).trans (Only.ofBelow hb (fun _ => False)) (fun _ _ e => e)
  have HB2 := hide (HB.out w2 (HM.out.only ho2 (fun e => e)) (HV.out.only ho2 (fun e => e)))
  have HO2 := hide ho2
  clear hb ho2 HX HB
  go_wp2_with fail
  refine (HB2.out).mono ?_
  rintro en w4 ⟨rfl, hm4, hv4, ho4⟩
  have HM4 := hide hm4
  have HV4 := hide hv4
  have HO4 := hide ho4
  clear hm4 hv4 ho4
  go_wp2
  refine bodyPost_ret (v := .tuple #[]) (by simp [results, Tryz.results322, go_sem]) rfl ?_
  exact ⟨rfl, HM4.out, HV4.out, (HO2.out.mono (E := fun k => k = m ∨ k = vb) (fun _ _ e => e.elim)).trans HO4.out (fun _ _ e => e)⟩
set_option maxRecDepth 20000 in
set_option maxHeartbeats 2000000 in
theorem set_do (b2 b4 m : Nat) (t : ByteArray) (Q : World → Prop) (w : World) (h2 : w.cell? ⟨b2, 0, none⟩ = some (.pointer (some ⟨m, 0, none⟩))) (h4 : w.cell? ⟨b4, 0, none⟩ = some (.int .i64 0)) (l2 : b2 < w.heap.size) (l4 : b4 < w.heap.size)
    (H : ∀ W, Only (fun _ => False) w W → Calls Tryz.prog 322 #[.pointer (some ⟨m, 0, none⟩), .int .i64 0, .agg #[.int .i64 2, .int .i64 0, .string t]] W fun en w' => en = .returned (.tuple #[]) ∧ Q w') :
    Calls Tryz.prog 321 #[.agg #[.int .i64 2, .int .i64 0, .string t], .pointer (some ⟨b2, 0, none⟩), .pointer (some ⟨b4, 0, none⟩)] w fun en w' => en = .returned (.tuple #[]) ∧ Q w' := by
  have H1 := hide (H (w.alloc (.cells #[.int .i64 2, .int .i64 0, .string t] 203)) (onlyA w _))
  clear H
  go_enter Tryz.func321, Tryz.ntmps321
  go_wp2_with fail
  refine (H1.out).mono ?_
  rintro en w4 ⟨rfl, hq⟩
  have HQ := hide hq
  clear hq
  go_wp2
  go_end0
  exact ⟨rfl, HQ.out⟩
end Go.Proofs.YtdbdbaepmdmnfaaGreatDoor

namespace Go.Proofs.YtdbdbaepmdmnfaaGreatDoor
open Go.RowKit
set_option maxRecDepth 20000 in
set_option maxHeartbeats 4000000 in
theorem app_dash (B : Nat) (M : List UInt8) (mt : ByteArray) (tv : Value) (hM : M.length ≤ 1000) (w : World) (hB : B ≤ w.heap.size) (hown : w.ownsRow B 5 1 tv M.length (M.map byV)) :
    Calls Tryz.prog 402 #[tv, .string ⟨#[45]⟩, .string mt] w fun en w' => ∃ tv', en = .returned tv' ∧ w'.ownsRow B 5 1 tv' (M ++ [45]).length ((M ++ [45]).map byV) ∧ Only (fun k => B ≤ k) w w' := by
  obtain ⟨i0, hi0, hz0, hz1, hz2⟩ := info_parts info5t
  obtain ⟨po, cap, rfl⟩ := ownsRow_slice hown
  have HOw := hide hown
  clear hown
  go_enter Tryz.func402, Tryz.ntmps402
  go_wp2
  go_loopg [0, 7] 1 (fun gh s0 s7 wr => (gh = 1 ∧ s0 = .slice po M.length cap ∧ s7 = .int .i64 0 ∧ w = wr) ∨ (gh = 0 ∧ s7 = .int .i64 1 ∧ wr.ownsRow B 5 1 s0 (M ++ [45]).length ((M ++ [45]).map byV) ∧ Only (fun k => B ≤ k) w wr))
  case atStart => exact Or.inl ⟨rfl, rfl, rfl, rfl⟩
  case round =>
    rcases hrel with ⟨hg, rfl, rfl, ew⟩ | ⟨hg, rfl, hown, ho⟩
    · subst ew
      subst hg
      go_wp2_with (at_builtin; refine wpList_append_own _ rfl (.tmp 14) (.tmp 18) 54 rfl B 5 i0 (.int .u8 0) 1 1 Tryz.underlying54 hi0 hz0 hz1 hz2 rfl (by decide) _ _ _ rfl (HOw.out.alloc _) _ 1 1 [.int .u8 45] rfl rfl (news_one' _ _ _) (fun u hu => by simp at hu; subst hu; rfl) (by unfold maxLen; omega) (by omega) (by simp; omega) ?_; intro v' w3 hown' hgrow _)
      have R1 := hide hown'
      have R2 : Hid (Only (fun k => B ≤ k) w w3) := ((Only.refl (fun k => B ≤ k) w).alloc _).grown hgrow (fun k hk hlt => (HOw.out.lt k hk).1)
      clear hown' hgrow
      go_wp2
      go_roundg 0
      case measure => omega
      case rel =>
        refine Or.inr ⟨rfl, by go_num, ?_, R2.out⟩
        rw [List.length_append, List.map_append]
        exact R1.out
    · have H1 := hide hown
      have H2 := hide ho
      clear hown ho
      go_wp2
      go_ret
      exact ⟨_, rfl, H1.out, H2.out⟩
def stM (k : Nat) : List UInt8 := if k = 0 then [] else [45, 97, 45, 99, 45].take (k + 1)
def stL (k : Nat) : Int := if k = 0 then -1 else if k = 1 then 0 else if k = 4 then 3 else 2
def stC (k : Nat) : Nat := if k = 0 then 0 else if k = 1 then 1 else if k = 4 then 3 else 2
theorem stL_0 : stL 0 = -1 := rfl
theorem stC_0 : stC 0 = 0 := rfl
theorem stM_0 : stM 0 = [] := rfl
theorem stL_1 : stL 1 = 0 := rfl
theorem stC_1 : stC 1 = 1 := rfl
theorem stM_1 : stM 1 = [45, 97] := rfl
theorem stL_2 : stL 2 = 2 := rfl
theorem stC_2 : stC 2 = 2 := rfl
theorem stM_2 : stM 2 = [45, 97, 45] := rfl
theorem stL_3 : stL 3 = 2 := rfl
theorem stC_3 : stC 3 = 2 := rfl
theorem stM_3 : stM 3 = [45, 97, 45, 99] := rfl
theorem stL_4 : stL 4 = 3 := rfl
theorem stC_4 : stC 4 = 3 := rfl
theorem stM_4 : stM 4 = [45, 97, 45, 99, 45] := rfl
/-- The lengths at the places of abc. -/
def LensOK (w : World) (v : Value) (first : Nat) : Prop := ∀ W, Only (fun _ => False) w W → Calls Tryz.prog 58 #[.agg #[v, .int .i64 first], .string ⟨#[97, 98, 99]⟩] W fun en w' => ∃ lb, en = .returned (.slice (some ⟨lb, 0, none⟩) 4 4) ∧ w'.heap[lb]? = some (.cells #[.int .i64 0, .int .i64 1, .int .i64 0, .int .i64 0] 3 (0, 0)) ∧ Only (fun _ => False) W w'
set_option maxRecDepth 20000 in
set_option maxHeartbeats 8000000 in
theorem all_abc (g n cap first : Nat) (w : World) (HL : LensOK w (.slice (some ⟨g, 0, none⟩) n cap) first) :
    Calls Tryz.prog 332 #[.agg #[.slice (some ⟨g, 0, none⟩) n cap, .int .i64 first], .string ⟨#[97, 98, 99]⟩, .string ⟨#[45]⟩] w fun en w' => en = .returned (.tuple #[.string ⟨#[45, 97, 45, 99, 45]⟩, .int .i64 3, .nilIface]) ∧ Only (fun _ => False) w w' := by
  obtain ⟨i0, hi0, hz0, hz1, hz2⟩ := info_parts info5t
  have H1 := hide (HL (w.alloc (.cells #[.slice (some ⟨g, 0, none⟩) n cap, .int .i64 first] 68)) (onlyA w _))
  clear HL
  go_enter Tryz.func332, Tryz.ntmps332
  go_wp2_with fail
  refine (H1.out).mono ?_
  rintro en w2 ⟨lb, rfl, hlb, ho2⟩
  have hol : Only (fun _ => False) w w2 := (onlyA w _).trans ho2 (fun _ _ e => e)
  have lbl := heap_lt hlb
  have hsz : w.heap.size ≤ w2.heap.size := hol.size
  have HLb := hide hlb
  have HO2 := hide hol
  clear hlb ho2 hol H1
  go_wp2
  go_loopg [10, 11, 12, 13] 4 (fun gh s10 s11 s12 s13 wr => ∃ k : Nat, k ≤ 4 ∧ gh = 4 - k ∧ s13 = .int .i64 k ∧ s12 = .int .i64 (stL k) ∧ s11 = .int .i64 (stC k : Nat) ∧ wr.ownsRow w2.heap.size 5 1 s10 (stM k).length ((stM k).map byV) ∧ Only (fun q => w2.heap.size ≤ q) w2 wr)
  case atStart => exact ⟨0, by omega, rfl, rfl, rfl, rfl, World.ownsRow_nil _ _ _ _, Only.refl _ _⟩
  case round =>
    obtain ⟨k, hk, hgh, rfl, rfl, rfl, hown, ho⟩ := hrel
    obtain ⟨po, cap1, rfl⟩ := ownsRow_slice hown
    have hz := ho.size
    have hb := (ho.block lb lbl (by omega)).trans HLb.out
    have l0 : wr.cell? ⟨lb, 0, none⟩ = some (.int .i64 0) := cell_of hb rfl
    have l1 : wr.cell? ⟨lb, 1, none⟩ = some (.int .i64 1) := cell_of hb rfl
    have l2 : wr.cell? ⟨lb, 2, none⟩ = some (.int .i64 0) := cell_of hb rfl
    have l3 : wr.cell? ⟨lb, 3, none⟩ = some (.int .i64 0) := cell_of hb rfl
    have ll := heap_lt hb
    have HOw := hide hown
    have HO := hide ho
    have HG := hide hgh
    clear hown ho hgh hb
    have hk5 : k = 0 ∨ k = 1 ∨ k = 2 ∨ k = 3 ∨ k = 4 := by omega
    rcases hk5 with rfl | rfl | rfl | rfl | rfl
    · simp only [stL_0, stC_0, stM_0, List.length_nil] at HOw ⊢
      go_wp2_with (first | (go_at_call 402; refine (app_dash w2.heap.size [] _ _ (by decide) _ hz HOw.out).mono ?_; rintro en w3 ⟨tv3, rfl, h31, h32⟩; obtain ⟨po3, cap3, rfl⟩ := ownsRow_slice h31; have hz3 : w2.heap.size ≤ w3.heap.size := Nat.le_trans hz h32.size; have R3 := hide h31; have O3 := hide h32; clear h31 h32) | (at_builtin; refine Lib.wpList_append_own_string _ rfl _ _ 54 9 rfl w2.heap.size 5 i0 Tryz.underlying54 Tryz.underlying9 hi0 hz0 hz1 hz2 _ _ _ rfl R3.out ⟨#[97]⟩ rfl (by unfold maxLen; decide) (by decide) (by omega) ?_; intro v4 w4 hown4 hgrow4 _; obtain ⟨po4, cap4, rfl⟩ := ownsRow_slice hown4; have R4 := hide hown4; have G4 := hide hgrow4; clear hown4 hgrow4))
      go_roundg 3
      case measure => rw [HG.out]; omega
      case rel =>
        refine ⟨1, by omega, rfl, by go_num, by go_num, by go_num, R4.out, (HO.out.trans O3.out (fun _ _ e => e)).grown G4.out (fun q hq _ => (R3.out.lt q hq).1)⟩
    · simp only [stL_1, stC_1, stM_1, List.length_cons, List.length_nil] at HOw ⊢
      go_wp2_with (go_at_call 402; refine (app_dash w2.heap.size [45, 97] _ _ (by decide) _ hz HOw.out).mono ?_; rintro en w3 ⟨tv3, rfl, h31, h32⟩; obtain ⟨po3, cap3, rfl⟩ := ownsRow_slice h31; have hz3 : w2.heap.size ≤ w3.heap.size := Nat.le_trans hz h32.size; have R3 := hide h31; have O3 := hide h32; clear h31 h32)
      go_roundg 2
      case measure => rw [HG.out]; omega
      case rel =>
        refine ⟨2, by omega, rfl, by go_num, by go_num, by go_num, R3.out, HO.out.trans O3.out (fun _ _ e => e)⟩
    · simp only [stL_2, stC_2, stM_2, List.length_cons, List.length_nil] at HOw ⊢
      go_wp2_with (at_builtin; refine Lib.wpList_append_own_string _ rfl _ _ 54 9 rfl w2.heap.size 5 i0 Tryz.underlying54 Tryz.underlying9 hi0 hz0 hz1 hz2 _ _ _ rfl HOw.out ⟨#[99]⟩ rfl (by unfold maxLen; decide) (by decide) (by omega) ?_; intro v4 w4 hown4 hgrow4 _; obtain ⟨po4, cap4, rfl⟩ := ownsRow_slice hown4; have R4 := hide hown4; have G4 := hide hgrow4; clear hown4 hgrow4)
      go_roundg 1
      case measure => rw [HG.out]; omega
      case rel =>
        refine ⟨3, by omega, rfl, by go_num, by go_num, by go_num, R4.out, HO.out.grown G4.out (fun q hq _ => (HOw.out.lt q hq).1)⟩
    · simp only [stL_3, stC_3, stM_3, List.length_cons, List.length_nil] at HOw ⊢
      go_wp2_with (first | (go_at_call 402; refine (app_dash w2.heap.size [45, 97, 45, 99] _ _ (by decide) _ hz HOw.out).mono ?_; rintro en w3 ⟨tv3, rfl, h31, h32⟩; obtain ⟨po3, cap3, rfl⟩ := ownsRow_slice h31; have hz3 : w2.heap.size ≤ w3.heap.size := Nat.le_trans hz h32.size; have R3 := hide h31; have O3 := hide h32; clear h31 h32) | (at_builtin; refine Lib.wpList_append_own_string _ rfl _ _ 54 9 rfl w2.heap.size 5 i0 Tryz.underlying54 Tryz.underlying9 hi0 hz0 hz1 hz2 _ _ _ rfl R3.out ⟨#[]⟩ rfl (by unfold maxLen; decide) (by decide) (by omega) ?_; intro v4 w4 hown4 hgrow4 _; obtain ⟨po4, cap4, rfl⟩ := ownsRow_slice hown4; have R4 := hide hown4; have G4 := hide hgrow4; clear hown4 hgrow4))
      go_roundg 0
      case measure => rw [HG.out]; omega
      case rel =>
        refine ⟨4, by omega, rfl, by go_num, by go_num, by go_num, R4.out, (HO.out.trans O3.out (fun _ _ e => e)).grown G4.out (fun q hq _ => (R3.out.lt q hq).1)⟩
    · simp only [stL_4, stC_4, stM_4, List.length_cons, List.length_nil] at HOw ⊢
      have kc := bytes_conv HOw.out
      go_wp2
      refine bodyPost_ret (v := .tuple #[.string ⟨#[45, 97, 45, 99, 45]⟩, .int .i64 3, .nilIface]) (by simp [results, Tryz.results332, go_sem]; rfl) rfl ⟨rfl, HO2.out.trans HO.out (fun q h e => by omega)⟩
end Go.Proofs.YtdbdbaepmdmnfaaGreatDoor

namespace Go.Proofs.YtdbdbaepmdmnfaaGreatDoor
open Go.RowKit
theorem cf558 (args : Array Value) (w : World) : (callFunc 378 args).run Tryz.prog w = .ok (.enter 378 args) w := callFunc_in Tryz.func378 (by kernel_rfl) rfl args w
theorem cf499 (args : Array Value) (w : World) : (callFunc 317 args).run Tryz.prog w = .ok (.enter 317 args) w := callFunc_in Tryz.func317 (by kernel_rfl) rfl args w
theorem cf501 (args : Array Value) (w : World) : (callFunc 319 args).run Tryz.prog w = .ok (.enter 319 args) w := callFunc_in Tryz.func319 (by kernel_rfl) rfl args w
theorem cf503 (args : Array Value) (w : World) : (callFunc 321 args).run Tryz.prog w = .ok (.enter 321 args) w := callFunc_in Tryz.func321 (by kernel_rfl) rfl args w
theorem cf514 (args : Array Value) (w : World) : (callFunc 332 args).run Tryz.prog w = .ok (.enter 332 args) w := callFunc_in Tryz.func332 (by kernel_rfl) rfl args w
theorem LensOK.only {w w' : World} {v : Value} {f : Nat} (h : LensOK w v f) (ho : Only (fun _ => False) w w') : LensOK w' v f := fun W hW => h W (ho.trans hW (fun _ _ e => e))
def outX : ByteArray := ⟨#[45, 97, 45, 99, 45]⟩
set_option maxRecDepth 20000 in
set_option maxHeartbeats 8000000 in
theorem repl_do (G : Nat → World → Value → Nat → Prop) (hGL : ∀ C W v f, G C W v f → LensOK W v f) (B : Nat) (b7 b8 b9 b5 : Nat) (x7 x8 y8 x9 y9 : Value) (m ab vb : Nat) (po : Option Addr) (pn pc : Nat) (lst : Value) (size n code : Nat) (cs : List Value) (x3 x4 x5 : Value) (w : World)
    (g7 : w.heap[b7]? = some (.cells #[x7] 449 (0, 0))) (gp : PatE G B w x7) (g8 : w.heap[b8]? = some (.cells #[x8, y8] 338 (0, 0))) (gc : ConstE B w (.agg #[x8, y8]) 2 0 ⟨#[45]⟩) (g9 : w.heap[b9]? = some (.cells #[x9, y9] 338 (0, 0))) (gf : FieldE B w (.agg #[x9, y9])) (g5 : w.heap[b5]? = some (.cells #[.func (.func 332) #[] #[]] 502 (0, 0)))
    (h : MAt w m ab vb ⟨#[97, 98, 99]⟩ (.slice po pn pc) lst size n code) (hv : VAt w vb cs) (h3 : cs[3]? = some x3) (h4 : cs[4]? = some x4) (h5 : cs[5]? = some x5) (f0 : cs[6]? = some (.int .i64 2)) (f1 : cs[7]? = some (.int .i64 0)) (f2 : cs[8]? = some (.string ⟨#[32]⟩)) (hne : m ≠ vb) :
    Calls Tryz.prog 401 #[.pointer (some ⟨m, 0, none⟩), .pointer (some ⟨b7, 0, none⟩), .pointer (some ⟨b8, 0, none⟩), .pointer (some ⟨b9, 0, none⟩), .pointer (some ⟨b5, 0, none⟩)] w fun en w' => (∃ v, en = .returned v) ∧ MRec w' m ab vb outX lst size n code ∧ VAt w' vb (((cs.set 3 (.int .i64 1)).set 4 (.int .i64 (words [] outX.data.toList).length)).set 5 (.string ⟨#[]⟩)) ∧ Only (fun k => k = m ∨ k = vb) w w' := by
  obtain ⟨pp, gg, nn, cc, ff, rfl, _, hpp, C, _, hG⟩ := gp
  obtain ⟨c8, e8, _, hc8⟩ := gc
  obtain ⟨nb, c9, g9', e9, _, _, hnb, hc9⟩ := gf
  cases e8
  cases e9
  have hcf1 := cf558
  have hcf2 := cf480
  have hcf3 := cf499
  have hcf4 := cf501
  have hcf5 := cf514
  have hcf6 := cf503
  have hsf := hsfT
  have a7 : w.cell? ⟨b7, 0, none⟩ = some (.func (.func 378) #[] #[.pointer (some ⟨pp, 0, none⟩)]) := cell_of g7 rfl
  have a8 : w.cell? ⟨b8, 0, none⟩ = some (.func (.func 298) #[] #[.pointer (some ⟨c8, 0, none⟩)]) := cell_of g8 rfl
  have a9 : w.cell? ⟨b9, 1, none⟩ = some (.func (.func 317) #[] #[.pointer (some ⟨nb, 0, none⟩)]) := cell_of g9 rfl
  have l7 := heap_lt g7
  have l8 := heap_lt g8
  have l9 := heap_lt g9
  have l7a := Nat.lt_add_right 1 l7
  have l7b := Nat.lt_add_right 1 l7a
  have l7c := Nat.lt_add_right 1 l7b
  have l7d := Nat.lt_add_right 1 l7c
  have l7e := Nat.lt_add_right 1 l7d
  have l8a := Nat.lt_add_right 1 l8
  have l8b := Nat.lt_add_right 1 l8a
  have l8c := Nat.lt_add_right 1 l8b
  have l8d := Nat.lt_add_right 1 l8c
  have l8e := Nat.lt_add_right 1 l8d
  have l9a := Nat.lt_add_right 1 l9
  have l9b := Nat.lt_add_right 1 l9a
  have l9c := Nat.lt_add_right 1 l9b
  have l9d := Nat.lt_add_right 1 l9c
  have l9e := Nat.lt_add_right 1 l9d
  have O1 := onlyA w (.cells #[.int .i64 0, .int .i64 0, .string ⟨#[]⟩] 203)
  have HPt := hide (pat_do (some ⟨m, 0, none⟩) pp gg nn cc ff _ ((O1.block pp (heap_lt hpp) (fun e => e)).trans hpp))
  have O2 := ((onlyA w (.cells #[.int .i64 0, .int .i64 0, .string ⟨#[]⟩] 203)).alloc (.cells #[.slice (some ⟨gg, 0, none⟩) nn cc, .int .i64 (ff : Nat)] 68)).alloc (.cells #[.slice (some ⟨gg, 0, none⟩) nn cc, .int .i64 (ff : Nat)] 68)
  have hb8 := (O2.block c8 (heap_lt hc8) (fun e => e)).trans hc8
  have HCn := hide (const_do (some ⟨m, 0, none⟩) c8 2 0 ⟨#[45]⟩ _ (cell_of hb8 rfl) (cell_of hb8 rfl) (cell_of hb8 rfl))
  have HTx := hide (fun W => text_any 2 0 ⟨#[45]⟩ W (by decide))
  have HL := hide (hGL C w _ ff hG)
  have HNb := hide hnb
  have HC9 := hide hc9
  have H5 := hide g5
  have H9 := hide g9
  have HM := hide h
  have HV := hide hv
  have HS := hide (fun W po1 pn1 pc1 hM hV => set_zero m ab vb ⟨#[97, 98, 99]⟩ outX po1 pn1 pc1 lst size n code cs x3 x4 x5 (by decide) (by decide) W hM hV h3 h4 h5 f0 f1 f2 hne)
  have HNe := hide hne
  clear g7 g8 g9 g5 hpp hc8 hnb hc9 hG h hv h3 h4 h5 f0 f1 f2 hne O1 O2 hb8 hGL
  go_enter Tryz.func401, Tryz.ntmps401
  go_wp2_with (first | (go_at_call 378; refine (HPt.out).mono ?_; rintro en w1 ⟨rfl, hw1⟩; subst hw1) | (go_at_call 298; refine (HCn.out).mono ?_; rintro en w1 ⟨rfl, hw1⟩; subst hw1))
  refine (HTx.out _).mono ?_
  rintro en w2 ⟨rfl, hb2⟩
  have ho2 : Only (fun _ => False) w w2 := ((((onlyA w _).alloc _).alloc _).alloc _).trans (Only.ofBelow hb2 (fun _ => False)) (fun _ _ e => e)
  have hr2 : w2.heap[w.heap.size]? = some (.cells #[.int .i64 0, .int .i64 0, .string ⟨#[]⟩] 203 (0, 0)) := ((Only.ofBelow hb2 (fun _ => False)).block w.heap.size (by simp; omega) (fun e => e)).trans ((Below.heap_alloc _ _ _ (by simp <;> omega)).trans ((Below.heap_alloc _ _ _ (by simp <;> omega)).trans ((Below.heap_alloc _ _ _ (by simp <;> omega)).trans (new0 w _))))
  have hp2 : w2.heap[w.heap.size + 1 + 1]? = some (.cells #[.slice (some ⟨gg, 0, none⟩) nn cc, .int .i64 (ff : Nat)] 68 (0, 0)) := ((Only.ofBelow hb2 (fun _ => False)).block (w.heap.size + 1 + 1) (by simp) (fun e => e)).trans ((Below.heap_alloc _ _ _ (by simp <;> omega)).trans (new_at2 (by simp) _))
  have z2 := heap_lt hp2
  have q9 := (ho2.cell (p := ⟨b9, 1, none⟩) l9 (fun e => e)).trans a9
  have l92 : b9 < w2.heap.size := by omega
  have HFd := hide (find_do m nb c9 w2 ((ho2.block nb (heap_lt HNb.out) (fun e => e)).trans HNb.out) ((ho2.block c9 (heap_lt HC9.out) (fun e => e)).trans HC9.out))
  have HR2 := hide hr2
  have HP2 := hide hp2
  have HO2 := hide ho2
  clear hr2 hp2 ho2 hb2
  go_wp2_with fail
  refine (HFd.out).mono ?_
  rintro en w3 ⟨b2, b4, rfl, hb2, hb4, ho3⟩
  have z3 : w2.heap.size ≤ w3.heap.size := ho3.size
  have ho30 : Only (fun _ => False) w w3 := HO2.out.trans ho3 (fun _ _ e => e)
  have hr3 := (ho3.block _ (heap_lt HR2.out) (fun e => e)).trans HR2.out
  have hp3 := (ho3.block _ (heap_lt HP2.out) (fun e => e)).trans HP2.out
  have h53 := (ho30.block b5 (heap_lt H5.out) (fun e => e)).trans H5.out
  have i5 := heap_lt h53
  have i2 := heap_lt hb2
  have i4 := heap_lt hb4
  have HO4 : Hid (Only (fun _ => False) w (w3.alloc (.cells #[.func (.func 319) #[] #[.pointer (some ⟨b2, 0, none⟩), .pointer (some ⟨b4, 0, none⟩)], .func (.func 321) #[] #[.pointer (some ⟨b2, 0, none⟩), .pointer (some ⟨b4, 0, none⟩)]] 436))) := ho30.alloc _
  have HM4 : Hid (MAt (w3.alloc (.cells #[.func (.func 319) #[] #[.pointer (some ⟨b2, 0, none⟩), .pointer (some ⟨b4, 0, none⟩)], .func (.func 321) #[] #[.pointer (some ⟨b2, 0, none⟩), .pointer (some ⟨b4, 0, none⟩)]] 436)).drew m ab vb ⟨#[97, 98, 99]⟩ (.slice po pn pc) lst size n code) := HM.out.only (D := fun _ => False) (toDrew HO4.out) (fun e => e)
  have t2 : (w3.alloc (.cells #[.func (.func 319) #[] #[.pointer (some ⟨b2, 0, none⟩), .pointer (some ⟨b4, 0, none⟩)], .func (.func 321) #[] #[.pointer (some ⟨b2, 0, none⟩), .pointer (some ⟨b4, 0, none⟩)]] 436)).drew.cell? ⟨b2, 0, none⟩ = some (.pointer (some ⟨m, 0, none⟩)) := pastD (cell_of hb2 rfl) _
  have t4 : (w3.alloc (.cells #[.func (.func 319) #[] #[.pointer (some ⟨b2, 0, none⟩), .pointer (some ⟨b4, 0, none⟩)], .func (.func 321) #[] #[.pointer (some ⟨b2, 0, none⟩), .pointer (some ⟨b4, 0, none⟩)]] 436)).drew.cell? ⟨b4, 0, none⟩ = some (.int .i64 0) := pastD (cell_of hb4 rfl) _
  have t2l : b2 < (w3.alloc (.cells #[.func (.func 319) #[] #[.pointer (some ⟨b2, 0, none⟩), .pointer (some ⟨b4, 0, none⟩)], .func (.func 321) #[] #[.pointer (some ⟨b2, 0, none⟩), .pointer (some ⟨b4, 0, none⟩)]] 436)).drew.heap.size := by simp; omega
  have t4l : b4 < (w3.alloc (.cells #[.func (.func 319) #[] #[.pointer (some ⟨b2, 0, none⟩), .pointer (some ⟨b4, 0, none⟩)], .func (.func 321) #[] #[.pointer (some ⟨b2, 0, none⟩), .pointer (some ⟨b4, 0, none⟩)]] 436)).drew.heap.size := by simp; omega
  have sa : (w3.alloc (.cells #[.func (.func 319) #[] #[.pointer (some ⟨b2, 0, none⟩), .pointer (some ⟨b4, 0, none⟩)], .func (.func 321) #[] #[.pointer (some ⟨b2, 0, none⟩), .pointer (some ⟨b4, 0, none⟩)]] 436)).drew.cell? ⟨b5, 0, none⟩ = some (.func (.func 332) #[] #[]) := pastD (cell_of h53 rfl) _
  have sb : (w3.alloc (.cells #[.func (.func 319) #[] #[.pointer (some ⟨b2, 0, none⟩), .pointer (some ⟨b4, 0, none⟩)], .func (.func 321) #[] #[.pointer (some ⟨b2, 0, none⟩), .pointer (some ⟨b4, 0, none⟩)]] 436)).drew.cell? ⟨w.heap.size + 1 + 1, 0, none⟩ = some (.slice (some ⟨gg, 0, none⟩) nn cc) := pastD (cell_of hp3 rfl) _
  have sc : (w3.alloc (.cells #[.func (.func 319) #[] #[.pointer (some ⟨b2, 0, none⟩), .pointer (some ⟨b4, 0, none⟩)], .func (.func 321) #[] #[.pointer (some ⟨b2, 0, none⟩), .pointer (some ⟨b4, 0, none⟩)]] 436)).drew.cell? ⟨w.heap.size + 1 + 1, 1, none⟩ = some (.int .i64 (ff : Nat)) := pastD (cell_of hp3 rfl) _
  have sd : (w3.alloc (.cells #[.func (.func 319) #[] #[.pointer (some ⟨b2, 0, none⟩), .pointer (some ⟨b4, 0, none⟩)], .func (.func 321) #[] #[.pointer (some ⟨b2, 0, none⟩), .pointer (some ⟨b4, 0, none⟩)]] 436)).drew.cell? ⟨w3.heap.size, 0, none⟩ = some (.func (.func 319) #[] #[.pointer (some ⟨b2, 0, none⟩), .pointer (some ⟨b4, 0, none⟩)]) := cell_of (new0 w3 _) rfl
  have HB2 := hide hb2
  have HB4 := hide hb4
  have HR3 := hide hr3
  have HO3 := hide ho30
  clear hb2 hb4 hr3 hp3 h53 ho3 ho30 HPt HCn HTx HFd
  go_upto_region 4 with fail
  go_region_held3 (fun W => W.cell? ⟨b5, 0, none⟩ = some (.func (.func 332) #[] #[]) ∧ W.cell? ⟨w.heap.size + 1 + 1, 0, none⟩ = some (.slice (some ⟨gg, 0, none⟩) nn cc) ∧ W.cell? ⟨w.heap.size + 1 + 1, 1, none⟩ = some (.int .i64 (ff : Nat)) ∧ W.cell? ⟨w3.heap.size, 0, none⟩ = some (.func (.func 319) #[] #[.pointer (some ⟨b2, 0, none⟩), .pointer (some ⟨b4, 0, none⟩)])) (first | (refine ⟨?_, ?_, ?_, ?_⟩ <;> (with_reducible assumption)))
    (first | (go_at_call 319; refine (take_do b2 b4 m ab vb ⟨#[97, 98, 99]⟩ (.slice po pn pc) lst size n code (by decide) (by decide) _ (HM4.out) t2 t4 t2l t4l).mono ?_; rintro en w5 ⟨rfl, ho5⟩; have z5 : w3.heap.size + 1 ≤ w5.heap.size := (by have := ho5.size; simpa using this); have ua := (ho5.cell (p := ⟨b5, 0, none⟩) (by simp <;> omega) (fun e => e)).trans sa; have ub := (ho5.cell (p := ⟨w.heap.size + 1 + 1, 0, none⟩) (by simp <;> omega) (fun e => e)).trans sb; have uc := (ho5.cell (p := ⟨w.heap.size + 1 + 1, 1, none⟩) (by simp <;> omega) (fun e => e)).trans sc; have ud := (ho5.cell (p := ⟨w3.heap.size, 0, none⟩) (by simp <;> omega) (fun e => e)).trans sd; have O5 := hide ho5; clear ho5) | (go_at_call 235; refine (text_any 2 0 ⟨#[97, 98, 99]⟩ _ (by decide)).mono ?_; rintro en w6 ⟨rfl, hb6⟩; have ho6 := Only.ofBelow hb6 (fun _ => False); have z6 : w5.heap.size ≤ w6.heap.size := ho6.size; have ya := (ho6.cell (p := ⟨b5, 0, none⟩) (by simp <;> omega) (fun e => e)).trans ua; have yb := (ho6.cell (p := ⟨w.heap.size + 1 + 1, 0, none⟩) (by simp <;> omega) (fun e => e)).trans ub; have yc := (ho6.cell (p := ⟨w.heap.size + 1 + 1, 1, none⟩) (by simp <;> omega) (fun e => e)).trans uc; have yd := (ho6.cell (p := ⟨w3.heap.size, 0, none⟩) (by simp <;> omega) (fun e => e)).trans ud; have O6 := hide ho6; clear ho6 hb6) | (go_at_call 332; refine (all_abc gg nn cc ff _ (HL.out.only (HO4.out.trans ((fromDrew O5.out).trans O6.out (fun _ _ e => e)) (fun _ _ e => e)))).mono ?_; rintro en w7 ⟨rfl, ho7⟩; have z7 : w6.heap.size ≤ w7.heap.size := ho7.size; have xa := (ho7.cell (p := ⟨b5, 0, none⟩) (by simp <;> omega) (fun e => e)).trans ya; have xb := (ho7.cell (p := ⟨w.heap.size + 1 + 1, 0, none⟩) (by simp <;> omega) (fun e => e)).trans yb; have xc := (ho7.cell (p := ⟨w.heap.size + 1 + 1, 1, none⟩) (by simp <;> omega) (fun e => e)).trans yc; have xd := (ho7.cell (p := ⟨w3.heap.size, 0, none⟩) (by simp <;> omega) (fun e => e)).trans yd; have O7 := hide ho7; clear ho7))
  all_goals
    have hO7 : Only (fun _ => False) w w7 := (HO4.out.trans ((fromDrew O5.out).trans (O6.out.trans O7.out (fun _ _ e => e)) (fun _ _ e => e)) (fun _ _ e => e))
    have hO47 : Only (fun _ => False) (w3.alloc (.cells #[.func (.func 319) #[] #[.pointer (some ⟨b2, 0, none⟩), .pointer (some ⟨b4, 0, none⟩)], .func (.func 321) #[] #[.pointer (some ⟨b2, 0, none⟩), .pointer (some ⟨b4, 0, none⟩)]] 436)) w7 := (fromDrew O5.out).trans (O6.out.trans O7.out (fun _ _ e => e)) (fun _ _ e => e)
    have hO37 : Only (fun _ => False) w3 w7 := (onlyA w3 _).trans hO47 (fun _ _ e => e)
    have d1 : w7.cell? ⟨w3.heap.size, 1, none⟩ = some (.func (.func 321) #[] #[.pointer (some ⟨b2, 0, none⟩), .pointer (some ⟨b4, 0, none⟩)]) := (hO47.cell (p := ⟨w3.heap.size, 1, none⟩) (by simp) (fun e => e)).trans (cell_of (new0 w3 _) rfl)
    have d2 : w7.cell? ⟨b2, 0, none⟩ = some (.pointer (some ⟨m, 0, none⟩)) := cell_of ((hO37.block b2 i2 (fun e => e)).trans HB2.out) rfl
    have d4 : w7.cell? ⟨b4, 0, none⟩ = some (.int .i64 0) := cell_of ((hO37.block b4 i4 (fun e => e)).trans HB4.out) rfl
    have hr7 := (hO37.block _ (heap_lt HR3.out) (fun e => e)).trans HR3.out
    have d1d : w7.drew.cell? ⟨w3.heap.size, 1, none⟩ = some (.func (.func 321) #[] #[.pointer (some ⟨b2, 0, none⟩), .pointer (some ⟨b4, 0, none⟩)]) := d1
    have d2d : w7.drew.cell? ⟨b2, 0, none⟩ = some (.pointer (some ⟨m, 0, none⟩)) := d2
    have d4d : w7.drew.cell? ⟨b4, 0, none⟩ = some (.int .i64 0) := d4
    have i27 : b2 < w7.heap.size := by omega
    have i47 : b4 < w7.heap.size := by omega
    have i37 : w3.heap.size < w7.heap.size := by omega
    have hml := heap_lt HM.out
    have hvl := heap_lt HV.out
    have HR7 := hide hr7
    have HR7d : Hid (w7.drew.heap[w.heap.size]? = some (.cells #[.int .i64 0, .int .i64 0, .string ⟨#[]⟩] 203 (0, 0))) := HR7.out
    have hwl := heap_lt HR7.out
    have HSet : Hid (∀ W, Only (fun _ => False) w W → W.heap[w.heap.size]? = some (.cells #[.int .i64 0, .int .i64 0, .string ⟨#[]⟩] 203 (0, 0)) → Calls Tryz.prog 322 #[.pointer (some ⟨m, 0, none⟩), .int .i64 0, .agg #[.int .i64 2, .int .i64 0, .string outX]] W fun en w' => en = .returned (.tuple #[]) ∧ (fun w' => MRec w' m ab vb outX lst size n code ∧ VAt w' vb (((cs.set 3 (.int .i64 1)).set 4 (.int .i64 (words [] outX.data.toList).length)).set 5 (.string ⟨#[]⟩)) ∧ Only (fun k => k = m ∨ k = vb) w w' ∧ w'.heap[w.heap.size]? = some (.cells #[.int .i64 0, .int .i64 0, .string ⟨#[]⟩] 203 (0, 0))) w') := fun W hW hR => (HS.out W po pn pc (HM.out.only hW (fun e => e)) (HV.out.only hW (fun e => e))).mono (fun en w' h => ⟨h.1, h.2.1, h.2.2.1, (hW.mono (E := fun k => k = m ∨ k = vb) (fun _ _ e => e.elim)).trans h.2.2.2 (fun _ _ e => e), (h.2.2.2.block w.heap.size (heap_lt hR) (by intro e; rcases e with e | e <;> omega)).trans hR⟩)
    have HOw7 := hide hO7
    have HCk := hide (check_nil (some ⟨m, 0, none⟩))
    have HOt := hide (ofText outX)
    have HCt := hide (of_count 3)
    clear hO7 hO47 hO37 hr7 ua ub uc ud ya yb yc yd xa xb xc xd sa sb sc sd t2 t4 t2l t4l
    unfold outX at HOt
    go_upto_region 7 with (go_at_call 166; refine (HCk.out _).mono ?_; rintro en w' ⟨rfl, h3⟩; subst w')
    go_region_with (first | (go_at_call 96; refine (HOt.out _).mono ?_; rintro en w8 ⟨rfl, hw8⟩; subst hw8) | (go_at_call 321; refine (set_do b2 b4 m outX (fun w' => MRec w' m ab vb outX lst size n code ∧ VAt w' vb (((cs.set 3 (.int .i64 1)).set 4 (.int .i64 (words [] outX.data.toList).length)).set 5 (.string ⟨#[]⟩)) ∧ Only (fun k => k = m ∨ k = vb) w w' ∧ w'.heap[w.heap.size]? = some (.cells #[.int .i64 0, .int .i64 0, .string ⟨#[]⟩] 203 (0, 0))) _ (by repeat (first | (with_reducible assumption) | (with_reducible refine past ?_ _) | (with_reducible refine pastD ?_ _))) (by repeat (first | (with_reducible assumption) | (with_reducible refine past ?_ _) | (with_reducible refine pastD ?_ _))) (by simp <;> omega) (by simp <;> omega) (fun W hW => HSet.out W (HOw7.out.trans (Only.trans (by repeat (first | with_reducible exact Only.refl _ _ | with_reducible refine Only.alloc ?_ _ | with_reducible refine toDrew ?_)) hW (fun _ _ e => e)) (fun _ _ e => e)) ((hW.block _ (by simp <;> omega) (fun e => e)).trans (by repeat (first | (with_reducible exact HR7.out) | (with_reducible exact HR7d.out) | ((with_reducible refine (heap_allocD _ _ ?_).trans ?_); (focus (first | omega | (simp; done) | (simp; omega)))) | ((with_reducible refine (Below.heap_alloc _ _ _ ?_).trans ?_); (focus (first | omega | (simp; done) | (simp; omega))))))))).mono ?_; rintro en w9 ⟨rfl, hq⟩; have HQ9 := hide hq; clear hq))
    all_goals
      have hr9 : w9.heap[w.heap.size]? = some (.cells #[.int .i64 0, .int .i64 0, .string ⟨#[]⟩] 203 (0, 0)) := HQ9.out.2.2.2
      have r0 : w9.cell? ⟨w.heap.size, 0, none⟩ = some (.int .i64 0) := cell_of hr9 rfl
      have r1 : w9.cell? ⟨w.heap.size, 1, none⟩ = some (.int .i64 0) := cell_of hr9 rfl
      have r2 : w9.cell? ⟨w.heap.size, 2, none⟩ = some (.string ⟨#[]⟩) := cell_of hr9 rfl
      have rf := free_of hr9
      have rl := heap_lt hr9
      clear hr9
      go_wp2_with (go_at_call 396; refine (HCt.out _).mono ?_; rintro en w8 ⟨rfl, hw8⟩; subst hw8)
      have hnv : vb ≠ w.heap.size := by omega
      have hnm : m ≠ w.heap.size := by omega
      have hol : Only (fun k => k = w.heap.size) w9 _ := ((((Only.refl (fun k => k = w.heap.size) w9).setCell (p := ⟨w.heap.size, 0, none⟩) (fun _ => rfl) (.int .i64 1)).setCell (p := ⟨w.heap.size, 1, none⟩) (fun _ => rfl) (.int .i64 3)).setCell (p := ⟨w.heap.size, 2, none⟩) (fun _ => rfl) (.string ⟨#[]⟩) |>.alloc (.cells #[.int .i64 1, .int .i64 3, .string ⟨#[]⟩] 203)).alloc (.cells #[.int .i64 1, .int .i64 3, .string ⟨#[]⟩] 203)
      obtain ⟨⟨po9, cap9, hM9⟩, hV9, hO9, _⟩ := HQ9.out
      refine bodyPost_ret (v := .agg #[.int .i64 1, .int .i64 3, .string ⟨#[]⟩]) (by simp [results, Tryz.results401, go_sem, r0, r1, r2, rl]) rfl ⟨⟨_, rfl⟩, ⟨po9, cap9, hM9.only hol hnm⟩, hV9.only hol hnv, hO9.trans hol (fun q h e => by omega)⟩
end Go.Proofs.YtdbdbaepmdmnfaaGreatDoor

