import Derived.Test.YthkknpjoifoanaaGreatDoorQ29
namespace Go.Proofs.YthkknpjoifoanaaGreatDoor
open Go.RowKit
set_option maxRecDepth 20000 in
set_option maxHeartbeats 2000000 in
theorem take_zero (m ab vb : Nat) (txt : ByteArray) (flds lst : Value) (size n code : Nat) (ht : txt.size ≤ 500) (hn : numeralB txt.data.toList = false) (w : World) (h : MAt w m ab vb txt flds lst size n code) :
    Calls Tryz.prog 372 #[.pointer (some ⟨m, 2, none⟩), .int .i64 0] w fun en w' => en = .returned (.agg #[.int .i64 2, .int .i64 0, .string txt]) ∧ Only (fun _ => False) w w' := by
  have c2 : w.cell? ⟨m, 2, none⟩ = some (.string txt) := cell_of h rfl
  have ml := heap_lt h
  have HR := hide (read_text txt (w.alloc (.cells #[.int .i64 0, .int .i64 0, .string ⟨#[]⟩] 186)) (by unfold maxLen; omega) hn)
  clear h
  go_enter Tryz.func372, Tryz.ntmps372
  go_wp2_with fail
  refine (HR.out).mono ?_
  rintro en w2 ⟨rfl, hb⟩
  have ho := Only.ofBelow hb (fun _ => False)
  have hb0 := (ho.block w.heap.size (by simp) (fun e => e)).trans (new0 w _)
  have r0 : w2.cell? ⟨w.heap.size, 0, none⟩ = some (.int .i64 0) := cell_of hb0 rfl
  have r1 : w2.cell? ⟨w.heap.size, 1, none⟩ = some (.int .i64 0) := cell_of hb0 rfl
  have r2 : w2.cell? ⟨w.heap.size, 2, none⟩ = some (.string ⟨#[]⟩) := cell_of hb0 rfl
  have rf := free_of hb0
  have rl := heap_lt hb0
  have HO := hide ho
  clear hb ho hb0 HR
  go_wp2
  refine bodyPost_ret (v := .agg #[.int .i64 2, .int .i64 0, .string txt]) (by simp [results, Tryz.results372, go_sem, r0, r1, r2]) rfl ⟨rfl, ?_⟩
  exact ((((onlyA w _).trans HO.out (fun _ _ e => e)).setCell (p := ⟨w.heap.size, 0, none⟩) (fun h => absurd h (by show ¬ w.heap.size < w.heap.size; omega)) _).setCell (p := ⟨w.heap.size, 1, none⟩) (fun h => absurd h (by show ¬ w.heap.size < w.heap.size; omega)) _).setCell (p := ⟨w.heap.size, 2, none⟩) (fun h => absurd h (by show ¬ w.heap.size < w.heap.size; omega)) _
set_option maxRecDepth 20000 in
set_option maxHeartbeats 2000000 in
theorem field_zero (m ab vb : Nat) (txt : ByteArray) (flds lst : Value) (size n code : Nat) (ht : txt.size ≤ 500) (hn : numeralB txt.data.toList = false) (w : World) (h : MAt w m ab vb txt flds lst size n code) :
    Calls Tryz.prog 304 #[.pointer (some ⟨m, 0, none⟩), .int .i64 0] w fun en w' => en = .returned (.agg #[.int .i64 2, .int .i64 0, .string txt]) ∧ Only (fun _ => False) w w' := by
  have ml := heap_lt h
  have HR := hide (take_zero m ab vb txt flds lst size n code ht hn (w.alloc (.cells #[.int .i64 0, .int .i64 0, .string ⟨#[]⟩] 186)) (h.only (onlyA w _) (fun e => e)))
  clear h
  go_enter Tryz.func304, Tryz.ntmps304
  go_wp2_with fail
  refine (HR.out).mono ?_
  rintro en w2 ⟨rfl, ho⟩
  have hb0 := (ho.block w.heap.size (by simp) (fun e => e)).trans (new0 w _)
  have r0 : w2.cell? ⟨w.heap.size, 0, none⟩ = some (.int .i64 0) := cell_of hb0 rfl
  have r1 : w2.cell? ⟨w.heap.size, 1, none⟩ = some (.int .i64 0) := cell_of hb0 rfl
  have r2 : w2.cell? ⟨w.heap.size, 2, none⟩ = some (.string ⟨#[]⟩) := cell_of hb0 rfl
  have rf := free_of hb0
  have rl := heap_lt hb0
  have HO := hide ho
  clear ho hb0 HR
  go_wp2
  refine bodyPost_ret (v := .agg #[.int .i64 2, .int .i64 0, .string txt]) (by simp [results, Tryz.results304, go_sem, r0, r1, r2]) rfl ⟨rfl, ?_⟩
  exact ((((onlyA w _).trans HO.out (fun _ _ e => e)).setCell (p := ⟨w.heap.size, 0, none⟩) (fun h => absurd h (by show ¬ w.heap.size < w.heap.size; omega)) _).setCell (p := ⟨w.heap.size, 1, none⟩) (fun h => absurd h (by show ¬ w.heap.size < w.heap.size; omega)) _).setCell (p := ⟨w.heap.size, 2, none⟩) (fun h => absurd h (by show ¬ w.heap.size < w.heap.size; omega)) _
set_option maxRecDepth 20000 in
set_option maxHeartbeats 2000000 in
theorem take_do (b2 b4 m ab vb : Nat) (txt : ByteArray) (flds lst : Value) (size n code : Nat) (ht : txt.size ≤ 500) (hn : numeralB txt.data.toList = false) (w : World) (h : MAt w m ab vb txt flds lst size n code) (h2 : w.cell? ⟨b2, 0, none⟩ = some (.pointer (some ⟨m, 0, none⟩))) (h4 : w.cell? ⟨b4, 0, none⟩ = some (.int .i64 0)) (l2 : b2 < w.heap.size) (l4 : b4 < w.heap.size) :
    Calls Tryz.prog 303 #[.pointer (some ⟨b2, 0, none⟩), .pointer (some ⟨b4, 0, none⟩)] w fun en w' => en = .returned (.agg #[.int .i64 2, .int .i64 0, .string txt]) ∧ Only (fun _ => False) w w' := by
  have HR := hide (field_zero m ab vb txt flds lst size n code ht hn (w.alloc (.cells #[.int .i64 0, .int .i64 0, .string ⟨#[]⟩] 186)) (h.only (onlyA w _) (fun e => e)))
  clear h
  go_enter Tryz.func303, Tryz.ntmps303
  go_wp2_with fail
  refine (HR.out).mono ?_
  rintro en w2 ⟨rfl, ho⟩
  have hb0 := (ho.block w.heap.size (by simp) (fun e => e)).trans (new0 w _)
  have r0 : w2.cell? ⟨w.heap.size, 0, none⟩ = some (.int .i64 0) := cell_of hb0 rfl
  have r1 : w2.cell? ⟨w.heap.size, 1, none⟩ = some (.int .i64 0) := cell_of hb0 rfl
  have r2 : w2.cell? ⟨w.heap.size, 2, none⟩ = some (.string ⟨#[]⟩) := cell_of hb0 rfl
  have rf := free_of hb0
  have rl := heap_lt hb0
  have HO := hide ho
  clear ho hb0 HR
  go_wp2
  refine bodyPost_ret (v := .agg #[.int .i64 2, .int .i64 0, .string txt]) (by simp [results, Tryz.results303, go_sem, r0, r1, r2]) rfl ⟨rfl, ?_⟩
  exact ((((onlyA w _).trans HO.out (fun _ _ e => e)).setCell (p := ⟨w.heap.size, 0, none⟩) (fun h => absurd h (by show ¬ w.heap.size < w.heap.size; omega)) _).setCell (p := ⟨w.heap.size, 1, none⟩) (fun h => absurd h (by show ¬ w.heap.size < w.heap.size; omega)) _).setCell (p := ⟨w.heap.size, 2, none⟩) (fun h => absurd h (by show ¬ w.heap.size < w.heap.size; omega)) _
set_option maxRecDepth 20000 in
set_option maxHeartbeats 2000000 in
theorem field_number (p : Option Addr) (s : ByteArray) (w : World) : Calls Tryz.prog 302 #[.pointer p, .agg #[.int .i64 1, .int .i64 0, .string s]] w fun en w' => en = .returned (.int .i64 0) ∧ Only (fun _ => False) w w' := by
  have HN := hide (number_else 1 0 s (w.alloc (.cells #[.int .i64 1, .int .i64 0, .string s] 186)) rfl)
  have HK := hide (check_number 0 (by omega))
  have HC := hide (check_nil p)
  go_enter Tryz.func302, Tryz.ntmps302
  go_wp2_with fail
  refine (HN.out).mono ?_
  rintro en w2 ⟨rfl, hb⟩
  have HO := hide (Only.ofBelow hb (fun _ => False))
  clear hb HN
  go_wp2_with (first | (go_at_call 218; refine (HK.out _).mono ?_; rintro en w' ⟨rfl, h3⟩; subst w') | (go_at_call 150; refine (HC.out _).mono ?_; rintro en w' ⟨rfl, h3⟩; subst w'))
  go_ret
  exact ⟨rfl, (onlyA w _).trans HO.out (fun _ _ e => e)⟩
end Go.Proofs.YthkknpjoifoanaaGreatDoor

namespace Go.Proofs.YthkknpjoifoanaaGreatDoor
open Go.RowKit
set_option maxRecDepth 20000 in
set_option maxHeartbeats 4000000 in
theorem find_do (m nb c : Nat) (w : World) (hnb : w.heap[nb]? = some (.cells #[.func (.func 282) #[] #[.pointer (some ⟨c, 0, none⟩)], .nilFunc] 329 (0, 0))) (hc : w.heap[c]? = some (.cells #[.int .i64 1, .int .i64 0, .string ⟨#[]⟩] 186 (0, 0))) :
    Calls Tryz.prog 301 #[.pointer (some ⟨m, 0, none⟩), .pointer (some ⟨nb, 0, none⟩)] w fun en w' => ∃ b2 b4, en = .returned (.agg #[.func (.func 303) #[] #[.pointer (some ⟨b2, 0, none⟩), .pointer (some ⟨b4, 0, none⟩)], .func (.func 305) #[] #[.pointer (some ⟨b2, 0, none⟩), .pointer (some ⟨b4, 0, none⟩)]]) ∧ w'.heap[b2]? = some (.cells #[.pointer (some ⟨m, 0, none⟩)] 113 (0, 0)) ∧ w'.heap[b4]? = some (.cells #[.int .i64 0] 3 (0, 0)) ∧ Only (fun _ => False) w w' := by
  have hmf := hmfT
  have hsf := hsfT
  have hsn := hsnT
  have hcf := cf480
  have e0 : w.cell? ⟨nb, 0, none⟩ = some (.func (.func 282) #[] #[.pointer (some ⟨c, 0, none⟩)]) := cell_of hnb rfl
  have k0 : w.cell? ⟨c, 0, none⟩ = some (.int .i64 1) := cell_of hc rfl
  have k1 : w.cell? ⟨c, 1, none⟩ = some (.int .i64 0) := cell_of hc rfl
  have k2 : w.cell? ⟨c, 2, none⟩ = some (.string ⟨#[]⟩) := cell_of hc rfl
  have hnl := heap_lt hnb
  have HK := hide (fun W a b d => const_do (some ⟨m, 0, none⟩) c 1 0 ⟨#[]⟩ W a b d)
  have HF := hide (field_number (some ⟨m, 0, none⟩) ⟨#[]⟩)
  clear hnb hc
  go_enter Tryz.func301, Tryz.ntmps301
  go_upto_region 1 with fail
  have n0 : ((w.alloc (.cells #[.pointer (some ⟨m, 0, none⟩)] 113)).alloc (.cells #[.nilFunc, .nilFunc] 428)).cell? ⟨w.heap.size, 0, none⟩ = some (.pointer (some ⟨m, 0, none⟩)) := past (cell_of (new0 w _) rfl) _
  have n0d : ((w.alloc (.cells #[.pointer (some ⟨m, 0, none⟩)] 113)).alloc (.cells #[.nilFunc, .nilFunc] 428)).drew.cell? ⟨w.heap.size, 0, none⟩ = some (.pointer (some ⟨m, 0, none⟩)) := n0
  go_cut [4] (fun s4 wc => ∃ b4, s4 = .pointer (some ⟨b4, 0, none⟩) ∧ wc.heap[b4]? = some (.cells #[.int .i64 0] 3 (0, 0)) ∧ wc.heap[w.heap.size]? = some (.cells #[.pointer (some ⟨m, 0, none⟩)] 113 (0, 0)) ∧ wc.heap[w.heap.size + 1]? = some (.cells #[.nilFunc, .nilFunc] 428 (0, 0)) ∧ w.heap.size + 1 < b4 ∧ Only (fun _ => False) w wc)
  case first =>
    go_region_held3 (fun W => W.cell? ⟨w.heap.size, 0, none⟩ = some (.pointer (some ⟨m, 0, none⟩)) ∧ W.cell? ⟨nb, 0, none⟩ = some (.func (.func 282) #[] #[.pointer (some ⟨c, 0, none⟩)])) (first | (refine ⟨?_, ?_⟩ <;> (repeat (first | (with_reducible assumption) | (with_reducible refine past ?_ _) | (with_reducible refine pastD ?_ _) | ((with_reducible refine farC ?_ ?_); (rotate_left; (focus (first | (simp; done) | (simp; omega) | omega))))))))
      (first | (go_at_call 282; refine (HK.out _ (by repeat (first | (with_reducible assumption) | (with_reducible refine past ?_ _) | (with_reducible refine pastD ?_ _))) (by repeat (first | (with_reducible assumption) | (with_reducible refine past ?_ _) | (with_reducible refine pastD ?_ _))) (by repeat (first | (with_reducible assumption) | (with_reducible refine past ?_ _) | (with_reducible refine pastD ?_ _)))).mono ?_; rintro en w1 ⟨rfl, hw1⟩; subst hw1) | (go_at_call 302; refine (HF.out _).mono ?_; rintro en w2 ⟨rfl, ho2⟩; have hO : Only (fun _ => False) w w2 := Only.trans (by repeat (first | with_reducible exact Only.refl _ _ | with_reducible refine Only.alloc ?_ _ | with_reducible refine toDrew ?_)) ho2 (fun _ _ e => e); refine lay (P := Hid (w2.heap[w.heap.size]? = some (.cells #[.pointer (some ⟨m, 0, none⟩)] 113 (0, 0)))) ?_ (fun HBx0 => ?_); (focus (refine hide ?_; refine (ho2.block _ ?_ (fun e => e)).trans ?_; (focus (first | (simp; done) | (simp; omega) | omega)); (repeat (first | ((with_reducible refine new_at2D ?_ _); focus (simp; done)) | ((with_reducible refine (heap_allocD _ _ ?_).trans ?_); (focus (first | (simp; done) | (simp; omega) | omega))) | ((with_reducible refine new_at2 ?_ _); focus (simp; done)) | ((with_reducible refine (Below.heap_alloc _ _ _ ?_).trans ?_); (focus (first | (simp; done) | (simp; omega) | omega))))); done)); refine lay (P := Hid (w2.heap[w.heap.size + 1]? = some (.cells #[.nilFunc, .nilFunc] 428 (0, 0)))) ?_ (fun HBx1 => ?_); (focus (refine hide ?_; refine (ho2.block _ ?_ (fun e => e)).trans ?_; (focus (first | (simp; done) | (simp; omega) | omega)); (repeat (first | ((with_reducible refine new_at2D ?_ _); focus (simp; done)) | ((with_reducible refine (heap_allocD _ _ ?_).trans ?_); (focus (first | (simp; done) | (simp; omega) | omega))) | ((with_reducible refine new_at2 ?_ _); focus (simp; done)) | ((with_reducible refine (Below.heap_alloc _ _ _ ?_).trans ?_); (focus (first | (simp; done) | (simp; omega) | omega))))); done)); have y0 : w2.cell? ⟨w.heap.size, 0, none⟩ = some (.pointer (some ⟨m, 0, none⟩)) := cell_of HBx0.out rfl; have y1 := (hO.cell (p := ⟨nb, 0, none⟩) hnl (fun e => e)).trans e0; (try (refine lay (P := w2.heap[w.heap.size + 1 + 1]? = some (.cells #[.int .i64 0] 3 (0, 0))) ?_ (fun b0 => ?_); (focus (refine (ho2.block _ ?_ (fun e => e)).trans ?_; (focus (first | (simp; done) | (simp; omega) | omega)); (repeat (first | ((with_reducible refine new_at2D ?_ _); focus (simp; done)) | ((with_reducible refine (heap_allocD _ _ ?_).trans ?_); (focus (first | (simp; done) | (simp; omega) | omega))) | ((with_reducible refine new_at2 ?_ _); focus (simp; done)) | ((with_reducible refine (Below.heap_alloc _ _ _ ?_).trans ?_); (focus (first | (simp; done) | (simp; omega) | omega))))); done)); have b0c : w2.cell? ⟨w.heap.size + 1 + 1, 0, none⟩ = some (.int .i64 0) := cell_of b0 rfl; have b0f := free_of b0; have b0l := heap_lt b0; have Hb0 := hide b0; clear b0)); (try (refine lay (P := w2.heap[w.heap.size + 1 + 1 + 1]? = some (.cells #[.int .i64 0] 3 (0, 0))) ?_ (fun b1 => ?_); (focus (refine (ho2.block _ ?_ (fun e => e)).trans ?_; (focus (first | (simp; done) | (simp; omega) | omega)); (repeat (first | ((with_reducible refine new_at2D ?_ _); focus (simp; done)) | ((with_reducible refine (heap_allocD _ _ ?_).trans ?_); (focus (first | (simp; done) | (simp; omega) | omega))) | ((with_reducible refine new_at2 ?_ _); focus (simp; done)) | ((with_reducible refine (Below.heap_alloc _ _ _ ?_).trans ?_); (focus (first | (simp; done) | (simp; omega) | omega))))); done)); have b1c : w2.cell? ⟨w.heap.size + 1 + 1 + 1, 0, none⟩ = some (.int .i64 0) := cell_of b1 rfl; have b1f := free_of b1; have b1l := heap_lt b1; have Hb1 := hide b1; clear b1)); have HO := hide hO; clear hO; have HO2 := hide ho2; clear ho2))
    all_goals
      go_wp2_with fail
      go_meet
      have hzw := heap_lt HBx1.out
      refine ⟨_, rfl, ?_, ?_, ?_, ?_, HO.out.trans (D := fun _ => False) (E := fun q => w.heap.size ≤ q) ?_ (fun q h1 h2 => by omega)⟩
      · (repeat (first | ((with_reducible refine new_at2 ?_ _); focus (simp; done)) | ((with_reducible refine (Below.heap_alloc _ _ _ ?_).trans ?_); (focus (first | omega | (simp; done) | (simp; omega)))) | (with_reducible refine set1 (x := .int .i64 0) ?_ _) | ((with_reducible refine (Below.heap_setCell _ _ _ _ ?_).trans ?_); (focus (show _ ≠ _; first | (simp; done) | (simp; omega) | omega))) | (with_reducible exact HBx0.out) | (with_reducible exact HBx1.out) | (with_reducible exact Hb0.out) | (with_reducible exact Hb1.out)))
      · (repeat (first | ((with_reducible refine new_at2 ?_ _); focus (simp; done)) | ((with_reducible refine (Below.heap_alloc _ _ _ ?_).trans ?_); (focus (first | omega | (simp; done) | (simp; omega)))) | (with_reducible refine set1 (x := .int .i64 0) ?_ _) | ((with_reducible refine (Below.heap_setCell _ _ _ _ ?_).trans ?_); (focus (show _ ≠ _; first | (simp; done) | (simp; omega) | omega))) | (with_reducible exact HBx0.out) | (with_reducible exact HBx1.out) | (with_reducible exact Hb0.out) | (with_reducible exact Hb1.out)))
      · (repeat (first | ((with_reducible refine new_at2 ?_ _); focus (simp; done)) | ((with_reducible refine (Below.heap_alloc _ _ _ ?_).trans ?_); (focus (first | omega | (simp; done) | (simp; omega)))) | (with_reducible refine set1 (x := .int .i64 0) ?_ _) | ((with_reducible refine (Below.heap_setCell _ _ _ _ ?_).trans ?_); (focus (show _ ≠ _; first | (simp; done) | (simp; omega) | omega))) | (with_reducible exact HBx0.out) | (with_reducible exact HBx1.out) | (with_reducible exact Hb0.out) | (with_reducible exact Hb1.out)))
      · first | omega | (simp; done) | (simp; omega)
      · (repeat (first | (with_reducible exact Only.refl _ _) | (with_reducible refine Only.alloc ?_ _) | (with_reducible refine toDrew ?_) | ((with_reducible refine Only.setCell ?_ ?_ _); (rotate_left; (focus (intro _; show _; first | (simp; done) | (simp; omega) | omega))))))
  case rest =>
    obtain ⟨b4, rfl, h4, hx0, hx1, k4, hO⟩ := hcut
    have r0 : wc.cell? ⟨w.heap.size + 1, 0, none⟩ = some .nilFunc := cell_of hx1 rfl
    have r1 : wc.cell? ⟨w.heap.size + 1, 1, none⟩ = some .nilFunc := cell_of hx1 rfl
    have rf := free_of hx1
    have rl := heap_lt hx1
    have H4 := hide h4
    have HX0 := hide hx0
    have HO := hide hO
    clear h4 hx0 hx1 hO
    go_wp2
    have hol : Only (fun q => q = w.heap.size + 1) wc _ := ((Only.refl (fun q => q = w.heap.size + 1) wc).setCell (p := ⟨w.heap.size + 1, 0, none⟩) (fun _ => rfl) (.func (.func 303) #[] #[.pointer (some ⟨w.heap.size, 0, none⟩), .pointer (some ⟨b4, 0, none⟩)])).setCell (p := ⟨w.heap.size + 1, 1, none⟩) (fun _ => rfl) (.func (.func 305) #[] #[.pointer (some ⟨w.heap.size, 0, none⟩), .pointer (some ⟨b4, 0, none⟩)])
    refine bodyPost_ret (v := .agg #[.func (.func 303) #[] #[.pointer (some ⟨w.heap.size, 0, none⟩), .pointer (some ⟨b4, 0, none⟩)], .func (.func 305) #[] #[.pointer (some ⟨w.heap.size, 0, none⟩), .pointer (some ⟨b4, 0, none⟩)]]) (by simp [results, Tryz.results301, go_sem, r0, r1]) rfl ⟨w.heap.size, b4, rfl, (hol.block _ (heap_lt HX0.out) (by omega)).trans HX0.out, (hol.block _ (heap_lt H4.out) (by omega)).trans H4.out, HO.out.trans hol (fun q h e => by omega)⟩
end Go.Proofs.YthkknpjoifoanaaGreatDoor

namespace Go.Proofs.YthkknpjoifoanaaGreatDoor
open Go.RowKit
set_option maxRecDepth 20000 in
set_option maxHeartbeats 1000000 in
theorem of_count (n : Int) (w : World) : Calls Tryz.prog 380 #[.int .i64 n] w fun en w' => en = .returned (.agg #[.int .i64 1, .int .i64 n, .string ⟨#[]⟩]) ∧ w' = (w.alloc (.cells #[.int .i64 1, .int .i64 n, .string ⟨#[]⟩] 186)).alloc (.cells #[.int .i64 1, .int .i64 n, .string ⟨#[]⟩] 186) := by
  have HN := hide (ofNumber n)
  go_enter Tryz.func380, Tryz.ntmps380
  go_wp2_with (go_at_call 74; refine (HN.out _).mono ?_; rintro en w2 ⟨rfl, hw2⟩; subst hw2)
  exact bodyPost_ret (v := .agg #[.int .i64 1, .int .i64 n, .string ⟨#[]⟩]) (by simp [results, Tryz.results380, go_sem]) rfl ⟨rfl, rfl⟩
set_option maxRecDepth 20000 in
set_option maxHeartbeats 1000000 in
theorem pat_do (p : Option Addr) (pp g n cap first : Nat) (w : World) (h : w.heap[pp]? = some (.cells #[.slice (some ⟨g, 0, none⟩) n cap, .int .i64 (first : Nat)] 47 (0, 0))) :
    Calls Tryz.prog 362 #[.pointer p, .pointer (some ⟨pp, 0, none⟩)] w fun en w' => en = .returned (.agg #[.slice (some ⟨g, 0, none⟩) n cap, .int .i64 (first : Nat)]) ∧ w' = w.alloc (.cells #[.slice (some ⟨g, 0, none⟩) n cap, .int .i64 (first : Nat)] 47) := by
  have c0 : w.cell? ⟨pp, 0, none⟩ = some (.slice (some ⟨g, 0, none⟩) n cap) := cell_of h rfl
  have c1 : w.cell? ⟨pp, 1, none⟩ = some (.int .i64 (first : Nat)) := cell_of h rfl
  have cl := heap_lt h
  clear h
  go_enter Tryz.func362, Tryz.ntmps362
  go_wp2
  exact bodyPost_ret (v := .agg #[.slice (some ⟨g, 0, none⟩) n cap, .int .i64 (first : Nat)]) (by simp [results, Tryz.results362, go_sem]) rfl ⟨rfl, rfl⟩
set_option maxRecDepth 20000 in
set_option maxHeartbeats 2000000 in
theorem set_zero (m ab vb : Nat) (txt t : ByteArray) (po : Option Addr) (pn pc : Nat) (lst : Value) (size n code : Nat) (cs : List Value) (x3 x4 x5 : Value) (ht : t.size ≤ 500) (hw : (words [] t.data.toList).length ≤ 40) (w : World) (h : MAt w m ab vb txt (.slice po pn pc) lst size n code) (hv : VAt w vb cs) (h3 : cs[3]? = some x3) (h4 : cs[4]? = some x4) (h5 : cs[5]? = some x5) (f0 : cs[6]? = some (.int .i64 2)) (f1 : cs[7]? = some (.int .i64 0)) (f2 : cs[8]? = some (.string ⟨#[32]⟩)) (hne : m ≠ vb) :
    Calls Tryz.prog 306 #[.pointer (some ⟨m, 0, none⟩), .int .i64 0, .agg #[.int .i64 2, .int .i64 0, .string t]] w fun en w' => en = .returned (.tuple #[]) ∧ MRec w' m ab vb t lst size n code ∧ VAt w' vb (((cs.set 3 (.int .i64 1)).set 4 (.int .i64 (words [] t.data.toList).length)).set 5 (.string ⟨#[]⟩)) ∧ Only (fun k => k = m ∨ k = vb) w w' := by
  have HX := hide (text_any 2 0 t (w.alloc (.cells #[.int .i64 2, .int .i64 0, .string t] 186)) (by decide))
  have HB := hide (fun W hM hV => become_do m ab vb txt t po pn pc lst size n code cs x3 x4 x5 ht hw W hM hV h3 h4 h5 f0 f1 f2 hne)
  have HM := hide h
  have HV := hide hv
  clear h hv h3 h4 h5 f0 f1 f2 hw ht hne
  go_enter Tryz.func306, Tryz.ntmps306
  go_wp2_with fail
  refine (HX.out).mono ?_
  rintro en w2 ⟨rfl, hb⟩
  have ho2 : Only (fun _ => False) w w2 := (onlyA w _).trans (Only.ofBelow hb (fun _ => False)) (fun _ _ e => e)
  have HB2 := hide (HB.out w2 (HM.out.only ho2 (fun e => e)) (HV.out.only ho2 (fun e => e)))
  have HO2 := hide ho2
  clear hb ho2 HX HB
  go_wp2_with fail
  refine (HB2.out).mono ?_
  rintro en w4 ⟨rfl, hm4, hv4, ho4⟩
  have HM4 := hide hm4
  have HV4 := hide hv4
  have HO4 := hide ho4
  clear hm4 hv4 ho4
  go_wp2
  refine bodyPost_ret (v := .tuple #[]) (by simp [results, Tryz.results306, go_sem]) rfl ?_
  exact ⟨rfl, HM4.out, HV4.out, (HO2.out.mono (E := fun k => k = m ∨ k = vb) (fun _ _ e => e.elim)).trans HO4.out (fun _ _ e => e)⟩
set_option maxRecDepth 20000 in
set_option maxHeartbeats 2000000 in
theorem set_do (b2 b4 m : Nat) (t : ByteArray) (Q : World → Prop) (w : World) (h2 : w.cell? ⟨b2, 0, none⟩ = some (.pointer (some ⟨m, 0, none⟩))) (h4 : w.cell? ⟨b4, 0, none⟩ = some (.int .i64 0)) (l2 : b2 < w.heap.size) (l4 : b4 < w.heap.size)
    (H : ∀ W, Only (fun _ => False) w W → Calls Tryz.prog 306 #[.pointer (some ⟨m, 0, none⟩), .int .i64 0, .agg #[.int .i64 2, .int .i64 0, .string t]] W fun en w' => en = .returned (.tuple #[]) ∧ Q w') :
    Calls Tryz.prog 305 #[.agg #[.int .i64 2, .int .i64 0, .string t], .pointer (some ⟨b2, 0, none⟩), .pointer (some ⟨b4, 0, none⟩)] w fun en w' => en = .returned (.tuple #[]) ∧ Q w' := by
  have H1 := hide (H (w.alloc (.cells #[.int .i64 2, .int .i64 0, .string t] 186)) (onlyA w _))
  clear H
  go_enter Tryz.func305, Tryz.ntmps305
  go_wp2_with fail
  refine (H1.out).mono ?_
  rintro en w4 ⟨rfl, hq⟩
  have HQ := hide hq
  clear hq
  go_wp2
  go_end0
  exact ⟨rfl, HQ.out⟩
end Go.Proofs.YthkknpjoifoanaaGreatDoor

namespace Go.Proofs.YthkknpjoifoanaaGreatDoor
open Go.RowKit
set_option maxRecDepth 20000 in
set_option maxHeartbeats 4000000 in
theorem app_dash (B : Nat) (M : List UInt8) (mt : ByteArray) (tv : Value) (hM : M.length ≤ 1000) (w : World) (hB : B ≤ w.heap.size) (hown : w.ownsRow B 5 1 tv M.length (M.map byV)) :
    Calls Tryz.prog 386 #[tv, .string ⟨#[45]⟩, .string mt] w fun en w' => ∃ tv', en = .returned tv' ∧ w'.ownsRow B 5 1 tv' (M ++ [45]).length ((M ++ [45]).map byV) ∧ Only (fun k => B ≤ k) w w' := by
  obtain ⟨i0, hi0, hz0, hz1, hz2⟩ := info_parts info5t
  obtain ⟨po, cap, rfl⟩ := ownsRow_slice hown
  have HOw := hide hown
  clear hown
  go_enter Tryz.func386, Tryz.ntmps386
  go_wp2
  go_loopg [0, 7] 1 (fun gh s0 s7 wr => (gh = 1 ∧ s0 = .slice po M.length cap ∧ s7 = .int .i64 0 ∧ w = wr) ∨ (gh = 0 ∧ s7 = .int .i64 1 ∧ wr.ownsRow B 5 1 s0 (M ++ [45]).length ((M ++ [45]).map byV) ∧ Only (fun k => B ≤ k) w wr))
  case atStart => exact Or.inl ⟨rfl, rfl, rfl, rfl⟩
  case round =>
    rcases hrel with ⟨hg, rfl, rfl, ew⟩ | ⟨hg, rfl, hown, ho⟩
    · subst ew
      subst hg
      go_wp2_with (at_builtin; refine wpList_append_own _ rfl (.tmp 14) (.tmp 18) 92 rfl B 5 i0 (.int .u8 0) 1 1 Tryz.underlying92 hi0 hz0 hz1 hz2 rfl (by decide) _ _ _ rfl (HOw.out.alloc _) _ 1 1 [.int .u8 45] rfl rfl (news_one' _ _ _) (fun u hu => by simp at hu; subst hu; rfl) (by unfold maxLen; omega) (by omega) (by simp; omega) ?_; intro v' w3 hown' hgrow _)
      have R1 := hide hown'
      have R2 : Hid (Only (fun k => B ≤ k) w w3) := ((Only.refl (fun k => B ≤ k) w).alloc _).grown hgrow (fun k hk hlt => (HOw.out.lt k hk).1)
      clear hown' hgrow
      go_wp2
      go_roundg 0
      case measure => omega
      case rel =>
        refine Or.inr ⟨rfl, by go_num, ?_, R2.out⟩
        rw [List.length_append, List.map_append]
        exact R1.out
    · have H1 := hide hown
      have H2 := hide ho
      clear hown ho
      go_wp2
      go_ret
      exact ⟨_, rfl, H1.out, H2.out⟩
def stM (k : Nat) : List UInt8 := if k = 0 then [] else [45, 97, 45, 99, 45].take (k + 1)
def stL (k : Nat) : Int := if k = 0 then -1 else if k = 1 then 0 else if k = 4 then 3 else 2
def stC (k : Nat) : Nat := if k = 0 then 0 else if k = 1 then 1 else if k = 4 then 3 else 2
theorem stL_0 : stL 0 = -1 := rfl
theorem stC_0 : stC 0 = 0 := rfl
theorem stM_0 : stM 0 = [] := rfl
theorem stL_1 : stL 1 = 0 := rfl
theorem stC_1 : stC 1 = 1 := rfl
theorem stM_1 : stM 1 = [45, 97] := rfl
theorem stL_2 : stL 2 = 2 := rfl
theorem stC_2 : stC 2 = 2 := rfl
theorem stM_2 : stM 2 = [45, 97, 45] := rfl
theorem stL_3 : stL 3 = 2 := rfl
theorem stC_3 : stC 3 = 2 := rfl
theorem stM_3 : stM 3 = [45, 97, 45, 99] := rfl
theorem stL_4 : stL 4 = 3 := rfl
theorem stC_4 : stC 4 = 3 := rfl
theorem stM_4 : stM 4 = [45, 97, 45, 99, 45] := rfl
/-- The lengths at the places of abc. -/
def LensOK (w : World) (v : Value) (first : Nat) : Prop := ∀ W, Only (fun _ => False) w W → Calls Tryz.prog 28 #[.agg #[v, .int .i64 first], .string ⟨#[97, 98, 99]⟩] W fun en w' => ∃ lb, en = .returned (.slice (some ⟨lb, 0, none⟩) 4 4) ∧ w'.heap[lb]? = some (.cells #[.int .i64 0, .int .i64 1, .int .i64 0, .int .i64 0] 3 (0, 0)) ∧ Only (fun _ => False) W w'
set_option maxRecDepth 20000 in
set_option maxHeartbeats 8000000 in
theorem all_abc (g n cap first : Nat) (w : World) (HL : LensOK w (.slice (some ⟨g, 0, none⟩) n cap) first) :
    Calls Tryz.prog 316 #[.agg #[.slice (some ⟨g, 0, none⟩) n cap, .int .i64 first], .string ⟨#[97, 98, 99]⟩, .string ⟨#[45]⟩] w fun en w' => en = .returned (.tuple #[.string ⟨#[45, 97, 45, 99, 45]⟩, .int .i64 3, .nilIface]) ∧ Only (fun _ => False) w w' := by
  obtain ⟨i0, hi0, hz0, hz1, hz2⟩ := info_parts info5t
  have H1 := hide (HL (w.alloc (.cells #[.slice (some ⟨g, 0, none⟩) n cap, .int .i64 first] 47)) (onlyA w _))
  clear HL
  go_enter Tryz.func316, Tryz.ntmps316
  go_wp2_with fail
  refine (H1.out).mono ?_
  rintro en w2 ⟨lb, rfl, hlb, ho2⟩
  have hol : Only (fun _ => False) w w2 := (onlyA w _).trans ho2 (fun _ _ e => e)
  have lbl := heap_lt hlb
  have hsz : w.heap.size ≤ w2.heap.size := hol.size
  have HLb := hide hlb
  have HO2 := hide hol
  clear hlb ho2 hol H1
  go_wp2
  go_loopg [10, 11, 12, 13] 4 (fun gh s10 s11 s12 s13 wr => ∃ k : Nat, k ≤ 4 ∧ gh = 4 - k ∧ s13 = .int .i64 k ∧ s12 = .int .i64 (stL k) ∧ s11 = .int .i64 (stC k : Nat) ∧ wr.ownsRow w2.heap.size 5 1 s10 (stM k).length ((stM k).map byV) ∧ Only (fun q => w2.heap.size ≤ q) w2 wr)
  case atStart => exact ⟨0, by omega, rfl, rfl, rfl, rfl, World.ownsRow_nil _ _ _ _, Only.refl _ _⟩
  case round =>
    obtain ⟨k, hk, hgh, rfl, rfl, rfl, hown, ho⟩ := hrel
    obtain ⟨po, cap1, rfl⟩ := ownsRow_slice hown
    have hz := ho.size
    have hb := (ho.block lb lbl (by omega)).trans HLb.out
    have l0 : wr.cell? ⟨lb, 0, none⟩ = some (.int .i64 0) := cell_of hb rfl
    have l1 : wr.cell? ⟨lb, 1, none⟩ = some (.int .i64 1) := cell_of hb rfl
    have l2 : wr.cell? ⟨lb, 2, none⟩ = some (.int .i64 0) := cell_of hb rfl
    have l3 : wr.cell? ⟨lb, 3, none⟩ = some (.int .i64 0) := cell_of hb rfl
    have ll := heap_lt hb
    have HOw := hide hown
    have HO := hide ho
    have HG := hide hgh
    clear hown ho hgh hb
    have hk5 : k = 0 ∨ k = 1 ∨ k = 2 ∨ k = 3 ∨ k = 4 := by omega
    rcases hk5 with rfl | rfl | rfl | rfl | rfl
    · simp only [stL_0, stC_0, stM_0, List.length_nil] at HOw ⊢
      go_wp2_with (first | (go_at_call 386; refine (app_dash w2.heap.size [] _ _ (by decide) _ hz HOw.out).mono ?_; rintro en w3 ⟨tv3, rfl, h31, h32⟩; obtain ⟨po3, cap3, rfl⟩ := ownsRow_slice h31; have hz3 : w2.heap.size ≤ w3.heap.size := Nat.le_trans hz h32.size; have R3 := hide h31; have O3 := hide h32; clear h31 h32) | (at_builtin; refine Lib.wpList_append_own_string _ rfl _ _ 92 9 rfl w2.heap.size 5 i0 Tryz.underlying92 Tryz.underlying9 hi0 hz0 hz1 hz2 _ _ _ rfl R3.out ⟨#[97]⟩ rfl (by unfold maxLen; decide) (by decide) (by omega) ?_; intro v4 w4 hown4 hgrow4 _; obtain ⟨po4, cap4, rfl⟩ := ownsRow_slice hown4; have R4 := hide hown4; have G4 := hide hgrow4; clear hown4 hgrow4))
      go_roundg 3
      case measure => rw [HG.out]; omega
      case rel =>
        refine ⟨1, by omega, rfl, by go_num, by go_num, by go_num, R4.out, (HO.out.trans O3.out (fun _ _ e => e)).grown G4.out (fun q hq _ => (R3.out.lt q hq).1)⟩
    · simp only [stL_1, stC_1, stM_1, List.length_cons, List.length_nil] at HOw ⊢
      go_wp2_with (go_at_call 386; refine (app_dash w2.heap.size [45, 97] _ _ (by decide) _ hz HOw.out).mono ?_; rintro en w3 ⟨tv3, rfl, h31, h32⟩; obtain ⟨po3, cap3, rfl⟩ := ownsRow_slice h31; have hz3 : w2.heap.size ≤ w3.heap.size := Nat.le_trans hz h32.size; have R3 := hide h31; have O3 := hide h32; clear h31 h32)
      go_roundg 2
      case measure => rw [HG.out]; omega
      case rel =>
        refine ⟨2, by omega, rfl, by go_num, by go_num, by go_num, R3.out, HO.out.trans O3.out (fun _ _ e => e)⟩
    · simp only [stL_2, stC_2, stM_2, List.length_cons, List.length_nil] at HOw ⊢
      go_wp2_with (at_builtin; refine Lib.wpList_append_own_string _ rfl _ _ 92 9 rfl w2.heap.size 5 i0 Tryz.underlying92 Tryz.underlying9 hi0 hz0 hz1 hz2 _ _ _ rfl HOw.out ⟨#[99]⟩ rfl (by unfold maxLen; decide) (by decide) (by omega) ?_; intro v4 w4 hown4 hgrow4 _; obtain ⟨po4, cap4, rfl⟩ := ownsRow_slice hown4; have R4 := hide hown4; have G4 := hide hgrow4; clear hown4 hgrow4)
      go_roundg 1
      case measure => rw [HG.out]; omega
      case rel =>
        refine ⟨3, by omega, rfl, by go_num, by go_num, by go_num, R4.out, HO.out.grown G4.out (fun q hq _ => (HOw.out.lt q hq).1)⟩
    · simp only [stL_3, stC_3, stM_3, List.length_cons, List.length_nil] at HOw ⊢
      go_wp2_with (first | (go_at_call 386; refine (app_dash w2.heap.size [45, 97, 45, 99] _ _ (by decide) _ hz HOw.out).mono ?_; rintro en w3 ⟨tv3, rfl, h31, h32⟩; obtain ⟨po3, cap3, rfl⟩ := ownsRow_slice h31; have hz3 : w2.heap.size ≤ w3.heap.size := Nat.le_trans hz h32.size; have R3 := hide h31; have O3 := hide h32; clear h31 h32) | (at_builtin; refine Lib.wpList_append_own_string _ rfl _ _ 92 9 rfl w2.heap.size 5 i0 Tryz.underlying92 Tryz.underlying9 hi0 hz0 hz1 hz2 _ _ _ rfl R3.out ⟨#[]⟩ rfl (by unfold maxLen; decide) (by decide) (by omega) ?_; intro v4 w4 hown4 hgrow4 _; obtain ⟨po4, cap4, rfl⟩ := ownsRow_slice hown4; have R4 := hide hown4; have G4 := hide hgrow4; clear hown4 hgrow4))
      go_roundg 0
      case measure => rw [HG.out]; omega
      case rel =>
        refine ⟨4, by omega, rfl, by go_num, by go_num, by go_num, R4.out, (HO.out.trans O3.out (fun _ _ e => e)).grown G4.out (fun q hq _ => (R3.out.lt q hq).1)⟩
    · simp only [stL_4, stC_4, stM_4, List.length_cons, List.length_nil] at HOw ⊢
      have kc := bytes_conv HOw.out
      go_wp2
      refine bodyPost_ret (v := .tuple #[.string ⟨#[45, 97, 45, 99, 45]⟩, .int .i64 3, .nilIface]) (by simp [results, Tryz.results316, go_sem]; rfl) rfl ⟨rfl, HO2.out.trans HO.out (fun q h e => by omega)⟩
end Go.Proofs.YthkknpjoifoanaaGreatDoor

