import Derived.Test.YtdbdbaepmdmnfaaGreatDoorZ10
namespace Go.Proofs.YtdbdbaepmdmnfaaGreatDoor
open Go.RowKit
set_option maxRecDepth 100000 in
set_option maxHeartbeats 4000000 in
theorem cut_blankP (t p : ByteArray) (h6 : (p.toList == [32]) = true) (ht : t.size ≤ 500) (w : World) :
    Calls Tryz.prog 27 #[.string t, .string p] w fun en w' => ∃ v, en = .returned (.tuple #[v, .bool true]) ∧ w'.ownsRow w.heap.size 9 1 v (words [] t.data.toList).length (strsV (words [] t.data.toList)) ∧ Only (fun _ => False) w w' := by
  go_enter Tryz.func27, Tryz.ntmps27
  go_wp2_with (go_at_call 36; refine (blanks_any t ht w).mono ?_; rintro en w1 ⟨v, rfl, hr, ho⟩; have HR := hide hr; have HO := hide ho; clear hr ho)
  go_ret2
  exact ⟨_, rfl, HR.out, HO.out⟩
theorem blank2 : ((⟨#[32]⟩ : ByteArray).toList == [32]) = true := by rw [ByteArray.toList_eq]; rfl
/-- Cutting by a blank. -/
theorem cut_blank (t : ByteArray) (ht : t.size ≤ 500) (w : World) : Calls Tryz.prog 27 #[.string t, .string ⟨#[32]⟩] w fun en w' => ∃ v, en = .returned (.tuple #[v, .bool true]) ∧ w'.ownsRow w.heap.size 9 1 v (words [] t.data.toList).length (strsV (words [] t.data.toList)) ∧ Only (fun _ => False) w w' := cut_blankP t ⟨#[32]⟩ blank2 ht w
set_option maxRecDepth 100000 in
set_option maxHeartbeats 4000000 in
theorem split_blankP (t p : ByteArray) (h1 : ¬ 500 < t.size) (h2 : ¬ 500 < p.size) (w : World) (HC : ∀ W, Calls Tryz.prog 27 #[.string t, .string p] W fun en w' => ∃ v, en = .returned (.tuple #[v, .bool true]) ∧ w'.ownsRow W.heap.size 9 1 v (words [] t.data.toList).length (strsV (words [] t.data.toList)) ∧ Only (fun _ => False) W w') :
    Calls Tryz.prog 10 #[.string t, .string p] w fun en w' => ∃ v, en = .returned (.tuple #[v, .int .i64 0]) ∧ w'.ownsRow w.heap.size 9 1 v (words [] t.data.toList).length (strsV (words [] t.data.toList)) ∧ Only (fun _ => False) w w' := by
  have HCt := hide HC
  clear HC
  go_enter Tryz.func10, Tryz.ntmps10
  go_wp2_with fail
  refine (long_no t h1 _).mono ?_
  rintro e w' ⟨rfl, rfl⟩
  go_wp2_with fail
  refine (long_no p h2 _).mono ?_
  rintro e w' ⟨rfl, rfl⟩
  go_wp2_with fail
  refine (HCt.out _).mono ?_
  rintro e w1 ⟨v, rfl, hr, ho⟩
  have HR := hide hr
  have HO := hide ho
  clear hr ho
  go_wp2
  go_ret2
  exact ⟨_, rfl, HR.out, HO.out⟩
theorem split_blank (t : ByteArray) (ht : t.size ≤ 500) (w : World) : Calls Tryz.prog 10 #[.string t, .string ⟨#[32]⟩] w fun en w' => ∃ v, en = .returned (.tuple #[v, .int .i64 0]) ∧ w'.ownsRow w.heap.size 9 1 v (words [] t.data.toList).length (strsV (words [] t.data.toList)) ∧ Only (fun _ => False) w w' := split_blankP t ⟨#[32]⟩ (by omega) (by decide) w (fun W => cut_blank t ht W)
end Go.Proofs.YtdbdbaepmdmnfaaGreatDoor

