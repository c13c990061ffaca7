import Derived.Test.YthhiofppbpgipaaGreatDoorMRComp
namespace Go.Proofs.YthhiofppbpgipaaGreatDoor
open Go.RowKit
theorem mnum_any (n : Int) (w : World) :
    Calls Tryz.prog 10 #[.int .i64 n] w fun e w' => e = .returned (.int .i64 n) ∧ w' = w := by
  go_enter Tryz.func10, Tryz.ntmps10
  go_wp2
  go_ret
  exact ⟨rfl, rfl⟩
theorem MatchIs.tuple {p t e} (h : MatchIs p t e) : ∃ a b c : Int, e = .returned (.tuple #[.int .i64 a, .int .i64 b, .int .i64 c]) := by
  by_cases hl : 500 < p.size ∨ 500 < t.size
  · exact ⟨0, 0, 1, h.1 hl⟩
  · cases hw : wholeP p.data.toList with
    | none => exact ⟨0, 0, 7, (h.2 hl).1 hw⟩
    | some R =>
      obtain ⟨best, _, he⟩ := (h.2 hl).2 R hw
      exact ⟨_, _, _, he⟩
set_option maxRecDepth 100000 in
set_option maxHeartbeats 4000000 in
theorem plays_match (hC : ClassOK) (A B : Int) (s t u : ByteArray) (ao : Option Addr) (n cap : Nat) (w : World) :
    Calls Tryz.prog 7 #[.agg #[.int .i64 1, .int .i64 A, .int .i64 B, .string s, .string t, .string u, .slice ao n cap]] w fun e w' => e = .returned (.bool true) ∧ Below w.heap.size w w' := by
  have HC := hide hC
  clear hC
  have hx0 := new0 w (.cells #[.int .i64 1, .int .i64 A, .int .i64 B, .string s, .string t, .string u, .slice ao n cap] 27)
  have HX0 := hide hx0
  clear hx0
  go_enter Tryz.func7, Tryz.ntmps7
  go_wp2_with fail
  refine (match_any s t _).mono ?_
  rintro e w1 ⟨hm1, ho1⟩
  obtain ⟨a, b, c, rfl⟩ := hm1.tuple
  have hx1 : w1.heap[w.heap.size]? = some (.cells #[.int .i64 1, .int .i64 A, .int .i64 B, .string s, .string t, .string u, .slice ao n cap] 27 (0, 0)) := (ho1.block w.heap.size (by simp) (fun e => e)).trans HX0.out
  have p3 : w1.cell? ⟨w.heap.size, 3, none⟩ = some (.string s) := cell_of hx1 rfl
  have p4 : w1.cell? ⟨w.heap.size, 4, none⟩ = some (.string t) := cell_of hx1 rfl
  have HM1 := hide hm1
  have HO1 : Hid (Only (fun _ => False) w w1) := ((Only.refl _ w).alloc _).trans ho1 (fun _ _ e => e)
  clear hm1 ho1 hx1 HX0
  go_wp2_with fail
  refine (rmatch_any (compiled_all HC.out) s t _).mono ?_
  rintro e w2 ⟨hm2, ho2⟩
  have he := hm2.unique HM1.out
  subst he
  have HO2 : Hid (Only (fun _ => False) w w2) := HO1.out.trans ho2 (fun _ _ e => e)
  clear hm2 ho2 HM1 HO1
  go_wp2_with (go_at_call 10; refine (mnum_any _ _).mono ?_; rintro e w5 ⟨rfl, rfl⟩)
  go_ret
  exact ⟨rfl, HO2.out.below (Nat.le_refl _) (fun _ _ e => e)⟩
end Go.Proofs.YthhiofppbpgipaaGreatDoor
