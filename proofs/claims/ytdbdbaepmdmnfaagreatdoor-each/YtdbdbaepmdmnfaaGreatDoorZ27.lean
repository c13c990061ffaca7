import Derived.Test.YtdbdbaepmdmnfaaGreatDoorZ25
namespace Go.Proofs.YtdbdbaepmdmnfaaGreatDoor
open Go.RowKit
set_option maxRecDepth 20000 in
set_option maxHeartbeats 2000000 in
/-- Adding two numbers. -/
theorem reckon_add (p : Option Addr) (ob : Nat) (x y : Nat) (hx : x ≤ 100000) (hy : y ≤ 100000) (s t : ByteArray) (w : World) (ho : w.heap[ob]? = some (.cells #[.func (.func 416) #[] #[]] 511 (0, 0))) : Calls Tryz.prog 455 #[.pointer p, .agg #[.int .i64 1, .int .i64 x, .string s], .agg #[.int .i64 1, .int .i64 y, .string t], .pointer (some ⟨ob, 0, none⟩)] w fun en w' => en = .returned (.agg #[.int .i64 1, .int .i64 ((x : Int) + (y : Int)), .string ⟨#[]⟩]) ∧ Only (fun _ => False) w w' := by
  have c0 : w.cell? ⟨ob, 0, none⟩ = some (.func (.func 416) #[] #[]) := cell_of ho rfl
  have ol := heap_lt ho
  have HP := hide (plus_do x y hx hy)
  have HN := hide (ofNumber ((x + y : Nat) : Int))
  have HX := hide (fun n s W => number_eq 1 n s rfl W)
  have hcf := cf416
  clear ho
  go_enter Tryz.func455, Tryz.ntmps455
  go_upto_region 1 with fail
  have f0 : (((w.alloc (.cells #[.int .i64 1, .int .i64 x, .string s] 203)).alloc (.cells #[.int .i64 1, .int .i64 y, .string t] 203)).alloc (.cells #[.int .i64 0, .int .i64 0, .string ⟨#[]⟩] 203)).cell? ⟨ob, 0, none⟩ = some (.func (.func 416) #[] #[]) := past (past (past c0 _) _) _
  have f0d : (((w.alloc (.cells #[.int .i64 1, .int .i64 x, .string s] 203)).alloc (.cells #[.int .i64 1, .int .i64 y, .string t] 203)).alloc (.cells #[.int .i64 0, .int .i64 0, .string ⟨#[]⟩] 203)).drew.cell? ⟨ob, 0, none⟩ = some (.func (.func 416) #[] #[]) := f0
  have fa : ∀ (W : World) o, W.cell? ⟨ob, 0, none⟩ = some (.func (.func 416) #[] #[]) → (W.alloc o).cell? ⟨ob, 0, none⟩ = some (.func (.func 416) #[] #[]) := fun W o h => past h o
  go_region_with (first | (go_at_call 131; refine (HX.out _ _ _).mono ?_; rintro en w2 ⟨rfl, hw2⟩; subst hw2) | (go_at_call 416; refine (HP.out _).mono ?_; rintro en w' ⟨rfl, h3⟩; subst w') | (go_at_call 95; refine (HN.out _).mono ?_; rintro en w2 ⟨rfl, hw2⟩; subst hw2))
  all_goals
    go_wp2
    refine bodyPost_ret (v := .agg #[.int .i64 1, .int .i64 ((x : Int) + (y : Int)), .string ⟨#[]⟩]) (by simp [results, Tryz.results455, go_sem]) rfl ⟨rfl, ?_⟩
    exact toDrew ((((((onlyA w _).alloc _).alloc _).alloc _).alloc _).alloc _)
end Go.Proofs.YtdbdbaepmdmnfaaGreatDoor

