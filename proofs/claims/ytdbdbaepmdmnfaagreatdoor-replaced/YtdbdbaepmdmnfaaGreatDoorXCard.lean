import Derived.Test.YtdbdbaepmdmnfaaGreatDoorXSaid
import Derived.Test.YtdbdbaepmdmnfaaGreatDoorCards
import Derived.Test.YtdbdbaepmdmnfaaGreatDoorMTie
namespace Go.Proofs.YtdbdbaepmdmnfaaGreatDoor
open Go.ChangeShapes Go.WideShapes Go.ChangeAt Go.RowKit Go.Deep
theorem replaced_plain (f : FuncId) (fn : Func) (hf : Tryz.pinned.checked.prog.funcNamed "glean/gleanlaw.Replaced" = some f) (hfn : Tryz.pinned.checked.prog.funcs[f]? = some fn) :
    true = Tryz.pinned.checked.prog.looks [] ∧ ∀ (j : Nat) t, fn.params[j]? = some t → Tryz.pinned.checked.prog.wantsStandIn t = false := by
  obtain rfl : f = 8 := Option.some.inj ((show Tryz.prog.funcNamed "glean/gleanlaw.Replaced" = some 8 by kernel_rfl).symm.trans hf) |>.symm
  obtain rfl : fn = Tryz.f8 := (Option.some.inj (Tryz.func8.symm.trans hfn)).symm
  refine ⟨by kernel_rfl, fun j t ht => ?_⟩
  rw [Tryz.params8] at ht
  obtain rfl : t = 22 := by simpa using Array.mem_of_getElem? ht
  exact (show Tryz.prog.wantsStandIn 22 = false by kernel_rfl)
theorem replaced_goes_none {P : Program} (h : P.funcs.any Func.goes = false) (c : OpenClaim) (hst : c.start = .entering) : false = c.goesBy P := by
  unfold OpenClaim.goesBy Program.goesAt Program.goesFrom
  rw [hst]
  have key : ∀ f, P.goes f = false := fun f => by
    unfold Program.goes
    rw [h]
    simp only [Bool.and_false, Bool.or_false]
    rw [Bool.eq_false_iff]
    intro hh
    simp only [List.any_eq_true] at hh
    obtain ⟨g, _, hg⟩ := hh
    cases hq : P.funcs[g]? with
    | none => rw [hq] at hg; cases hg
    | some fn =>
      rw [hq] at hg
      have hfn : fn.goes = true := hg
      have : P.funcs.any Func.goes = true := Array.any_eq_true'.2 ⟨fn, Array.mem_of_getElem? hq, hfn⟩
      rw [h] at this
      cases this
  cases P.funcNamed c.func with
  | none => rfl
  | some f =>
    show false = (P.goes f || false)
    rw [key f]; rfl
theorem replaced_no_goes : Tryz.pinned.checked.prog.funcs.any Func.goes = false := by kernel_rfl
theorem replaced_row_tie : Rows.replacedRow.laidByTextAt .later Tryz.pinned [.sentinel, .sentinel, .data, .data, .data, .sentinel, .sentinel, .sentinel, .sentinel, .sentinel, .sentinel, .sentinel, .sentinel] true :=
  OpenClaim.laidByTextAt_later rfl rfl m_tie m_noOwnUnsafe
theorem replaced_holds : Rows.ReplacedCardSaid :=
  Claim7.holds_tied_plain_at .later [] _ _ _ _ replaced_said (fun _ h => by cases h) (by as_aux_lemma => kernel_rfl) (fun _ h => by cases h) replaced_row_tie rfl ⟨rfl, rfl⟩ (by as_aux_lemma => kernel_rfl) rfl replaced_plain (replaced_goes_none replaced_no_goes _ rfl)
end Go.Proofs.YtdbdbaepmdmnfaaGreatDoor
