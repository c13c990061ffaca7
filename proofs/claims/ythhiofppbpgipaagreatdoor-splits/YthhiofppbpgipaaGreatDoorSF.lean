import Derived.Test.YthhiofppbpgipaaGreatDoorSE
import Derived.Test.YthhiofppbpgipaaGreatDoorSClos
import Derived.Test.YthhiofppbpgipaaGreatDoorGO
import Derived.Test.YthhiofppbpgipaaGreatDoorSFac
import Derived.Test.YthhiofppbpgipaaGreatDoorCards
import Derived.Test.YthhiofppbpgipaaGreatDoorMTie
namespace Go.Proofs.YthhiofppbpgipaaGreatDoor
open Go.ChangeShapes Go.WideShapes Go.ChangeAt Go.RowKit Go.Deep
theorem splits_band {a b : Bool} (h : a = true) (k : b = true) : (a && b) = true := by rw [h, k]; rfl
set_option maxHeartbeats 4000000 in
theorem splits_said : Rows.SplitsSaid := by
  refine OpenClaim.holds_of_cond 4 Tryz.f4 rfl rfl rfl rfl rfl rfl rfl ⟨rfl, rfl, rfl, rfl, rfl⟩ rfl rfl rfl rfl rfl (by as_aux_lemma => kernel_rfl) Tryz.func4 ?jf
    (of_decide_eq_true (by as_aux_lemma => kernel_rfl)) (by unfold Func.isWrapper; first | (rw [if_pos (by decide +kernel)]; kernel_rfl) | (rw [if_neg (by decide +kernel)]; exact ⟨rfl, rfl⟩))
    (fun os started H enc _ F => by rw [OpenClaim.pre_eq_preRow]; exact splits_lifted os started H enc F)
  case jf =>
    unfold joinedFacts
    refine splits_band (splits_band (splits_band (splits_band (splits_band (splits_band (splits_band (splits_band (splits_band (splits_band (splits_band (splits_band (splits_band (splits_band (splits_band (splits_band (splits_band (splits_band (splits_band (splits_band (splits_band (splits_band (splits_band (splits_band (splits_band (splits_band (splits_band (splits_band (splits_band (splits_band (splits_band ?_ m_laidOut) l_maps) ?_) ?_) ?_) ?_) ?_) ?_) inPlace_4) unfollowed_4) recurses_4) named_4) ?_) ?_) ?_) ?_) ?_) ?_) ?_) ?_) ?_) ls_keys) ?_) l_heard) l_enter) ls_lift) ls_make) ?_) ?_) ?_) ?_
    all_goals (as_aux_lemma => kernel_rfl)
end Go.Proofs.YthhiofppbpgipaaGreatDoor

namespace Go.Proofs.YthhiofppbpgipaaGreatDoor
open Go.ChangeShapes Go.WideShapes Go.ChangeAt Go.RowKit Go.Deep
theorem splits_plain (f : FuncId) (fn : Func) (hf : Tryz.pinned.checked.prog.funcNamed "glean/gleanlaw.Splits" = some f) (hfn : Tryz.pinned.checked.prog.funcs[f]? = some fn) :
    true = Tryz.pinned.checked.prog.looks [] ∧ ∀ (j : Nat) t, fn.params[j]? = some t → Tryz.pinned.checked.prog.wantsStandIn t = false := by
  obtain rfl : f = 4 := Option.some.inj ((show Tryz.prog.funcNamed "glean/gleanlaw.Splits" = some 4 by kernel_rfl).symm.trans hf) |>.symm
  obtain rfl : fn = Tryz.f4 := (Option.some.inj (Tryz.func4.symm.trans hfn)).symm
  refine ⟨by kernel_rfl, fun j t ht => ?_⟩
  rw [Tryz.params4] at ht
  obtain rfl : t = 22 := by simpa using Array.mem_of_getElem? ht
  exact (show Tryz.prog.wantsStandIn 22 = false by kernel_rfl)
theorem splits_goes_none {P : Program} (h : P.funcs.any Func.goes = false) (c : OpenClaim) (hst : c.start = .entering) : false = c.goesBy P := by
  unfold OpenClaim.goesBy Program.goesAt Program.goesFrom
  rw [hst]
  have key : ∀ f, P.goes f = false := fun f => by
    unfold Program.goes
    rw [h]
    simp only [Bool.and_false, Bool.or_false]
    rw [Bool.eq_false_iff]
    intro hh
    simp only [List.any_eq_true] at hh
    obtain ⟨g, _, hg⟩ := hh
    cases hq : P.funcs[g]? with
    | none => rw [hq] at hg; cases hg
    | some fn =>
      rw [hq] at hg
      have hfn : fn.goes = true := hg
      have : P.funcs.any Func.goes = true := Array.any_eq_true'.2 ⟨fn, Array.mem_of_getElem? hq, hfn⟩
      rw [h] at this
      cases this
  cases P.funcNamed c.func with
  | none => rfl
  | some f =>
    show false = (P.goes f || false)
    rw [key f]; rfl
theorem splits_no_goes : Tryz.pinned.checked.prog.funcs.any Func.goes = false := by kernel_rfl
theorem s_row_tie : Rows.splitsRow.laidByTextAt .later Tryz.pinned [.sentinel, .sentinel, .data, .data, .data, .sentinel, .sentinel, .sentinel, .sentinel, .sentinel, .sentinel, .sentinel, .sentinel] true :=
  OpenClaim.laidByTextAt_later rfl rfl m_tie m_noOwnUnsafe
theorem splits_holds : Rows.SplitsCardSaid :=
  Claim7.holds_tied_plain_at .later [] _ _ _ _ splits_said (fun _ h => by cases h) (by as_aux_lemma => kernel_rfl) (fun _ h => by cases h) s_row_tie rfl ⟨rfl, rfl⟩ (by as_aux_lemma => kernel_rfl) rfl splits_plain (splits_goes_none splits_no_goes _ rfl)
end Go.Proofs.YthhiofppbpgipaaGreatDoor

