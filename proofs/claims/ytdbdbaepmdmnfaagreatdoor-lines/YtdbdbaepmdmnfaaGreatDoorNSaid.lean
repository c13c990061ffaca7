import Derived.Test.YtdbdbaepmdmnfaaGreatDoorNLift
import Derived.Test.YtdbdbaepmdmnfaaGreatDoorNClos
import Derived.Test.YtdbdbaepmdmnfaaGreatDoorNFac
namespace Go.Proofs.YtdbdbaepmdmnfaaGreatDoor
open Go.ChangeShapes Go.WideShapes Go.ChangeAt Go.RowKit Go.Deep
theorem lines_band {a b : Bool} (h : a = true) (k : b = true) : (a && b) = true := by rw [h, k]; rfl
set_option maxHeartbeats 4000000 in
theorem lines_said : Rows.LinesSaid := by
  refine OpenClaim.holds_of_cond 5 Tryz.f5 rfl rfl rfl rfl rfl rfl rfl ⟨rfl, rfl, rfl, rfl, rfl⟩ rfl rfl rfl rfl rfl (by as_aux_lemma => kernel_rfl) Tryz.func5 ?jf
    (of_decide_eq_true (by as_aux_lemma => kernel_rfl)) (by unfold Func.isWrapper; first | (rw [if_pos (by decide +kernel)]; kernel_rfl) | (rw [if_neg (by decide +kernel)]; exact ⟨rfl, rfl⟩))
    (fun os started H enc _ F => by rw [OpenClaim.pre_eq_preRow]; exact lines_lifted os started H enc F)
  case jf =>
    unfold joinedFacts
    refine lines_band (lines_band (lines_band (lines_band (lines_band (lines_band (lines_band (lines_band (lines_band (lines_band (lines_band (lines_band (lines_band (lines_band (lines_band (lines_band (lines_band (lines_band (lines_band (lines_band (lines_band (lines_band (lines_band (lines_band (lines_band (lines_band (lines_band (lines_band (lines_band (lines_band (lines_band ?_ m_laidOut) lines_maps) ?_) ?_) ?_) ?_) ?_) ?_) inPlace_5) unfollowed_5) recurses_5) named_5) ?_) ?_) ?_) ?_) ?_) ?_) ?_) ?_) ?_) lines_keys) ?_) lines_heard) lines_enter) lines_lift) lines_make) ?_) ?_) ?_) ?_
    all_goals (as_aux_lemma => kernel_rfl)
end Go.Proofs.YtdbdbaepmdmnfaaGreatDoor
