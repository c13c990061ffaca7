import Derived.Test.YtdbdbaepmdmnfaaGreatDoorXLift
import Derived.Test.YtdbdbaepmdmnfaaGreatDoorXClos
import Derived.Test.YtdbdbaepmdmnfaaGreatDoorXFac
namespace Go.Proofs.YtdbdbaepmdmnfaaGreatDoor
open Go.ChangeShapes Go.WideShapes Go.ChangeAt Go.RowKit Go.Deep
theorem replaced_band {a b : Bool} (h : a = true) (k : b = true) : (a && b) = true := by rw [h, k]; rfl
set_option maxHeartbeats 4000000 in
theorem replaced_said : Rows.ReplacedSaid := by
  refine OpenClaim.holds_of_cond 8 Tryz.f8 rfl rfl rfl rfl rfl rfl rfl ⟨rfl, rfl, rfl, rfl, rfl⟩ rfl rfl rfl rfl rfl (by as_aux_lemma => kernel_rfl) Tryz.func8 ?jf
    (of_decide_eq_true (by as_aux_lemma => kernel_rfl)) (by unfold Func.isWrapper; first | (rw [if_pos (by decide +kernel)]; kernel_rfl) | (rw [if_neg (by decide +kernel)]; exact ⟨rfl, rfl⟩))
    (fun os started H enc _ F => by rw [OpenClaim.pre_eq_preRow]; exact replaced_lifted os started H enc F)
  case jf =>
    unfold joinedFacts
    refine replaced_band (replaced_band (replaced_band (replaced_band (replaced_band (replaced_band (replaced_band (replaced_band (replaced_band (replaced_band (replaced_band (replaced_band (replaced_band (replaced_band (replaced_band (replaced_band (replaced_band (replaced_band (replaced_band (replaced_band (replaced_band (replaced_band (replaced_band (replaced_band (replaced_band (replaced_band (replaced_band (replaced_band (replaced_band (replaced_band (replaced_band ?_ m_laidOut) replaced_maps) ?_) ?_) ?_) ?_) ?_) ?_) inPlace_8) unfollowed_8) recurses_8) named_8) ?_) ?_) ?_) ?_) ?_) ?_) ?_) ?_) ?_) replaced_keys) ?_) replaced_heard) replaced_enter) replaced_lift) replaced_make) ?_) ?_) ?_) ?_
    all_goals (as_aux_lemma => kernel_rfl)
end Go.Proofs.YtdbdbaepmdmnfaaGreatDoor
