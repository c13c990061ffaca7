import Derived.Test.YtdbdbaepmdmnfaaGreatDoorXLift
import Derived.Test.YtdbdbaepmdmnfaaGreatDoorXClos
import Derived.Test.YtdbdbaepmdmnfaaGreatDoorXFac
namespace Go.Proofs.YtdbdbaepmdmnfaaGreatDoor
open Go.ChangeShapes Go.WideShapes Go.ChangeAt Go.RowKit Go.Deep
theorem fields_band {a b : Bool} (h : a = true) (k : b = true) : (a && b) = true := by rw [h, k]; rfl
set_option maxHeartbeats 4000000 in
theorem fields_said : Rows.FieldsSaid := by
  refine OpenClaim.holds_of_cond 6 Tryz.f6 rfl rfl rfl rfl rfl rfl rfl ⟨rfl, rfl, rfl, rfl, rfl⟩ rfl rfl rfl rfl rfl (by as_aux_lemma => kernel_rfl) Tryz.func6 ?jf
    (of_decide_eq_true (by as_aux_lemma => kernel_rfl)) (by unfold Func.isWrapper; first | (rw [if_pos (by decide +kernel)]; kernel_rfl) | (rw [if_neg (by decide +kernel)]; exact ⟨rfl, rfl⟩))
    (fun os started H enc _ F => by rw [OpenClaim.pre_eq_preRow]; exact fields_lifted os started H enc F)
  case jf =>
    unfold joinedFacts
    refine fields_band (fields_band (fields_band (fields_band (fields_band (fields_band (fields_band (fields_band (fields_band (fields_band (fields_band (fields_band (fields_band (fields_band (fields_band (fields_band (fields_band (fields_band (fields_band (fields_band (fields_band (fields_band (fields_band (fields_band (fields_band (fields_band (fields_band (fields_band (fields_band (fields_band (fields_band ?_ m_laidOut) fields_maps) ?_) ?_) ?_) ?_) ?_) ?_) inPlace_6) unfollowed_6) recurses_6) named_6) ?_) ?_) ?_) ?_) ?_) ?_) ?_) ?_) ?_) fields_keys) ?_) fields_heard) fields_enter) fields_lift) fields_make) ?_) ?_) ?_) ?_
    all_goals (as_aux_lemma => kernel_rfl)
end Go.Proofs.YtdbdbaepmdmnfaaGreatDoor
