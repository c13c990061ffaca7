import Derived.Test.YtdbdbaepmdmnfaaGreatDoorXLift
import Derived.Test.YtdbdbaepmdmnfaaGreatDoorXClos
import Derived.Test.YtdbdbaepmdmnfaaGreatDoorXFac
namespace Go.Proofs.YtdbdbaepmdmnfaaGreatDoor
open Go.ChangeShapes Go.WideShapes Go.ChangeAt Go.RowKit Go.Deep
theorem each_band {a b : Bool} (h : a = true) (k : b = true) : (a && b) = true := by rw [h, k]; rfl
set_option maxHeartbeats 4000000 in
theorem each_said : Rows.EachSaid := by
  refine OpenClaim.holds_of_cond 7 Tryz.f7 rfl rfl rfl rfl rfl rfl rfl ⟨rfl, rfl, rfl, rfl, rfl⟩ rfl rfl rfl rfl rfl (by as_aux_lemma => kernel_rfl) Tryz.func7 ?jf
    (of_decide_eq_true (by as_aux_lemma => kernel_rfl)) (by unfold Func.isWrapper; first | (rw [if_pos (by decide +kernel)]; kernel_rfl) | (rw [if_neg (by decide +kernel)]; exact ⟨rfl, rfl⟩))
    (fun os started H enc _ F => by rw [OpenClaim.pre_eq_preRow]; exact each_lifted os started H enc F)
  case jf =>
    unfold joinedFacts
    refine each_band (each_band (each_band (each_band (each_band (each_band (each_band (each_band (each_band (each_band (each_band (each_band (each_band (each_band (each_band (each_band (each_band (each_band (each_band (each_band (each_band (each_band (each_band (each_band (each_band (each_band (each_band (each_band (each_band (each_band (each_band ?_ m_laidOut) each_maps) ?_) ?_) ?_) ?_) ?_) ?_) inPlace_7) unfollowed_7) recurses_7) named_7) ?_) ?_) ?_) ?_) ?_) ?_) ?_) ?_) ?_) each_keys) ?_) each_heard) each_enter) each_lift) each_make) ?_) ?_) ?_) ?_
    all_goals (as_aux_lemma => kernel_rfl)
end Go.Proofs.YtdbdbaepmdmnfaaGreatDoor
