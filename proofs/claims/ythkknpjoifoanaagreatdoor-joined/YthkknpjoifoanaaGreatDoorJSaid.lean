import Derived.Test.YthkknpjoifoanaaGreatDoorJLift
import Derived.Test.YthkknpjoifoanaaGreatDoorJClos
import Derived.Test.YthkknpjoifoanaaGreatDoorJFac
namespace Go.Proofs.YthkknpjoifoanaaGreatDoor
open Go.ChangeShapes Go.WideShapes Go.ChangeAt Go.RowKit Go.Deep
theorem joined_band {a b : Bool} (h : a = true) (k : b = true) : (a && b) = true := by rw [h, k]; rfl
set_option maxHeartbeats 4000000 in
theorem joined_said : Rows.JoinedSaid := by
  refine OpenClaim.holds_of_cond 4 Tryz.f4 rfl rfl rfl rfl rfl rfl rfl ⟨rfl, rfl, rfl, rfl, rfl⟩ rfl rfl rfl rfl rfl (by as_aux_lemma => kernel_rfl) Tryz.func4 ?jf
    (of_decide_eq_true (by as_aux_lemma => kernel_rfl)) (by unfold Func.isWrapper; first | (rw [if_pos (by decide +kernel)]; kernel_rfl) | (rw [if_neg (by decide +kernel)]; exact ⟨rfl, rfl⟩))
    (fun os started H enc _ F => by rw [OpenClaim.pre_eq_preRow]; exact joined_lifted os started H enc F)
  case jf =>
    unfold joinedFacts
    refine joined_band (joined_band (joined_band (joined_band (joined_band (joined_band (joined_band (joined_band (joined_band (joined_band (joined_band (joined_band (joined_band (joined_band (joined_band (joined_band (joined_band (joined_band (joined_band (joined_band (joined_band (joined_band (joined_band (joined_band (joined_band (joined_band (joined_band (joined_band (joined_band (joined_band (joined_band ?_ m_laidOut) joined_maps) ?_) ?_) ?_) ?_) ?_) ?_) inPlace_4) unfollowed_4) recurses_4) named_4) ?_) ?_) ?_) ?_) ?_) ?_) ?_) ?_) ?_) joined_keys) ?_) joined_heard) joined_enter) joined_lift) joined_make) ?_) ?_) ?_) ?_
    all_goals (as_aux_lemma => kernel_rfl)
end Go.Proofs.YthkknpjoifoanaaGreatDoor
