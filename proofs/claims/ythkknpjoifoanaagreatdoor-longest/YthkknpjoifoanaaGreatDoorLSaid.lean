import Derived.Test.YthkknpjoifoanaaGreatDoorLLift
import Derived.Test.YthkknpjoifoanaaGreatDoorLClos
import Derived.Test.YthkknpjoifoanaaGreatDoorLFac
namespace Go.Proofs.YthkknpjoifoanaaGreatDoor
open Go.ChangeShapes Go.WideShapes Go.ChangeAt Go.RowKit Go.Deep
theorem longest_band {a b : Bool} (h : a = true) (k : b = true) : (a && b) = true := by rw [h, k]; rfl
set_option maxHeartbeats 4000000 in
theorem longest_said : Rows.LongestSaid := by
  refine OpenClaim.holds_of_cond 3 Tryz.f3 rfl rfl rfl rfl rfl rfl rfl ⟨rfl, rfl, rfl, rfl, rfl⟩ rfl rfl rfl rfl rfl (by as_aux_lemma => kernel_rfl) Tryz.func3 ?jf
    (of_decide_eq_true (by as_aux_lemma => kernel_rfl)) (by unfold Func.isWrapper; first | (rw [if_pos (by decide +kernel)]; kernel_rfl) | (rw [if_neg (by decide +kernel)]; exact ⟨rfl, rfl⟩))
    (fun os started H enc _ F => by rw [OpenClaim.pre_eq_preRow]; exact longest_lifted os started H enc F)
  case jf =>
    unfold joinedFacts
    refine longest_band (longest_band (longest_band (longest_band (longest_band (longest_band (longest_band (longest_band (longest_band (longest_band (longest_band (longest_band (longest_band (longest_band (longest_band (longest_band (longest_band (longest_band (longest_band (longest_band (longest_band (longest_band (longest_band (longest_band (longest_band (longest_band (longest_band (longest_band (longest_band (longest_band (longest_band ?_ m_laidOut) longest_maps) ?_) ?_) ?_) ?_) ?_) ?_) inPlace_3) unfollowed_3) recurses_3) named_3) ?_) ?_) ?_) ?_) ?_) ?_) ?_) ?_) ?_) longest_keys) ?_) longest_heard) longest_enter) longest_lift) longest_make) ?_) ?_) ?_) ?_
    all_goals (as_aux_lemma => kernel_rfl)
end Go.Proofs.YthkknpjoifoanaaGreatDoor
