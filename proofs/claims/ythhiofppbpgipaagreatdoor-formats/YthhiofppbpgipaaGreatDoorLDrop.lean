import Derived.Stop.LaidTwo
namespace Go.Proofs.YthhiofppbpgipaaGreatDoor
open Go
/-- Of a list that is laid the second may be left out. -/
theorem laidMet_drop2 {P : Program} {x y : String × DataW Unit} {r : List (String × DataW Unit)} {W : World} (h : laidMet P (x :: y :: r) W) : laidMet P (x :: r) W := by
  obtain ⟨ps, ⟨g0, t0, cs0, f0, p0, q0, hg0, ht0, hv0, hd0, ⟨g1, t1, cs1, f1, p1, q1, hg1, ht1, hv1, hd1, hr, e1⟩, e0⟩, hnd, hrows⟩ := h
  subst e1
  subst e0
  refine ⟨_, ⟨g0, t0, cs0, f0, p0, q1, hg0, ht0, hv0, hd0, hr, rfl⟩, ?_, fun b off hm => hrows b off ?_⟩
  · exact List.Sublist.nodup (List.Sublist.append (List.Sublist.refl _) (List.sublist_append_right _ _)) hnd
  · exact (List.Sublist.append (List.Sublist.refl _) (List.sublist_append_right _ _)).subset hm
end Go.Proofs.YthhiofppbpgipaaGreatDoor
