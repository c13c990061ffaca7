import Derived.Test.YtdbdbaepmdmnfaaGreatDoorZ22
namespace Go.Proofs.YtdbdbaepmdmnfaaGreatDoor
open Go.RowKit
set_option maxRecDepth 20000 in
set_option maxHeartbeats 2000000 in
theorem applies_none (g : Nat) (po p : Option Addr) (cap : Nat) (w : World) (h : w.cell? ⟨g, 0, none⟩ = some (.slice po 0 cap)) :
    Calls Tryz.prog 133 #[.pointer (some ⟨g, 0, none⟩), .pointer p] w fun en w' => en = .returned (.bool true) ∧ w' = w := by
  go_enter Tryz.func133, Tryz.ntmps133
  go_wp2
  go_ret
  exact ⟨rfl, rfl⟩
set_option maxRecDepth 20000 in
set_option maxHeartbeats 4000000 in
theorem doRules_one (p m g cr F : Nat) (po : Option Addr) (cap : Nat) (hcf : ∀ (args : Array Value) (w : World), (callFunc F args).run Tryz.prog w = .ok (.enter F args) w) (caps : List Value) (Q : World → Prop) (w : World)
    (hp : w.cell? ⟨p, 1, none⟩ = some (.slice (some ⟨g, 0, none⟩) 1 cr)) (h0 : w.cell? ⟨g, 0, none⟩ = some (.slice po 0 cap)) (h2 : w.cell? ⟨g, 2, none⟩ = some (.func (.func F) #[] caps.toArray))
    (H : Calls Tryz.prog F (.pointer (some ⟨m, 0, none⟩) :: caps).toArray w fun en w' => en = .returned (.int .i64 0) ∧ Q w') :
    Calls Tryz.prog 101 #[.pointer (some ⟨p, 0, none⟩), .pointer (some ⟨m, 0, none⟩)] w fun en w' => en = .returned (.tuple #[]) ∧ Q w' := by
  have HA := hide (applies_none g po (some ⟨m, 0, none⟩) cap w h0)
  have H1 := hide H
  clear H
  go_enter Tryz.func101, Tryz.ntmps101
  go_wp2
  go_loopg [11] 1 (fun gh s wr => (gh = 1 ∧ s = .int .i64 0 ∧ wr = w) ∨ (gh = 0 ∧ s = .int .i64 1 ∧ Q wr))
  case atStart => exact Or.inl ⟨rfl, rfl, rfl⟩
  case round =>
    rcases hrel with ⟨hgh, rfl, hw⟩ | ⟨hgh, rfl, hq⟩
    · subst wr
      go_wp2_with (go_at_call 133; refine (HA.out).mono ?_; rintro en w' ⟨rfl, h3⟩; subst w')
      refine (H1.out).mono ?_
      rintro en w2 ⟨rfl, h3⟩
      have H3 := hide h3
      clear h3 H1 HA
      go_wp2
      go_roundg 0
      case measure => omega
      case rel => exact Or.inr ⟨rfl, rfl, H3.out⟩
    · go_wp2
      go_end0
      exact ⟨rfl, hq⟩
end Go.Proofs.YtdbdbaepmdmnfaaGreatDoor

namespace Go.Proofs.YtdbdbaepmdmnfaaGreatDoor
open Go.RowKit
set_option maxRecDepth 20000 in
set_option maxHeartbeats 2000000 in
theorem run2_do (mc pc m p : Nat) (w : World) (h0 : w.cell? ⟨mc, 0, none⟩ = some (.pointer (some ⟨m, 0, none⟩))) (h1 : w.cell? ⟨pc, 0, none⟩ = some (.pointer (some ⟨p, 0, none⟩))) (h2 : w.cell? ⟨p, 2, none⟩ = some (.slice none 0 0)) :
    Calls Tryz.prog 65 #[.pointer (some ⟨mc, 0, none⟩), .pointer (some ⟨pc, 0, none⟩)] w fun en w' => en = .returned (.tuple #[]) ∧ w' = w.drew := by
  have HD := hide (doAll_nil (some ⟨m, 0, none⟩))
  go_enter Tryz.func65, Tryz.ntmps65
  go_wp2
  go_region_with (go_at_call 63; refine (HD.out _).mono ?_; rintro en w' ⟨rfl, h3⟩; subst h3)
  all_goals
    go_wp2
    go_end0
    exact ⟨rfl, rfl⟩
end Go.Proofs.YtdbdbaepmdmnfaaGreatDoor

