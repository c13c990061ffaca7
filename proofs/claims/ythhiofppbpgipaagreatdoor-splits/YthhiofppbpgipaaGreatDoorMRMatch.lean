import Derived.Test.YthhiofppbpgipaaGreatDoorGM
import Derived.Test.YthhiofppbpgipaaGreatDoorGJ
namespace Go.Proofs.YthhiofppbpgipaaGreatDoor
open Go.RowKit
/-- What the reference's reading of a pattern is to answer. -/
def CompiledOK : Prop := ∀ (s : ByteArray) (w : World), s.size ≤ 500 → Calls Tryz.prog 25 #[.string s] w fun e w' => Only (fun _ => False) w w' ∧
  (wholeP s.data.toList = none → e = .returned (.tuple #[.agg #[.slice none 0 0, .int .i64 0], .bool false])) ∧
  ∀ R, wholeP s.data.toList = some R → ∃ (v : Value) (top : Nat) (P : List Pc) (d : Nat), e = .returned (.tuple #[.agg #[v, .int .i64 top], .bool true]) ∧ PcAt w' v P ∧ P.length ≤ 1000000 ∧ PcIs P d top R
set_option maxHeartbeats 4000000 in
theorem rmatch_any (hC : CompiledOK) (p t : ByteArray) (w : World) : Calls Tryz.prog 9 #[.string p, .string t] w fun e w' => MatchIs p t e ∧ Only (fun _ => False) w w' := by
  have HCo := hide hC
  clear hC
  by_cases h1 : 500 < p.size
  · have hi : (500 : Int) < (p.size : Int) := by omega
    go_enter Tryz.func9, Tryz.ntmps9
    go_wp2
    go_ret3
    exact ⟨⟨fun _ => rfl, fun h => absurd (Or.inl h1) h⟩, Only.refl _ _⟩
  · have hi1 : ¬ (500 : Int) < (p.size : Int) := by omega
    by_cases h2 : 500 < t.size
    · have hi : (500 : Int) < (t.size : Int) := by omega
      go_enter Tryz.func9, Tryz.ntmps9
      go_wp2
      go_ret3
      exact ⟨⟨fun _ => rfl, fun h => absurd (Or.inr h2) h⟩, Only.refl _ _⟩
    · have hi2 : ¬ (500 : Int) < (t.size : Int) := by omega
      have HL : Hid (¬ (500 < p.size ∨ 500 < t.size)) := fun h => by omega
      go_enter Tryz.func9, Tryz.ntmps9
      go_wp2_with fail
      refine (HCo.out p w (by omega)).mono ?_
      rintro e w1 ⟨ho1, hno, hyes⟩
      have HO1 := hide ho1
      cases hc : wholeP p.data.toList with
      | none =>
        have HC := hide hc
        obtain rfl := hno hc
        clear hno hyes hc ho1
        go_wp2
        go_ret3
        exact ⟨⟨fun h => absurd h HL.out, fun _ => ⟨fun _ => rfl, fun R h => by rw [HC.out] at h; cases h⟩⟩, HO1.out.alloc _⟩
      | some R =>
        have HC := hide hc
        obtain ⟨v, top, P, d, rfl, hP, hPl, hk⟩ := hyes R hc
        obtain ⟨po, cap, rfl⟩ : ∃ po cap, v = .slice po P.length cap := by obtain ⟨xs, h2, _⟩ := hP; exact ownsRow_slice h2
        have HP := hide hP
        have HK := hide hk
        clear hno hyes hc ho1 hP hk
        go_wp2_with fail
        refine (rfind_any d P top R HK.out _ t 0 (Nat.zero_le _) hPl (by omega) _ (HP.out.only (D := fun _ => False) ((Only.refl _ w1).alloc _) (fun _ _ e => e))).mono ?_
        rintro e w2 ⟨best, rfl, hf, ho2⟩
        have HF := hide hf
        have HO2 : Hid (Only (fun _ => False) w w2) := (HO1.out.alloc _).trans ho2 (fun _ _ e => e)
        clear ho2
        cases best with
        | none =>
          clear hf
          unfold begI endI
          go_wp2
          go_ret3
          exact ⟨⟨fun h => absurd h HL.out, fun _ => ⟨fun h => (by rw [HC.out] at h; cases h), fun R' h => (by rw [HC.out] at h; cases h; exact ⟨none, HF.out, rfl⟩)⟩⟩, HO2.out⟩
        | some x =>
          obtain ⟨B, l⟩ := x
          have hBl := (hf.1 B l rfl).2.1
          rw [len_eq] at hBl
          have he : ((B + l : Nat) : Int) - (B : Int) = (l : Int) := by omega
          clear hf
          unfold begI endI
          simp only
          go_wp2
          go_ret3
          exact ⟨⟨fun h => absurd h HL.out, fun _ => ⟨fun h => (by rw [HC.out] at h; cases h), fun R' h => (by rw [HC.out] at h; cases h; exact ⟨some (B, l), HF.out, by simp [bBeg, bLen]; omega⟩)⟩⟩, HO2.out⟩
end Go.Proofs.YthhiofppbpgipaaGreatDoor
