import Derived.Test.YtdbdbaepmdmnfaaGreatDoorZ38
import Derived.Test.YtdbdbaepmdmnfaaGreatDoorZ10
import Derived.Deep.RegionHeld3
namespace Go.Proofs.YtdbdbaepmdmnfaaGreatDoor
open Go.RowKit
set_option maxRecDepth 20000 in
set_option maxHeartbeats 4000000 in
theorem cmp_int (x y : Int) (h : y < x) (w : World) : Calls Tryz.prog 117 #[.int .i64 x, .int .i64 y] w fun en w' => en = .returned (.int .i64 1) ∧ w' = w := by
  have h1 : ¬ x < y := by omega
  go_enter Tryz.func117, Tryz.ntmps117
  go_wp2
  go_ret
  exact ⟨rfl, rfl⟩
set_option maxRecDepth 20000 in
set_option maxHeartbeats 4000000 in
theorem cmp_use (x y : ByteArray) (a b i j : Nat) (h : b < a) (w : World) : Calls Tryz.prog 116 #[.agg #[.string x, .int .i64 a, .int .i64 i], .agg #[.string y, .int .i64 b, .int .i64 j]] w fun en w' => en = .returned (.int .i64 1) ∧ Only (fun _ => False) w w' := by
  have HC := hide (cmp_int a b (by omega))
  go_enter Tryz.func116, Tryz.ntmps116
  go_wp2_with (go_at_call 117; refine (HC.out _).mono ?_; rintro en w' ⟨rfl, h3⟩; subst w')
  go_ret
  exact ⟨rfl, (onlyA _ _).alloc _⟩
theorem keepD {w w' : World} (ho : Only (fun _ => False) w.drew w') {p : Addr} {v : Value} (h : w.cell? p = some v) : w'.cell? p = some v := (ho.cell (p := p) (World.block_lt_of_cell? w p h) (fun e => e)).trans h
theorem cf_cmp (args : Array Value) (w : World) : (callFunc 116 args).run Tryz.prog w = .ok (.enter 116 args) w := callFunc_in Tryz.func116 (by kernel_rfl) rfl args w
/-- The uses stand in the order of their places. -/
def Rising (us : List Use) : Prop := ∀ (i : Nat) u v, us[i]? = some u → us[i + 1]? = some v → u.2.1 < v.2.1
set_option maxRecDepth 20000 in
set_option maxHeartbeats 8000000 in
theorem insert_rising (g cap : Nat) (us : List Use) (hn : us.length ≤ 12) (hr : Rising us) (w : World) (hc : ∀ (i : Nat) u, us[i]? = some u → w.cell? ⟨g, i * 3, none⟩ = some (.string u.1) ∧ w.cell? ⟨g, i * 3 + 1, none⟩ = some (.int .i64 u.2.1) ∧ w.cell? ⟨g, i * 3 + 2, none⟩ = some (.int .i64 u.2.2)) (hg : g < w.heap.size) :
    Calls Tryz.prog 190 #[.slice (some ⟨g, 0, none⟩) us.length cap, .int .i64 0, .int .i64 us.length, .func (.func 116) #[] #[]] w fun en w' => en = .returned (.tuple #[]) ∧ Only (fun _ => False) w w' := by
  have HR := hide hr
  have HC := hide hc
  have hcf := cf_cmp
  clear hr hc
  go_enter Tryz.func190, Tryz.ntmps190
  go_wp2
  go_loopw [8] (fun s wr => ∃ m : Nat, s = .int .i64 (m : Int) ∧ 1 ≤ m ∧ m ≤ us.length + 1 ∧ Only (fun _ => False) w wr) (fun s _ => us.length - (intOf s).toNat)
  case atStart => exact ⟨1, rfl, Nat.le_refl _, by omega, Only.refl _ _⟩
  case round =>
    obtain ⟨m, rfl, hm1, hk, ho⟩ := hrel
    by_cases hlt : m < us.length
    · obtain ⟨k, rfl⟩ : ∃ k, m = k + 1 := ⟨m - 1, by omega⟩
      obtain ⟨u, hu⟩ : ∃ u, us[k]? = some u := ⟨_, List.getElem?_eq_getElem (by omega)⟩
      obtain ⟨v, hv⟩ : ∃ v, us[k + 1]? = some v := ⟨_, List.getElem?_eq_getElem hlt⟩
      have hcm := HR.out k u v hu hv
      have keep : ∀ (o : Nat) x, w.cell? ⟨g, o, none⟩ = some x → wr.cell? ⟨g, o, none⟩ = some x := fun o x h => (ho.cell (p := ⟨g, o, none⟩) hg (fun e => e)).trans h
      have a0 := keep _ _ (HC.out k u hu).1
      have a1 := keep _ _ (HC.out k u hu).2.1
      have a2 := keep _ _ (HC.out k u hu).2.2
      have b0 := keep _ _ (HC.out (k + 1) v hv).1
      have b1 := keep _ _ (HC.out (k + 1) v hv).2.1
      have b2 := keep _ _ (HC.out (k + 1) v hv).2.2
      have HK := hide (cmp_use v.1 u.1 v.2.1 u.2.1 v.2.2 u.2.2 hcm)
      have HO := hide ho
      have hq : (k + 1) - 1 = k := by omega
      rw [← hq] at a0 a1 a2
      generalize hmm : k + 1 = m at *
      have hw1 : IntKind.i64.wrap ((m : Int) - 1) = (m : Int) - 1 := IntWalk.i64_in _ ⟨by omega, by omega⟩
      have hp0 : (0 : Int) ≤ (m : Int) - 1 := by omega
      have hp1 : (m : Int) - 1 < (us.length : Int) := by omega
      have hki : (m : Int) < (us.length : Int) := by omega
      have hk0 : 0 < m := by omega
      have hk9 : m - 1 < us.length := by omega
      have hk10 : m ≤ us.length := by omega
      have hk11 : (m : Int) ≤ (us.length : Int) := by omega
      have hk12 : 1 ≤ m := by omega
      have hk13 : (1 : Int) ≤ (m : Int) := by omega
      have hk1 : (0 : Int) < (m : Int) := by omega
      clear ho keep hcm hu hv hq hmm
      go_wp2_with fail
      go_loop [9] (fun s => s = .int .i64 (m : Int)) (fun _ => 0)
      case atStart => exact rfl
      case round =>
        subst hrel
        go_wp2_with fail
        have a0d : wr.drew.cell? ⟨g, (m - 1) * 3, none⟩ = some (.string u.1) := a0
        have a1d : wr.drew.cell? ⟨g, (m - 1) * 3 + 1, none⟩ = some (.int .i64 u.2.1) := a1
        have a2d : wr.drew.cell? ⟨g, (m - 1) * 3 + 2, none⟩ = some (.int .i64 u.2.2) := a2
        have b0d : wr.drew.cell? ⟨g, m * 3, none⟩ = some (.string v.1) := b0
        have b1d : wr.drew.cell? ⟨g, m * 3 + 1, none⟩ = some (.int .i64 v.2.1) := b1
        have b2d : wr.drew.cell? ⟨g, m * 3 + 2, none⟩ = some (.int .i64 v.2.2) := b2
        go_region_held3 (fun W => W.cell? ⟨g, (m - 1) * 3, none⟩ = some (.string u.1) ∧ W.cell? ⟨g, (m - 1) * 3 + 1, none⟩ = some (.int .i64 u.2.1) ∧ W.cell? ⟨g, (m - 1) * 3 + 2, none⟩ = some (.int .i64 u.2.2) ∧ W.cell? ⟨g, m * 3, none⟩ = some (.string v.1) ∧ W.cell? ⟨g, m * 3 + 1, none⟩ = some (.int .i64 v.2.1) ∧ W.cell? ⟨g, m * 3 + 2, none⟩ = some (.int .i64 v.2.2)) (first | (refine ⟨?_, ?_, ?_, ?_, ?_, ?_⟩ <;> (with_reducible assumption)))
          (first | (go_at_call 116; refine (HK.out _).mono ?_; rintro en w2 ⟨rfl, ho2⟩; have c0 := keepD ho2 a0; have c1 := keepD ho2 a1; have c2 := keepD ho2 a2; have c3 := keepD ho2 b0; have c4 := keepD ho2 b1; have c5 := keepD ho2 b2; have HO2 := hide ho2; clear ho2))
        all_goals
          go_wp2_with fail
          refine ⟨⟨m + 1, by go_num, by omega, by omega, HO.out.trans (fromDrew HO2.out) (fun _ _ e => e)⟩, ?_⟩
          simp [intOf]
          omega
    · have hki : ¬ (m : Int) < (us.length : Int) := by omega
      have HO := hide ho
      clear ho
      go_wp2
      go_end0
      exact ⟨rfl, HO.out⟩
end Go.Proofs.YtdbdbaepmdmnfaaGreatDoor

namespace Go.Proofs.YtdbdbaepmdmnfaaGreatDoor
open Go.RowKit
set_option maxRecDepth 20000 in
set_option maxHeartbeats 4000000 in
theorem len_7 (w : World) : Calls Tryz.prog 147 #[.int .u64 7] w fun en w' => (∃ l, en = .returned (.int .i64 l)) ∧ w' = w := by
  go_enter Tryz.func147, Tryz.ntmps147
  go_wp2
  go_ret
  exact ⟨⟨_, rfl⟩, rfl⟩
set_option maxRecDepth 20000 in
set_option maxHeartbeats 4000000 in
theorem pdq_rising (g cap : Nat) (us : List Use) (hn : us.length = 7) (hr : Rising us) (l : Int) (w : World) (hc : ∀ (i : Nat) u, us[i]? = some u → w.cell? ⟨g, i * 3, none⟩ = some (.string u.1) ∧ w.cell? ⟨g, i * 3 + 1, none⟩ = some (.int .i64 u.2.1) ∧ w.cell? ⟨g, i * 3 + 2, none⟩ = some (.int .i64 u.2.2)) (hg : g < w.heap.size) :
    Calls Tryz.prog 146 #[.slice (some ⟨g, 0, none⟩) 7 cap, .int .i64 0, .int .i64 7, .int .i64 l, .func (.func 116) #[] #[]] w fun en w' => en = .returned (.tuple #[]) ∧ Only (fun _ => False) w w' := by
  have hI := insert_rising g cap us (by omega) hr w hc hg
  rw [hn] at hI
  have HI : Hid (Calls Tryz.prog 190 #[.slice (some ⟨g, 0, none⟩) 7 cap, .int .i64 0, .int .i64 7, .func (.func 116) #[] #[]] w fun en w' => en = .returned (.tuple #[]) ∧ Only (fun _ => False) w w') := hide hI
  clear hI hc hr
  go_enter Tryz.func146, Tryz.ntmps146
  go_wp2
  go_loop [1, 2] (fun s1 s2 => s1 = .int .i64 0 ∧ s2 = .int .i64 7) (fun _ _ => 0)
  case atStart => exact ⟨rfl, rfl⟩
  case round =>
    obtain ⟨rfl, rfl⟩ := hrel
    go_wp2_with (go_at_call 190; refine (HI.out).mono ?_; rintro en w2 ⟨rfl, h3⟩; have H3 := hide h3; clear h3)
    refine bodyPost_ret (results_none rfl _ _ _) rfl ?_
    exact ⟨rfl, H3.out⟩
set_option maxRecDepth 20000 in
set_option maxHeartbeats 4000000 in
theorem sort_rising (g cap : Nat) (us : List Use) (hn : us.length = 7) (hr : Rising us) (w : World) (hc : ∀ (i : Nat) u, us[i]? = some u → w.cell? ⟨g, i * 3, none⟩ = some (.string u.1) ∧ w.cell? ⟨g, i * 3 + 1, none⟩ = some (.int .i64 u.2.1) ∧ w.cell? ⟨g, i * 3 + 2, none⟩ = some (.int .i64 u.2.2)) (hg : g < w.heap.size) :
    Calls Tryz.prog 115 #[.slice (some ⟨g, 0, none⟩) 7 cap, .func (.func 116) #[] #[]] w fun en w' => en = .returned (.tuple #[]) ∧ Only (fun _ => False) w w' := by
  have HL := hide len_7
  have HP := hide (fun l => pdq_rising g cap us hn hr l w hc hg)
  clear hc hr
  go_enter Tryz.func115, Tryz.ntmps115
  go_wp2_with (first | (go_at_call 147; refine (HL.out _).mono ?_; rintro en w' ⟨⟨l, rfl⟩, rfl⟩) | (go_at_call 146; refine (HP.out _).mono ?_; rintro en w2 ⟨rfl, h3⟩; have H3 := hide h3; clear h3))
  go_end0
  exact ⟨rfl, H3.out⟩
end Go.Proofs.YtdbdbaepmdmnfaaGreatDoor

