import Derived.Test.YtdbdbaepmdmnfaaGreatDoorZ38
namespace Go.Proofs.YtdbdbaepmdmnfaaGreatDoor
open Go.RowKit
/-- The cells of a row of uses. -/
def CellsU (w : World) (g : Nat) (us : List Use) : Prop := ∀ (i : Nat) u, us[i]? = some u → w.cell? ⟨g, i * 3, none⟩ = some (.string u.1) ∧ w.cell? ⟨g, i * 3 + 1, none⟩ = some (.int .i64 u.2.1) ∧ w.cell? ⟨g, i * 3 + 2, none⟩ = some (.int .i64 u.2.2)
theorem CellsU.calm {w w' : World} {g : Nat} {us : List Use} (h : CellsU w g us) (hg : g < w.heap.size) (ho : Only (fun _ => False) w w') : CellsU w' g us := fun i u hu => ⟨(ho.cell (p := ⟨g, i * 3, none⟩) hg (fun e => e)).trans (h i u hu).1, (ho.cell (p := ⟨g, i * 3 + 1, none⟩) hg (fun e => e)).trans (h i u hu).2.1, (ho.cell (p := ⟨g, i * 3 + 2, none⟩) hg (fun e => e)).trans (h i u hu).2.2⟩
set_option maxRecDepth 20000 in
set_option maxHeartbeats 4000000 in
theorem order2_up (g cap : Nat) (us : List Use) (_hn : us.length ≤ 100) (a b : Nat) (u v : Use) (hu : us[a]? = some u) (hv : us[b]? = some v) (huv : u.2.1 < v.2.1) (sp : Addr) (w : World) (hc : CellsU w g us) (_hg : g < w.heap.size) :
    Calls Tryz.prog 363 #[.slice (some ⟨g, 0, none⟩) us.length cap, .int .i64 a, .int .i64 b, .pointer (some sp), .func (.func 116) #[] #[]] w fun en w' => en = .returned (.tuple #[.int .i64 a, .int .i64 b]) ∧ Only (fun _ => False) w w' := by
  have hal := (List.getElem?_eq_some_iff.1 hu).1
  have hbl := (List.getElem?_eq_some_iff.1 hv).1
  have hcf := cf_cmp
  have a0 := (hc a u hu).1
  have a1 := (hc a u hu).2.1
  have a2 := (hc a u hu).2.2
  have b0 := (hc b v hv).1
  have b1 := (hc b v hv).2.1
  have b2 := (hc b v hv).2.2
  have HK := hide (cmp_use v.1 u.1 v.2.1 u.2.1 v.2.2 u.2.2 huv)
  have hai : (a : Int) < (us.length : Int) := by omega
  have hbi : (b : Int) < (us.length : Int) := by omega
  clear hc hu hv huv
  go_enter Tryz.func363, Tryz.ntmps363
  go_wp2_with fail
  have a0d : w.drew.cell? ⟨g, a * 3, none⟩ = some (.string u.1) := a0
  have a1d : w.drew.cell? ⟨g, a * 3 + 1, none⟩ = some (.int .i64 u.2.1) := a1
  have a2d : w.drew.cell? ⟨g, a * 3 + 2, none⟩ = some (.int .i64 u.2.2) := a2
  have b0d : w.drew.cell? ⟨g, b * 3, none⟩ = some (.string v.1) := b0
  have b1d : w.drew.cell? ⟨g, b * 3 + 1, none⟩ = some (.int .i64 v.2.1) := b1
  have b2d : w.drew.cell? ⟨g, b * 3 + 2, none⟩ = some (.int .i64 v.2.2) := b2
  go_region_held3 (fun W => W.cell? ⟨g, a * 3, none⟩ = some (.string u.1) ∧ W.cell? ⟨g, a * 3 + 1, none⟩ = some (.int .i64 u.2.1) ∧ W.cell? ⟨g, a * 3 + 2, none⟩ = some (.int .i64 u.2.2) ∧ W.cell? ⟨g, b * 3, none⟩ = some (.string v.1) ∧ W.cell? ⟨g, b * 3 + 1, none⟩ = some (.int .i64 v.2.1) ∧ W.cell? ⟨g, b * 3 + 2, none⟩ = some (.int .i64 v.2.2)) (first | (refine ⟨?_, ?_, ?_, ?_, ?_, ?_⟩ <;> (with_reducible assumption)))
    (first | (go_at_call 116; refine (HK.out _).mono ?_; rintro en w2 ⟨rfl, ho2⟩; have c0 := keepD ho2 a0; have c1 := keepD ho2 a1; have c2 := keepD ho2 a2; have c3 := keepD ho2 b0; have c4 := keepD ho2 b1; have c5 := keepD ho2 b2; have HO2 := hide ho2; clear ho2))
  all_goals
    go_wp2
    go_ret2
    exact ⟨rfl, fromDrew HO2.out⟩
set_option maxRecDepth 20000 in
set_option maxHeartbeats 4000000 in
theorem median_up (g cap : Nat) (us : List Use) (hn : us.length ≤ 100) (a b c : Nat) (u v x : Use) (hu : us[a]? = some u) (hv : us[b]? = some v) (hx : us[c]? = some x) (huv : u.2.1 < v.2.1) (hvx : v.2.1 < x.2.1) (sp : Addr) (w : World) (hc : CellsU w g us) (hg : g < w.heap.size) :
    Calls Tryz.prog 262 #[.slice (some ⟨g, 0, none⟩) us.length cap, .int .i64 a, .int .i64 b, .int .i64 c, .pointer (some sp), .func (.func 116) #[] #[]] w fun en w' => en = .returned (.int .i64 b) ∧ Only (fun _ => False) w w' := by
  have H1 := hide (fun W (hW : Only (fun _ => False) w W) => order2_up g cap us hn a b u v hu hv huv sp W (hc.calm hg hW) (Nat.lt_of_lt_of_le hg hW.size))
  have H2 := hide (fun W (hW : Only (fun _ => False) w W) => order2_up g cap us hn b c v x hv hx hvx sp W (hc.calm hg hW) (Nat.lt_of_lt_of_le hg hW.size))
  clear hc hu hv hx huv hvx
  go_enter Tryz.func262, Tryz.ntmps262
  go_wp2_with fail
  refine (H1.out w (Only.refl _ _)).mono ?_
  rintro en w1 ⟨rfl, ho1⟩
  have HO1 := hide ho1
  clear ho1
  go_wp2_with fail
  refine (H2.out w1 HO1.out).mono ?_
  rintro en w2 ⟨rfl, ho2⟩
  have HO2 := hide (HO1.out.trans ho2 (fun _ _ e => e))
  clear ho2
  go_wp2_with fail
  refine (H1.out w2 HO2.out).mono ?_
  rintro en w3 ⟨rfl, ho3⟩
  have HO3 := hide (HO2.out.trans ho3 (fun _ _ e => e))
  clear ho3
  go_wp2
  go_ret
  exact ⟨rfl, HO3.out⟩
set_option maxRecDepth 20000 in
set_option maxHeartbeats 4000000 in
theorem pivot15 (g cap : Nat) (us : List Use) (hn : us.length = 15) (hr : ∀ (i j : Nat) u v, us[i]? = some u → us[j]? = some v → i < j → u.2.1 < v.2.1) (w : World) (hc : CellsU w g us) (hg : g < w.heap.size) :
    Calls Tryz.prog 193 #[.slice (some ⟨g, 0, none⟩) 15 cap, .int .i64 0, .int .i64 15, .func (.func 116) #[] #[]] w fun en w' => en = .returned (.tuple #[.int .i64 6, .int .i64 1]) ∧ Only (fun _ => False) w w' := by
  obtain ⟨u, hu⟩ : ∃ u, us[3]? = some u := ⟨_, List.getElem?_eq_getElem (by omega)⟩
  obtain ⟨v, hv⟩ : ∃ v, us[6]? = some v := ⟨_, List.getElem?_eq_getElem (by omega)⟩
  obtain ⟨x, hx⟩ : ∃ x, us[9]? = some x := ⟨_, List.getElem?_eq_getElem (by omega)⟩
  have hM := fun sp W (hW : Only (fun _ => False) w W) => median_up g cap us (by omega) 3 6 9 u v x hu hv hx (hr 3 6 u v hu hv (by omega)) (hr 6 9 v x hv hx (by omega)) sp W (hc.calm hg hW) (Nat.lt_of_lt_of_le hg hW.size)
  rw [hn] at hM
  have HM := hide hM
  clear hM hc hr hu hv hx
  go_enter Tryz.func193, Tryz.ntmps193
  go_wp2_with fail
  refine (HM.out _ _ (onlyA w (.cells #[.int .i64 0] 3))).mono ?_
  rintro en w2 ⟨rfl, ho2⟩
  have hb := (ho2.block w.heap.size (by simp) (fun e => e)).trans (new0 w (.cells #[.int .i64 0] 3))
  have b0 : w2.cell? ⟨w.heap.size, 0, none⟩ = some (.int .i64 0) := cell_of hb rfl
  have HO2 := hide (fromAlloc ho2)
  clear ho2 hb
  go_wp2
  go_ret2
  exact ⟨rfl, HO2.out⟩
set_option maxRecDepth 20000 in
set_option maxHeartbeats 8000000 in
theorem partial15 (g cap : Nat) (us : List Use) (hn : us.length = 15) (hr : ∀ (i j : Nat) u v, us[i]? = some u → us[j]? = some v → i < j → u.2.1 < v.2.1) (w : World) (hc : CellsU w g us) (hg : g < w.heap.size) :
    Calls Tryz.prog 195 #[.slice (some ⟨g, 0, none⟩) 15 cap, .int .i64 0, .int .i64 15, .func (.func 116) #[] #[]] w fun en w' => en = .returned (.bool true) ∧ Only (fun _ => False) w w' := by
  have HR := hide hr
  have HC := hide hc
  have hcf := cf_cmp
  clear hr hc
  go_enter Tryz.func195, Tryz.ntmps195
  go_wp2
  go_loop [9, 10] (fun s9 s10 => s9 = .int .i64 1 ∧ s10 = .int .i64 0) (fun _ _ => 0)
  case atStart => exact ⟨rfl, rfl⟩
  case round =>
    obtain ⟨rfl, rfl⟩ := hrel
    go_wp2_with fail
    go_loopw [9] (fun s wr => ∃ m : Nat, s = .int .i64 (m : Int) ∧ 1 ≤ m ∧ m ≤ 15 ∧ Only (fun _ => False) w wr) (fun s _ => 15 - (intOf s).toNat)
    case atStart => exact ⟨1, rfl, Nat.le_refl _, by omega, Only.refl _ _⟩
    case round =>
      obtain ⟨m, rfl, hm1, hm2, ho⟩ := hrel
      by_cases hlt : m < 15
      · obtain ⟨u, hu⟩ : ∃ u, us[m - 1]? = some u := ⟨_, List.getElem?_eq_getElem (by omega)⟩
        obtain ⟨v, hv⟩ : ∃ v, us[m]? = some v := ⟨_, List.getElem?_eq_getElem (by omega)⟩
        have hcm := HR.out (m - 1) m u v hu hv (by omega)
        have hcw := HC.out.calm hg ho
        have a0 := (hcw (m - 1) u hu).1
        have a1 := (hcw (m - 1) u hu).2.1
        have a2 := (hcw (m - 1) u hu).2.2
        have b0 := (hcw m v hv).1
        have b1 := (hcw m v hv).2.1
        have b2 := (hcw m v hv).2.2
        have HK := hide (cmp_use v.1 u.1 v.2.1 u.2.1 v.2.2 u.2.2 hcm)
        have HO := hide ho
        have hw1 : IntKind.i64.wrap ((m : Int) - 1) = (m : Int) - 1 := IntWalk.i64_in _ ⟨by omega, by omega⟩
        have hp0 : (0 : Int) ≤ (m : Int) - 1 := by omega
        have hp1 : (m : Int) - 1 < (15 : Int) := by omega
        have hki : (m : Int) < (15 : Int) := by omega
        have hk0 : 0 < m := by omega
        have hk9 : m - 1 < 15 := by omega
        have hk13 : (1 : Int) ≤ (m : Int) := by omega
        have hk1 : (0 : Int) < (m : Int) := by omega
        clear ho hcw hcm hu hv
        go_wp2_with fail
        have a0d : wr.drew.cell? ⟨g, (m - 1) * 3, none⟩ = some (.string u.1) := a0
        have a1d : wr.drew.cell? ⟨g, (m - 1) * 3 + 1, none⟩ = some (.int .i64 u.2.1) := a1
        have a2d : wr.drew.cell? ⟨g, (m - 1) * 3 + 2, none⟩ = some (.int .i64 u.2.2) := a2
        have b0d : wr.drew.cell? ⟨g, m * 3, none⟩ = some (.string v.1) := b0
        have b1d : wr.drew.cell? ⟨g, m * 3 + 1, none⟩ = some (.int .i64 v.2.1) := b1
        have b2d : wr.drew.cell? ⟨g, m * 3 + 2, none⟩ = some (.int .i64 v.2.2) := b2
        go_region_held3 (fun W => W.cell? ⟨g, (m - 1) * 3, none⟩ = some (.string u.1) ∧ W.cell? ⟨g, (m - 1) * 3 + 1, none⟩ = some (.int .i64 u.2.1) ∧ W.cell? ⟨g, (m - 1) * 3 + 2, none⟩ = some (.int .i64 u.2.2) ∧ W.cell? ⟨g, m * 3, none⟩ = some (.string v.1) ∧ W.cell? ⟨g, m * 3 + 1, none⟩ = some (.int .i64 v.2.1) ∧ W.cell? ⟨g, m * 3 + 2, none⟩ = some (.int .i64 v.2.2)) (first | (refine ⟨?_, ?_, ?_, ?_, ?_, ?_⟩ <;> (with_reducible assumption)))
          (first | (go_at_call 116; refine (HK.out _).mono ?_; rintro en w2 ⟨rfl, ho2⟩; have c0 := keepD ho2 a0; have c1 := keepD ho2 a1; have c2 := keepD ho2 a2; have c3 := keepD ho2 b0; have c4 := keepD ho2 b1; have c5 := keepD ho2 b2; have HO2 := hide ho2; clear ho2))
        all_goals
          go_wp2_with fail
          refine ⟨⟨m + 1, by go_num, by omega, by omega, HO.out.trans (fromDrew HO2.out) (fun _ _ e => e)⟩, ?_⟩
          simp [intOf]
          omega
      · obtain rfl : m = 15 := by omega
        have HO := hide ho
        clear ho
        have hki : ¬ ((15 : Nat) : Int) < (15 : Int) := by omega
        have hkj : (((15 : Nat) : Int) == (15 : Int)) = true := by decide
        go_wp2
        go_region
        all_goals
          go_wp2
          go_ret
          exact ⟨rfl, toDrew HO.out⟩
end Go.Proofs.YtdbdbaepmdmnfaaGreatDoor

namespace Go.Proofs.YtdbdbaepmdmnfaaGreatDoor
open Go.RowKit
set_option maxRecDepth 20000 in
set_option maxHeartbeats 4000000 in
theorem len_15 (w : World) : Calls Tryz.prog 147 #[.int .u64 15] w fun en w' => en = .returned (.int .i64 4) ∧ w' = w := by
  go_enter Tryz.func147, Tryz.ntmps147
  go_wp2
  go_ret
  exact ⟨by kernel_rfl, rfl⟩
set_option maxRecDepth 20000 in
set_option maxHeartbeats 4000000 in
theorem pdq15 (g cap : Nat) (us : List Use) (hn : us.length = 15) (hr : ∀ (i j : Nat) u v, us[i]? = some u → us[j]? = some v → i < j → u.2.1 < v.2.1) (w : World) (hc : CellsU w g us) (hg : g < w.heap.size) :
    Calls Tryz.prog 146 #[.slice (some ⟨g, 0, none⟩) 15 cap, .int .i64 0, .int .i64 15, .int .i64 4, .func (.func 116) #[] #[]] w fun en w' => en = .returned (.tuple #[]) ∧ Only (fun _ => False) w w' := by
  have HP := hide (pivot15 g cap us hn hr w hc hg)
  have HI := hide (fun W (hW : Only (fun _ => False) w W) => partial15 g cap us hn hr W (hc.calm hg hW) (Nat.lt_of_lt_of_le hg hW.size))
  clear hc hr
  go_enter Tryz.func146, Tryz.ntmps146
  go_wp2
  go_loop [1, 2, 3, 10, 11] (fun s1 s2 s3 s10 s11 => s1 = .int .i64 0 ∧ s2 = .int .i64 15 ∧ s3 = .int .i64 4 ∧ s10 = .bool true ∧ s11 = .bool true) (fun _ _ _ _ _ => 0)
  case atStart => exact ⟨rfl, rfl, rfl, rfl, rfl⟩
  case round =>
    obtain ⟨rfl, rfl, rfl, rfl, rfl⟩ := hrel
    go_wp2_with fail
    refine (HP.out).mono ?_
    rintro en w2 ⟨rfl, h3⟩
    have H3 := hide h3
    clear h3
    go_wp2_with fail
    refine (HI.out _ H3.out).mono ?_
    rintro en w3 ⟨rfl, h4⟩
    have H4 := hide (H3.out.trans h4 (fun _ _ e => e))
    clear h4
    go_wp2
    refine bodyPost_ret (results_none rfl _ _ _) rfl ?_
    exact ⟨rfl, H4.out⟩
set_option maxRecDepth 20000 in
set_option maxHeartbeats 4000000 in
theorem sort15 (g cap : Nat) (us : List Use) (hn : us.length = 15) (hr : ∀ (i j : Nat) u v, us[i]? = some u → us[j]? = some v → i < j → u.2.1 < v.2.1) (w : World) (hc : CellsU w g us) (hg : g < w.heap.size) :
    Calls Tryz.prog 115 #[.slice (some ⟨g, 0, none⟩) 15 cap, .func (.func 116) #[] #[]] w fun en w' => en = .returned (.tuple #[]) ∧ Only (fun _ => False) w w' := by
  have HL := hide len_15
  have HP := hide (pdq15 g cap us hn hr w hc hg)
  clear hc hr
  go_enter Tryz.func115, Tryz.ntmps115
  go_wp2_with (first | (go_at_call 147; refine (HL.out _).mono ?_; rintro en w' ⟨rfl, rfl⟩) | (go_at_call 146; refine (HP.out).mono ?_; rintro en w2 ⟨rfl, h3⟩; have H3 := hide h3; clear h3))
  go_end0
  exact ⟨rfl, H3.out⟩
end Go.Proofs.YtdbdbaepmdmnfaaGreatDoor

