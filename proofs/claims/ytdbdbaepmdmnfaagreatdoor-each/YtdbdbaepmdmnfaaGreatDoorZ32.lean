import Derived.Test.YtdbdbaepmdmnfaaGreatDoorZ31
namespace Go.Proofs.YtdbdbaepmdmnfaaGreatDoor
open Go.RowKit
theorem fld436b (F G : Nat) (a b c d : Value) (w : World) : (Instr.field 436 (.agg #[.func (.func F) #[] #[a, b], .func (.func G) #[] #[c, d]]) 1).run Tryz.prog w = .ok (.func (.func G) #[] #[c, d]) w := by kernel_rfl
set_option maxRecDepth 20000 in
set_option maxHeartbeats 4000000 in
/-- A loop over the keys of the array. -/
theorem does_keys (p : Pl8) (U X : Nat → St8) (k B : Nat) (hk : k < 10) (hk1 : k ≠ 1) (K : Nat → World → Value → Prop) (hKF : ∀ z, K B p.wN z → ∃ F cc, z = .func (.func F) #[] cc) (v : Value) (h : InK k K B p.wN v) (A : AL) (hUA : (U 0).A = A) (hA : A.length ≤ 100) (hU : ∀ i, i < A.length → U i = (X i).more) (hf : ∀ i, i < A.length → (X i).fuel ≤ 100000) (hc : ∀ i, i < A.length → ∃ x0 x1 x2, (X i).cs[k * 3]? = some x0 ∧ (X i).cs[k * 3 + 1]? = some x1 ∧ (X i).cs[k * 3 + 2]? = some x2)
    (hb : ∀ i z s, i < A.length → K B p.wN z → (sortedKeys A)[i]? = some s → Does p { X i with cs := setVar (X i).cs k 2 0 (ofB s) } (U (i + 1)) z) : Does p (U 0) (U A.length) v := by
  obtain ⟨ab, kq, bb, x, y, z, z2, rfl, _, hab, hkq, hbb, ⟨nb, ez, _, hnb⟩, hV, hK2⟩ := h
  obtain rfl : z = .func (.func 371) #[] #[.pointer (some ⟨nb, 0, none⟩)] := by injection ez with ez; have := congrArg (fun a => a[0]?) ez; simpa using this
  refine ⟨278, [.pointer (some ⟨ab, 0, none⟩), .pointer (some ⟨kq, 0, none⟩), .pointer (some ⟨bb, 0, none⟩)], rfl, cf278, fun w h => ?_⟩
  obtain ⟨FB, cb, rfl⟩ := hKF z2 hK2
  have hsl : (sortedKeys A).length = A.length := by simp [sortedKeys, List.length_mergeSort]
  have hcf := cf371
  have haw := (h.O.block ab (heap_lt hab) (fun e => e)).trans hab
  have hnw := (h.O.block nb (heap_lt hnb) (fun e => e)).trans hnb
  have a0 : w.cell? ⟨ab, 0, none⟩ = some (.func (.func 371) #[] #[.pointer (some ⟨nb, 0, none⟩)]) := cell_of haw rfl
  have al := heap_lt haw
  obtain ⟨po, pn, pc, hM⟩ := h.M
  have m0 : w.cell? ⟨p.m, 0, none⟩ = some (.pointer (some ⟨p.ab, 0, none⟩)) := cell_of hM rfl
  have ml := heap_lt hM
  have HAr := hide (fun W (hW : Only (fun _ => False) w W) => arr_do (some ⟨p.m, 0, none⟩) nb 0 W ((hW.block nb (heap_lt hnw) (fun e => e)).trans hnw))
  have HKe : Hid (∀ W, Only (fun _ => False) w W → Calls Tryz.prog 279 #[.pointer (some ⟨p.ab, 0, none⟩), .int .i64 0] W fun en w' => ∃ po c', en = .returned (.slice po A.length c') ∧ RowK p (sortedKeys A) po w' ∧ Only (fun _ => False) W w') := hide (fun W hW => by
    have hq := h.calm hW
    obtain ⟨kv, hR⟩ := hq.R
    rw [hUA] at hR
    by_cases h0 : 0 < A.length
    · refine (keys_some _ _ _ _ kv A hA h0 W hR).mono ?_
      rintro en w' ⟨g, c', e, hr, ho⟩
      exact ⟨_, _, e, RowK.of (pc := c') hq ho (by rw [hsl]; exact hr), ho⟩
    · obtain rfl : A = [] := List.eq_nil_of_length_eq_zero (by omega)
      have hkv : kv = .slice none 0 0 := hR.z rfl
      rw [hkv] at hR
      refine (keys_none _ _ _ _ W hR).mono ?_
      rintro en w' ⟨e, rfl⟩
      exact ⟨none, 0, e, fun h => absurd h (by rw [hsl]; simp), Only.refl _ _⟩)
  have HH := hide h
  have d0 : w.drew.cell? ⟨p.m, 0, none⟩ = some (.pointer (some ⟨p.ab, 0, none⟩)) := m0
  have d1 : w.drew.cell? ⟨ab, 0, none⟩ = some (.func (.func 371) #[] #[.pointer (some ⟨nb, 0, none⟩)]) := a0
  clear h haw hnw hM
  go_enter Tryz.func278, Tryz.ntmps278
  go_upto_region 1 with fail
  go_region_held3 (fun W => W.cell? ⟨p.m, 0, none⟩ = some (.pointer (some ⟨p.ab, 0, none⟩)) ∧ W.cell? ⟨ab, 0, none⟩ = some (.func (.func 371) #[] #[.pointer (some ⟨nb, 0, none⟩)])) (repeat (first | (with_reducible assumption) | (with_reducible refine And.intro ?_ ?_)))
    (first | (go_at_call 371; refine (HAr.out _ (toDrew (Only.refl _ w))).mono ?_; rintro en w' ⟨rfl, h3⟩; subst w') | (go_at_call 279; refine (HKe.out _ (toDrew (Only.refl _ w))).mono ?_; rintro en w2 ⟨po2, c2, rfl, hrw, ho2⟩; have hO2 := (toDrew (Only.refl (fun _ => False) w)).trans ho2 (fun _ _ e => e); have x2 := (hO2.cell (p := ⟨p.m, 0, none⟩) ml (fun e => e)).trans m0; have y2 := (hO2.cell (p := ⟨ab, 0, none⟩) al (fun e => e)).trans a0; have HO2 := hide hO2; have HRw := hide hrw; clear ho2 hO2 hrw))
  go_wp2
  have HKw := hide (Kept.of (p := p) HO2.out)
  have HQ2 := hide (HH.out.calm HO2.out)
  have HKq := hide hkq
  have HBb := hide hbb
  have HVk := hide hV
  have HBd := hide hb
  have HUi := hide hU
  have HKz := hide hK2
  have hfl := fld436b
  clear x2 y2 d0 d1 a0 m0 HAr HKe hkq hbb hV hb hU hK2 hab hnb
  go_loopg [20] A.length (fun gh s20 wr => ∃ i : Nat, i ≤ A.length ∧ gh = A.length - i ∧ s20 = .int .i64 i ∧ On8 p (U i) wr ∧ Kept p w wr ∧ RowK p (sortedKeys A) po2 wr)
  case atStart => exact ⟨0, Nat.zero_le _, rfl, rfl, HQ2.out, HKw.out, HRw.out⟩
  case round =>
    obtain ⟨i, hi, hgh, rfl, hq, hkw, hrw⟩ := hrel
    by_cases hlt : i < A.length
    · obtain ⟨s, hs⟩ : ∃ s, (sortedKeys A)[i]? = some s := ⟨_, List.getElem?_eq_getElem (by omega)⟩
      obtain ⟨g, cur, rfl, hg, hn, hcu⟩ := hrw (by omega)
      have g0 : wr.cell? ⟨g, i, none⟩ = some (.string (ofB s)) := cell_of hg (hcu i s hs)
      have gl := heap_lt hg
      have hki : (i : Int) < (A.length : Int) := by omega
      have hk0 : (0 : Int) ≤ (i : Int) := by omega
      have hk15 : (i : Int) ≤ 100 := by omega
      have hwr : IntKind.i64.wrap ((i : Int) + 1) = (i : Int) + 1 := by rw [IntKind.wrap_i64]; omega
      obtain ⟨x0, x1, x2, c0, c1, c2⟩ := hc i hlt
      obtain ⟨F1, caps1, hy, hcf1, hFi⟩ := finds_var p (X i) k B x y HVk.out
      obtain ⟨hcf3, hSt⟩ := stores_var p (X i) k hk hk1 2 0 (ofB s) x0 x1 x2 c0 c1 c2
      unfold Enters at hcf1 hcf3
      have HS := hide (step_on p (X i) (hf i hlt) wr (HUi.out i hlt ▸ hq))
      have HFi := hide hFi
      have HSt := hide hSt
      have HTu := hide (fun W hW => turn_on p _ _ _ (HBd.out i _ s hlt HKz.out hs) W hW)
      have HOt := hide (ofText (ofB s))
      have HQ := hide hq
      have HK := hide hkw
      have HRr := hide hrw
      have HG := hide hgh
      have HKq2 := HKq
      rw [hy] at HKq2
      clear hq hkw hrw hgh hg hn hcu hs hFi hSt c0 c1 c2
      go_wp2_with fail
      refine (HS.out).mono ?_
      rintro en w3 ⟨rfl, hq3, hk3⟩
      have hkq3 := (hq3.O.block kq (heap_lt HKq2.out) (fun e => e)).trans HKq2.out
      have e3 : w3.cell? ⟨kq, 1, none⟩ = some (.func (.func F1) #[] caps1.toArray) := cell_of hkq3 rfl
      have l3 := heap_lt hkq3
      have HQ3 := hide hq3
      have HK3 := hide hk3
      clear hq3 hk3 hkq3 HS g0 gl
      go_wp2_with fail
      refine (HFi.out w3 HQ3.out).mono ?_
      rintro en w4 ⟨tk, st, rfl, ⟨b2, nb4, rfl, rfl, hb2, hb4⟩, ho4⟩
      have HQ4 := hide (HQ3.out.calm ho4)
      have HK4 := hide (HK3.out.trans (Kept.of ho4))
      have H2 := hide hb2
      have H4 := hide hb4
      clear hb2 hb4 ho4 HFi e3 l3
      go_wp2_with (first | (go_at_call 96; refine (HOt.out _).mono ?_; rintro en w' ⟨rfl, h3⟩; subst h3))
      refine (HSt.out _ b2 nb4 (HQ4.out.calm (onlyA w4 _)) ((Below.heap_alloc _ _ _ (heap_lt H2.out)).trans H2.out) ((Below.heap_alloc _ _ _ (heap_lt H4.out)).trans H4.out)).mono ?_
      rintro en w5 ⟨rfl, hq5, hk5⟩
      have hbb5 := (hq5.O.block bb (heap_lt HBb.out) (fun e => e)).trans HBb.out
      have e5 : w5.cell? ⟨bb, 0, none⟩ = some (.func (.func FB) #[] cb) := cell_of hbb5 rfl
      have l5 := heap_lt hbb5
      have HQ5 := hide hq5
      have HK5 := hide ((HK4.out.trans (Kept.of (onlyA w4 _))).trans hk5)
      clear hq5 hk5 hbb5 HSt H2 H4
      go_wp2_with (first | (go_at_call 276; refine (HTu.out _ HQ5.out).mono ?_; rintro en w6 ⟨rfl, hq6, hk6⟩; have HQ6 := hide hq6; have HK6 := hide (HK5.out.trans hk6); clear hq6 hk6))
      go_roundg (A.length - (i + 1))
      case measure => rw [HG.out]; omega
      case rel => exact ⟨i + 1, by omega, rfl, by go_num, HQ6.out, HK.out.trans HK6.out, HRr.out.kept HQ.out HK6.out⟩
    · obtain rfl : i = A.length := by omega
      have hki : ¬ ((A.length : Int) < (A.length : Int)) := by omega
      have HQ := hide hq
      have HK := hide hkw
      clear hq hkw hrw hgh
      go_wp2
      go_ret
      exact ⟨rfl, HQ.out, HK.out⟩
end Go.Proofs.YtdbdbaepmdmnfaaGreatDoor

