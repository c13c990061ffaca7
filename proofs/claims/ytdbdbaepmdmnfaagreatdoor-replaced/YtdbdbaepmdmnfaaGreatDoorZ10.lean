import Derived.Test.YtdbdbaepmdmnfaaGreatDoorZ09
namespace Go.Proofs.YtdbdbaepmdmnfaaGreatDoor
open Go.RowKit
theorem altP_none {sub : Nat → Option (Pat × Nat)} {l : List UInt8} {n i : Nat} {acc : List Pat} (h : rowP sub l (l.length + 1) i [] = none) : altP sub l (n + 1) i acc = none := by
  conv => lhs; unfold altP
  rw [h]
theorem altP_more {sub : Nat → Option (Pat × Nat)} {l : List UInt8} {n i j : Nat} {acc : List Pat} {R : Pat} (h : rowP sub l (l.length + 1) i [] = some (R, j)) (hb : hasB l j 124 = true) : altP sub l (n + 1) i acc = altP sub l n (j + 1) (acc ++ [R]) := by
  conv => lhs; unfold altP
  rw [h]
  simp only
  rw [hb]; rfl
theorem altP_end {sub : Nat → Option (Pat × Nat)} {l : List UInt8} {n i j : Nat} {acc : List Pat} {R : Pat} (h : rowP sub l (l.length + 1) i [] = some (R, j)) (hb : hasB l j 124 = false) : altP sub l (n + 1) i acc = some (altR (acc ++ [R]), j) := by
  conv => lhs; unfold altP
  rw [h]
  simp only
  rw [hb]; rfl
set_option maxHeartbeats 4000000 in
theorem choice_step (f : Nat) (hf : ChoiceOK f) (b : Nat) (s : ByteArray) (hs : s.size ≤ maxLen) (h6 : s.size ≤ 65536) (i : Nat) (hi : i ≤ s.size) (hfl : s.size - i < f + 1) (w : World) (h : RdB w b s i) :
    Calls Tryz.prog 83 #[.pointer (some ⟨b, 0, none⟩)] w (NodePost b s i w (altP (choiceP s.data.toList f) s.data.toList (s.data.toList.length + 1) i [])) := by
  have hbl := heap_lt h
  have hml : s.size ≤ 9223372036854775807 := hs
  have hbw : b ≠ w.heap.size := by omega
  have hbp : b ≠ w.heap.size + 1 := by omega
  have hn : ∀ o, w.heap.size < w.heap.size → (fun k => k = b) (Addr.block ⟨w.heap.size, o, none⟩) := fun _ h => absurd h (Nat.lt_irrefl _)
  obtain ⟨i0, hi0, hz0, hz1, hz2⟩ := info_parts info133
  obtain ⟨Res, HRes⟩ : ∃ Res, Hid (altP (choiceP s.data.toList f) s.data.toList (s.data.toList.length + 1) i [] = Res) := ⟨_, rfl⟩
  rw [HRes.out]
  have HR0 : ∀ o1 o2, Hid (RdB ((w.alloc o1).alloc o2) b s i) := fun o1 o2 => (h.alloc' o1).alloc' o2
  have HF := hide hf
  have hlen : s.data.toList.length = s.size := len_eq s
  clear h hf
  go_enter Tryz.func83, Tryz.ntmps83
  go_wp2_with fail
  go_loopw [6] (fun _ wr => ∃ (j m : Nat) (acc : List Pat) (d : Nat) (xs : List Value) (po : Option Addr) (cap : Nat), j ≤ s.size ∧ i ≤ j ∧ s.size - j < m ∧ acc.length ≤ j ∧ altP (choiceP s.data.toList f) s.data.toList m j acc = Res ∧ RdB wr b s j ∧ wr.heap[w.heap.size]? = some (.cells (nodeAg 0 (fun _ => 0) none 0 0) 118 (0, 0)) ∧ wr.heap[w.heap.size + 1]? = some (.cells (nodeAg 4 (fun _ => 0) po acc.length cap) 118 (0, 0)) ∧ PartsOf d (j - i - acc.length) xs wr (w.heap.size + 2) (.slice po acc.length cap) acc ∧ acc.length ≤ j - i ∧ Only (fun k => k = b) w wr) (fun _ wr => s.size - posOf wr b)
  case atStart => exact ⟨i, _, [], 0, [], none, 0, hi, Nat.le_refl _, by rw [len_eq]; omega, Nat.zero_le _, HRes.out, (HR0 _ _).out, (Below.heap_alloc _ _ _ (by simp)).trans (new0 w _), newb1 w _ _, PartsOf.nil _ _ _, Nat.zero_le _, ((Only.refl _ w).alloc _).alloc _⟩
  case round =>
    clear HR0 HRes
    obtain ⟨j, m, acc, d, xs, po, cap, hj, hij, hm, haj, hres, hr, hq, hp, hpt, hai, ho⟩ := hrel
    obtain ⟨m, rfl⟩ : ∃ m', m = m' + 1 := ⟨m - 1, by omega⟩
    have HRd := hide hr
    have HPt := hide hpt
    have HO := hide ho
    have HQ := hide hq
    have HP := hide hp
    have HPos := hide (pos_of hr)
    have hpl := heap_lt hp
    have Hres := hide hres
    clear hres hr hq hp hpt ho
    go_wp2_with fail
    refine (row_any f HF.out b s hs h6 j hj (by omega) _ HRd.out).mono ?_
    rintro e w1 ⟨ho1, kd, ys, qo, nn, cp, rfl, hden⟩
    have HO1 : Hid (Only (fun k => k = b) wr w1) := ho1
    have hsz1 : wr.heap.size ≤ w1.heap.size := HO1.out.size
    have hq := (HO1.out.block w.heap.size (by omega) (Ne.symm hbw)).trans HQ.out
    have hp := (HO1.out.block (w.heap.size + 1) hpl (by omega)).trans HP.out
    have HPt1 := hide (HPt.out.only HO1.out (fun k hk _ e => by omega))
    have HD := hide hden
    clear ho1 hden
    have z0 : w1.cell? ⟨w.heap.size, 0, none⟩ = some (.int .i64 0) := cell_of hq rfl
    have z1 : w1.cell? ⟨w.heap.size, 1, none⟩ = some (.int .u64 0) := cell_of hq rfl
    have z2 : w1.cell? ⟨w.heap.size, 2, none⟩ = some (.int .u64 0) := cell_of hq rfl
    have z3 : w1.cell? ⟨w.heap.size, 3, none⟩ = some (.int .u64 0) := cell_of hq rfl
    have z4 : w1.cell? ⟨w.heap.size, 4, none⟩ = some (.int .u64 0) := cell_of hq rfl
    have z5 : w1.cell? ⟨w.heap.size, 5, none⟩ = some (.slice none 0 0) := cell_of hq rfl
    have y0 := free_of hq 0
    have y1 := free_of hq 1
    have y2 := free_of hq 2
    have y3 := free_of hq 3
    have y4 := free_of hq 4
    have y5 := free_of hq 5
    have x0 : w1.cell? ⟨w.heap.size + 1, 0, none⟩ = some (.int .i64 4) := cell_of hp rfl
    have x1 : w1.cell? ⟨w.heap.size + 1, 1, none⟩ = some (.int .u64 0) := cell_of hp rfl
    have x2 : w1.cell? ⟨w.heap.size + 1, 2, none⟩ = some (.int .u64 0) := cell_of hp rfl
    have x3 : w1.cell? ⟨w.heap.size + 1, 3, none⟩ = some (.int .u64 0) := cell_of hp rfl
    have x4 : w1.cell? ⟨w.heap.size + 1, 4, none⟩ = some (.int .u64 0) := cell_of hp rfl
    have x5 : w1.cell? ⟨w.heap.size + 1, 5, none⟩ = some (.slice po acc.length cap) := cell_of hp rfl
    have v5 := free_of hp 5
    have HQ1 := hide hq
    have HP1 := hide hp
    have hsq1 := heap_lt hq
    have hsp1 := heap_lt hp
    clear hq hp
    unfold nodeAg
    cases hc : rowP (choiceP s.data.toList f) s.data.toList (s.data.toList.length + 1) j [] with
    | none =>
      have HU : Hid (Res = none) := by
        have := Hres.out
        rw [altP_none hc] at this
        exact this.symm
      clear hc Hres
      simp only [Option.isSome_none]
      go_wp2
      refine bodyPost_ret (v := .tuple #[.agg (nodeAg 0 (fun _ => 0) none 0 0), .bool false]) (by simp [results, Tryz.results83, go_sem, nodeAg, z0, z1, z2, z3, z4, z5, hsq1]) rfl ⟨?_, 0, fun _ => 0, none, 0, 0, ?_, ?_⟩
      · exact (((((((HO.out.trans HO1.out (fun k _ e => e)).setCell (p := ⟨w.heap.size, 0, none⟩) (hn 0) _).setCell (p := ⟨w.heap.size, 1, none⟩) (hn 1) _).setCell (p := ⟨w.heap.size, 2, none⟩) (hn 2) _).setCell (p := ⟨w.heap.size, 3, none⟩) (hn 3) _).setCell (p := ⟨w.heap.size, 4, none⟩) (hn 4) _).setCell (p := ⟨w.heap.size, 5, none⟩) (hn 5) _).alloc _
      · rw [HU.out]; rfl
      · intro R j h
        rw [HU.out] at h
        cases h
    | some p =>
      obtain ⟨R1, j1⟩ := p
      have hpg := rowP_prog (choice_prog _ f) hc (by rw [len_eq]; exact hj)
      rw [len_eq] at hpg
      have hjj : j < j1 := hpg.2.2 rfl
      have hj1 : j1 ≤ s.size := hpg.2.1
      obtain ⟨hr1, d1, hd1⟩ := HD.out R1 j1 hc
      have HC := hide hc
      have HR1 := hide hr1
      have HD1 : Hid (Den d1 (j1 - j) w1 (fun g => wr.heap.size ≤ g) (nodeCs kd ys qo nn cp) R1) := hd1
      have HPt2 : ∀ A B, Hid (PartsOf d (j - i - acc.length) xs ((w1.alloc A).alloc B) (w.heap.size + 2) (.slice po acc.length cap) acc) := fun A B => HPt1.out.only (((Only.refl (fun _ => False) w1).alloc A).alloc B) (fun _ _ _ e => e)
      have HD2 : ∀ A B, Hid (Den d1 (j1 - j) ((w1.alloc A).alloc B) (fun g => wr.heap.size ≤ g) (nodeCs kd ys qo nn cp) R1) := fun A B => HD1.out.only (((Only.refl (fun _ => False) w1).alloc A).alloc B) (fun _ _ e => e)
      clear hc hr1 hd1 HD hpg
      simp only [Option.isSome_some]
      go_wp2_with (at_builtin; refine wpList_append_sep _ rfl (.tmp 17) (.tmp 19) 116 rfl (w.heap.size + 2) 118 i0 (.agg (nodeAg 0 (fun _ => 0) none 0 0)) 6 64 Tryz.underlying116 hi0 hz0 hz1 hz2 rfl (by decide) _ _ xs rfl (HPt2 _ _).out.1 ⟨w1.heap.size + 1, 0, none⟩ 1 1 (nodeCs kd ys qo nn cp) rfl rfl ?c1 ?c2 (by decide) ?c3 ?c4 ?c5 ?_)
      case c1 => exact nodeAt_ok (newb1 w1 _ _)
      case c2 => exact nodeCs_ok _ _ _ _ _
      case c3 => unfold maxLen; omega
      case c4 => omega
      case c5 => simp; omega
      intro v' w2 hown' hgrow hmv
      obtain ⟨po', cap', rfl⟩ := ownsRow_slice hown'
      have hob : ∀ k, (Value.slice po acc.length cap).ownBlock = some k → w.heap.size + 2 ≤ k ∧ k < wr.heap.size := fun k hk => by
        have := HPt.out.1.lt k hk
        omega
      have hlg : (acc ++ [R1]).length = acc.length + 1 := by simp
      have HPt3 : Hid (PartsOf (max d d1) (j1 - i - acc.length) (xs ++ nodeCs kd ys qo nn cp) w2 (w.heap.size + 2) (.slice po' (acc.length + 1) cap') (acc ++ [R1])) := ((HPt2 _ _).out.push (fun k hk => (hob k hk).2) (by omega) (HD2 _ _).out hown' hgrow hmv).more (by omega)
      have hne : ∀ k, k < w.heap.size + 2 → some k ≠ (Value.slice po acc.length cap).ownBlock := fun k hk e => by have := hob k e.symm; omega
      have hp2 := (hgrow.block (w.heap.size + 1) (by simp; omega) (hne _ (by omega))).trans ((Below.heap_alloc _ _ _ (by simp; omega)).trans ((Below.heap_alloc _ _ _ (by omega)).trans HP1.out))
      have hq2 := (hgrow.block w.heap.size (by simp; omega) (hne _ (by omega))).trans ((Below.heap_alloc _ _ _ (by simp; omega)).trans ((Below.heap_alloc _ _ _ (by omega)).trans HQ1.out))
      have HR2 : Hid (RdB w2 b s j1) := ((HR1.out.alloc' _).alloc' _).grown hgrow (hne b (by omega))
      have HO2 : Hid (Only (fun k => k = b) w w2) := (((HO.out.trans HO1.out (fun k _ e => e)).alloc _).alloc _).grown hgrow (fun k hk hl => by have := hob k hk; omega)
      have HP2 := hide hp2
      have HQ2 := hide hq2
      have HLg := hide hlg
      have hpl2 := heap_lt hp2
      have hql2 := heap_lt hq2
      clear z0 z1 z2 z3 z4 z5 y0 y1 y2 y3 y4 y5 x0 x1 x2 x3 x4 x5 v5
      have z0 : w2.cell? ⟨w.heap.size, 0, none⟩ = some (.int .i64 0) := cell_of hq2 rfl
      have z1 : w2.cell? ⟨w.heap.size, 1, none⟩ = some (.int .u64 0) := cell_of hq2 rfl
      have z2 : w2.cell? ⟨w.heap.size, 2, none⟩ = some (.int .u64 0) := cell_of hq2 rfl
      have z3 : w2.cell? ⟨w.heap.size, 3, none⟩ = some (.int .u64 0) := cell_of hq2 rfl
      have z4 : w2.cell? ⟨w.heap.size, 4, none⟩ = some (.int .u64 0) := cell_of hq2 rfl
      have z5 : w2.cell? ⟨w.heap.size, 5, none⟩ = some (.slice none 0 0) := cell_of hq2 rfl
      have y0 := free_of hq2 0
      have y1 := free_of hq2 1
      have y2 := free_of hq2 2
      have y3 := free_of hq2 3
      have y4 := free_of hq2 4
      have y5 := free_of hq2 5
      have x0 : w2.cell? ⟨w.heap.size + 1, 0, none⟩ = some (.int .i64 4) := cell_of hp2 rfl
      have x1 : w2.cell? ⟨w.heap.size + 1, 1, none⟩ = some (.int .u64 0) := cell_of hp2 rfl
      have x2 : w2.cell? ⟨w.heap.size + 1, 2, none⟩ = some (.int .u64 0) := cell_of hp2 rfl
      have x3 : w2.cell? ⟨w.heap.size + 1, 3, none⟩ = some (.int .u64 0) := cell_of hp2 rfl
      have x4 : w2.cell? ⟨w.heap.size + 1, 4, none⟩ = some (.int .u64 0) := cell_of hp2 rfl
      have x5 : w2.cell? ⟨w.heap.size + 1, 5, none⟩ = some (.slice po acc.length cap) := cell_of hp2 rfl
      have v5 := free_of hp2 5
      have c1 : w2.cell? ⟨b, 1, none⟩ = some (.int .i64 j1) := HR2.out.at.2
      have f1 : w2.frozen? ⟨b, 1, none⟩ = false := HR2.out.free 1
      clear hp2 hq2 hgrow hmv hown' hob hne hlg HPt2 HD2
      have HR3 : Hid (RdB (w2.setCell ⟨w.heap.size + 1, 5, none⟩ (.slice po' (acc.length + 1) cap')) b s j1) := HR2.out.setNe (p := ⟨w.heap.size + 1, 5, none⟩) hbp _
      have HO3 : Hid (Only (fun k => k = b) w (w2.setCell ⟨w.heap.size + 1, 5, none⟩ (.slice po' (acc.length + 1) cap'))) := HO2.out.setCell (p := ⟨w.heap.size + 1, 5, none⟩) (fun h => absurd h (by show ¬ w.heap.size + 1 < w.heap.size; omega)) _
      have HPt4 : Hid (PartsOf (max d d1) (j1 - i - acc.length) (xs ++ nodeCs kd ys qo nn cp) (w2.setCell ⟨w.heap.size + 1, 5, none⟩ (.slice po' (acc.length + 1) cap')) (w.heap.size + 2) (.slice po' (acc.length + 1) cap') (acc ++ [R1])) := HPt3.out.only ((Only.refl (fun k => k = w.heap.size + 1) w2).setCell (p := ⟨w.heap.size + 1, 5, none⟩) (fun _ => rfl) _) (fun k hk _ e => by omega)
      cases hb : hasB s.data.toList j1 124
      · have HRs : Hid (Res = some (altR (acc ++ [R1]), j1)) := by
          have := Hres.out
          rw [altP_end HC.out hb] at this
          exact this.symm
        have HB := hide hb
        clear hb Hres
        go_wp2_with (go_at_call 122; refine (sees_is b 0 s j1 hj1 124 false HB.out _ HR3.out.at).mono ?_; rintro e w' ⟨rfl, n3, rfl⟩)
        refine bodyPost_ret (v := .tuple #[.agg (nodeAg 4 (fun _ => 0) po' (acc.length + 1) cap'), .bool true]) (by simp [results, Tryz.results83, go_sem, nodeAg, z0, z1, z2, z3, z4, z5]) rfl ⟨(((((((HO3.out.drewN _).setCell (p := ⟨w.heap.size, 0, none⟩) (hn 0) _).setCell (p := ⟨w.heap.size, 1, none⟩) (hn 1) _).setCell (p := ⟨w.heap.size, 2, none⟩) (hn 2) _).setCell (p := ⟨w.heap.size, 3, none⟩) (hn 3) _).setCell (p := ⟨w.heap.size, 4, none⟩) (hn 4) _).setCell (p := ⟨w.heap.size, 5, none⟩) (hn 5) _), 4, fun _ => 0, po', acc.length + 1, cap', ?_, ?_⟩
        · rw [HRs.out]; rfl
        · intro R j2 h
          rw [HRs.out] at h
          cases h
          refine ⟨(((((((HR3.out.drewN _).setNe (p := ⟨w.heap.size, 0, none⟩) hbw _).setNe (p := ⟨w.heap.size, 1, none⟩) hbw _).setNe (p := ⟨w.heap.size, 2, none⟩) hbw _).setNe (p := ⟨w.heap.size, 3, none⟩) hbw _).setNe (p := ⟨w.heap.size, 4, none⟩) hbw _).setNe (p := ⟨w.heap.size, 5, none⟩) hbw _), max d d1 + 1, ?_⟩
          have hdn := HPt4.out.den 4 (fun _ => 0) po' cap' (by rw [HLg.out]) (Or.inr (Or.inr (Or.inr (Or.inr (Or.inl ⟨rfl, by simp, rfl⟩))))) HPt4.out.size (M := j1 - i) (by rw [HLg.out]; show acc.length + 1 - 1 + (j1 - i - acc.length) ≤ j1 - i; omega)
          rw [HLg.out] at hdn
          refine Den.mono (Den.frame hdn (by simp [World.setCell]) ?_) (fun g _ hg => by omega)
          intro g hg hl
          rw [Below.heap_setCell _ _ _ _ (show g ≠ w.heap.size by omega), Below.heap_setCell _ _ _ _ (show g ≠ w.heap.size by omega), Below.heap_setCell _ _ _ _ (show g ≠ w.heap.size by omega), Below.heap_setCell _ _ _ _ (show g ≠ w.heap.size by omega), Below.heap_setCell _ _ _ _ (show g ≠ w.heap.size by omega), Below.heap_setCell _ _ _ _ (show g ≠ w.heap.size by omega), drewN_heap]
      · have HRs : Hid (altP (choiceP s.data.toList f) s.data.toList m (j1 + 1) (acc ++ [R1]) = Res) := by
          have := Hres.out
          rw [altP_more HC.out hb] at this
          exact this
        have HB := hide hb
        have hlt : j1 < s.size := by have := hasB_lt hb; omega
        clear hb Hres
        go_wp2_with (go_at_call 122; refine (sees_is b 0 s j1 hj1 124 true HB.out _ HR3.out.at).mono ?_; rintro e w' ⟨rfl, n3, rfl⟩)
        have HPos2 := hide (pos_of ((HR3.out.drewN n3).set (j1 + 1)))
        go_roundw
        case rel =>
          refine ⟨j1 + 1, m, acc ++ [R1], max d d1, xs ++ nodeCs kd ys qo nn cp, po', cap', by omega, by omega, by omega, by rw [HLg.out]; omega, HRs.out, (HR3.out.drewN n3).set (j1 + 1), ?_, ?_, ?_, by rw [HLg.out]; omega, ?_⟩
          · exact (Below.heap_setCell _ _ _ _ (Ne.symm hbw)).trans ((Below.heap_setCell _ _ _ _ (by show w.heap.size ≠ w.heap.size + 1; omega)).trans HQ2.out)
          · rw [HLg.out]; exact (Below.heap_setCell _ _ _ _ (Ne.symm hbp)).trans (heap_setCell_same HP2.out _)
          · rw [HLg.out]; exact (HPt4.out.more (by omega)).only (((Only.refl (fun k => k = b) _).drewN n3).setCell (p := ⟨b, 1, none⟩) (fun _ => rfl) _) (fun k hk _ e => by omega)
          · exact (HO3.out.drewN n3).setCell (p := ⟨b, 1, none⟩) (fun _ => rfl) _
        case measure =>
          have e1 := HPos2.out
          have e2 := HPos.out
          push_cast at e1
          rw [e1, e2]; omega
theorem choice_all (f : Nat) : ChoiceOK f := by
  induction f with
  | zero => intro b s i w h hi hs h6 hfl; omega
  | succ f ih => intro b s i w h hi hs h6 hfl; exact choice_step f ih b s hs h6 i hi hfl w h
end Go.Proofs.YtdbdbaepmdmnfaaGreatDoor

