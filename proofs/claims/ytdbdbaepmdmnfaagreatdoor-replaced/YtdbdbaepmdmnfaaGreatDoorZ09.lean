import Derived.Test.YtdbdbaepmdmnfaaGreatDoorZ08
import Derived.Test.YtdbdbaepmdmnfaaGreatDoorZ05
namespace Go.Proofs.YtdbdbaepmdmnfaaGreatDoor
open Go.RowKit
theorem RdB.grown {w w' b s i row} (h : RdB w b s i) (hg : w.grownBy w' row) (hr : some b ≠ row) : RdB w' b s i := (hg.block b (heap_lt h) hr).trans h
theorem rowP_go {sub : Nat → Option (Pat × Nat)} {l : List UInt8} {n i : Nat} {acc : List Pat} (h : i < l.length ∧ hasB l i 124 = false ∧ hasB l i 41 = false) : rowP sub l (n + 1) i acc = (match repP sub l i with | none => none | some (R, j) => rowP sub l n j (acc ++ [R])) := by
  conv => lhs; unfold rowP
  rw [if_pos h]
  cases repP sub l i with
  | none => rfl
  | some p => rfl
theorem rowP_stop {sub : Nat → Option (Pat × Nat)} {l : List UInt8} {n i : Nat} {acc : List Pat} (h : ¬ (i < l.length ∧ hasB l i 124 = false ∧ hasB l i 41 = false)) : rowP sub l (n + 1) i acc = if acc.length = 0 then none else some (rowR acc, i) := by
  conv => lhs; unfold rowP
  rw [if_neg h]
theorem nodeCs_ok (kind : Int) (xs : Nat → Nat) (po : Option Addr) (n cap : Nat) : ∀ u ∈ nodeCs kind xs po n cap, u.oneCell' = true := by
  intro u hu
  unfold nodeCs at hu
  simp at hu
  rcases hu with rfl | rfl | rfl | rfl | rfl | rfl <;> rfl
theorem nodeAt_ok {w : World} {g : Nat} {kind : Int} {xs : Nat → Nat} {po : Option Addr} {n cap : Nat} (h : w.heap[g]? = some (.cells (nodeAg kind xs po n cap) 118 (0, 0))) : ∀ j u, (nodeCs kind xs po n cap)[j]? = some u → w.cell? ((⟨g, 0, none⟩ : Addr).add j) = some u := by
  intro j u hj
  have : w.cell? ⟨g, 0 + j, none⟩ = some u := cell_of h (by rw [Nat.zero_add, show nodeAg kind xs po n cap = (nodeCs kind xs po n cap).toArray from rfl, List.getElem?_toArray]; exact hj)
  unfold Addr.add
  rw [Nat.zero_add] at this
  split
  · rename_i h0
    rw [h0] at this; exact this
  · simpa using this
theorem newb1 (w : World) (a c : Obj) : ((w.alloc a).alloc c).heap[w.heap.size + 1]? = some c := by have := heap_alloc_new (w.alloc a) c; rwa [show (w.alloc a).heap.size = w.heap.size + 1 by simp] at this
theorem info133 : (Tryz.prog.info? 118).map (fun i => (i.zero, i.size, i.bytes)) = some (some (.agg (nodeAg 0 (fun _ => 0) none 0 0)), 6, 64) := by kernel_rfl
set_option maxHeartbeats 4000000 in
theorem row_any (f : Nat) (hf : ChoiceOK f) (b : Nat) (s : ByteArray) (hs : s.size ≤ maxLen) (h6 : s.size ≤ 65536) (i : Nat) (hi : i ≤ s.size) (hfl : s.size - i ≤ f) (w : World) (h : RdB w b s i) :
    Calls Tryz.prog 121 #[.pointer (some ⟨b, 0, none⟩)] w (NodePost b s i w (rowP (choiceP s.data.toList f) s.data.toList (s.data.toList.length + 1) i [])) := by
  have hbl := heap_lt h
  have hml : s.size ≤ 9223372036854775807 := hs
  have hbw : b ≠ w.heap.size := by omega
  have hn : ∀ o, w.heap.size < w.heap.size → (fun k => k = b) (Addr.block ⟨w.heap.size, o, none⟩) := fun _ h => absurd h (Nat.lt_irrefl _)
  obtain ⟨i0, hi0, hz0, hz1, hz2⟩ := info_parts info133
  obtain ⟨Res, HRes⟩ : ∃ Res, Hid (rowP (choiceP s.data.toList f) s.data.toList (s.data.toList.length + 1) i [] = Res) := ⟨_, rfl⟩
  rw [HRes.out]
  have HR0 : ∀ o1 o2, Hid (RdB ((w.alloc o1).alloc o2) b s i) := fun o1 o2 => (h.alloc' o1).alloc' o2
  have HF := hide hf
  have hlen : s.data.toList.length = s.size := len_eq s
  clear h hf
  go_enter Tryz.func121, Tryz.ntmps121
  go_wp2_with fail
  go_loopw [6] (fun _ wr => ∃ (j m : Nat) (acc : List Pat) (d : Nat) (xs : List Value) (po : Option Addr) (cap : Nat), j ≤ s.size ∧ i ≤ j ∧ s.size - j < m ∧ acc.length ≤ j ∧ rowP (choiceP s.data.toList f) s.data.toList m j acc = Res ∧ RdB wr b s j ∧ wr.heap[w.heap.size]? = some (.cells (nodeAg 0 (fun _ => 0) none 0 0) 118 (0, 0)) ∧ wr.heap[w.heap.size + 1]? = some (.cells (nodeAg 3 (fun _ => 0) po acc.length cap) 118 (0, 0)) ∧ PartsOf d (j - i) xs wr (w.heap.size + 2) (.slice po acc.length cap) acc ∧ Only (fun k => k = b) w wr) (fun _ wr => s.size - posOf wr b)
  case atStart => exact ⟨i, _, [], 0, [], none, 0, hi, Nat.le_refl _, by rw [len_eq]; omega, Nat.zero_le _, HRes.out, (HR0 _ _).out, (Below.heap_alloc _ _ _ (by simp)).trans (new0 w _), newb1 w _ _, PartsOf.nil _ _ _, ((Only.refl _ w).alloc _).alloc _⟩
  case round =>
    clear HR0 HRes
    obtain ⟨j, m, acc, d, xs, po, cap, hj, hij, hm, haj, hres, hr, hq, hp, hpt, ho⟩ := hrel
    obtain ⟨m, rfl⟩ : ∃ m', m = m' + 1 := ⟨m - 1, by omega⟩
    have HRd := hide hr
    have HPt := hide hpt
    have HO := hide ho
    have HQ := hide hq
    have HP := hide hp
    have HPos := hide (pos_of hr)
    have hpl := heap_lt hp
    have z0 : wr.cell? ⟨w.heap.size, 0, none⟩ = some (.int .i64 0) := cell_of hq rfl
    have z1 : wr.cell? ⟨w.heap.size, 1, none⟩ = some (.int .u64 0) := cell_of hq rfl
    have z2 : wr.cell? ⟨w.heap.size, 2, none⟩ = some (.int .u64 0) := cell_of hq rfl
    have z3 : wr.cell? ⟨w.heap.size, 3, none⟩ = some (.int .u64 0) := cell_of hq rfl
    have z4 : wr.cell? ⟨w.heap.size, 4, none⟩ = some (.int .u64 0) := cell_of hq rfl
    have z5 : wr.cell? ⟨w.heap.size, 5, none⟩ = some (.slice none 0 0) := cell_of hq rfl
    have y0 := free_of hq 0
    have y1 := free_of hq 1
    have y2 := free_of hq 2
    have y3 := free_of hq 3
    have y4 := free_of hq 4
    have y5 := free_of hq 5
    have x0 : wr.cell? ⟨w.heap.size + 1, 0, none⟩ = some (.int .i64 3) := cell_of hp rfl
    have x1 : wr.cell? ⟨w.heap.size + 1, 1, none⟩ = some (.int .u64 0) := cell_of hp rfl
    have x2 : wr.cell? ⟨w.heap.size + 1, 2, none⟩ = some (.int .u64 0) := cell_of hp rfl
    have x3 : wr.cell? ⟨w.heap.size + 1, 3, none⟩ = some (.int .u64 0) := cell_of hp rfl
    have x4 : wr.cell? ⟨w.heap.size + 1, 4, none⟩ = some (.int .u64 0) := cell_of hp rfl
    have x5 : wr.cell? ⟨w.heap.size + 1, 5, none⟩ = some (.slice po acc.length cap) := cell_of hp rfl
    have v5 := free_of hp 5
    by_cases hgo : j < s.data.toList.length ∧ hasB s.data.toList j 124 = false ∧ hasB s.data.toList j 41 = false
    · rw [rowP_go hgo] at hres
      obtain ⟨hlt, hb1, hb2⟩ := hgo
      rw [hlen] at hlt
      have HB1 := hide hb1
      have HB2 := hide hb2
      have Hres := hide hres
      clear hres hr hq hp hpt ho hb1 hb2
      go_wp2_with fail
      refine (ended_no b 0 s j hlt _ HRd.out.at).mono ?_
      rintro e w' ⟨rfl, n3, rfl⟩
      go_wp2_with fail
      refine (sees_is b 0 s j hj 124 false HB1.out _ (HRd.out.drewN _).at).mono ?_
      rintro e w' ⟨rfl, n4, rfl⟩
      go_wp2_with fail
      refine (sees_is b 0 s j hj 41 false HB2.out _ (HRd.out.drewN _).at).mono ?_
      rintro e w' ⟨rfl, n5, rfl⟩
      go_wp2_with fail
      refine (repeated_any f HF.out b s hs h6 j hlt (by omega) _ (HRd.out.drewN _)).mono ?_
      rintro e w1 ⟨ho1, kd, ys, qo, nn, cp, rfl, hden⟩
      have HO1 : Hid (Only (fun k => k = b) wr w1) := ((Only.refl _ wr).drewN _).trans ho1 (fun k _ e => e)
      have hsz1 : wr.heap.size ≤ w1.heap.size := HO1.out.size
      have hq := (HO1.out.block w.heap.size (by omega) (Ne.symm hbw)).trans HQ.out
      have hp := (HO1.out.block (w.heap.size + 1) hpl (by omega)).trans HP.out
      have HPt1 := hide (HPt.out.only HO1.out (fun k hk _ e => by omega))
      have HD := hide hden
      clear ho1 hden z0 z1 z2 z3 z4 z5 y0 y1 y2 y3 y4 y5 x0 x1 x2 x3 x4 x5 v5
      have z0 : w1.cell? ⟨w.heap.size, 0, none⟩ = some (.int .i64 0) := cell_of hq rfl
      have z1 : w1.cell? ⟨w.heap.size, 1, none⟩ = some (.int .u64 0) := cell_of hq rfl
      have z2 : w1.cell? ⟨w.heap.size, 2, none⟩ = some (.int .u64 0) := cell_of hq rfl
      have z3 : w1.cell? ⟨w.heap.size, 3, none⟩ = some (.int .u64 0) := cell_of hq rfl
      have z4 : w1.cell? ⟨w.heap.size, 4, none⟩ = some (.int .u64 0) := cell_of hq rfl
      have z5 : w1.cell? ⟨w.heap.size, 5, none⟩ = some (.slice none 0 0) := cell_of hq rfl
      have y0 := free_of hq 0
      have y1 := free_of hq 1
      have y2 := free_of hq 2
      have y3 := free_of hq 3
      have y4 := free_of hq 4
      have y5 := free_of hq 5
      have x0 : w1.cell? ⟨w.heap.size + 1, 0, none⟩ = some (.int .i64 3) := cell_of hp rfl
      have x1 : w1.cell? ⟨w.heap.size + 1, 1, none⟩ = some (.int .u64 0) := cell_of hp rfl
      have x2 : w1.cell? ⟨w.heap.size + 1, 2, none⟩ = some (.int .u64 0) := cell_of hp rfl
      have x3 : w1.cell? ⟨w.heap.size + 1, 3, none⟩ = some (.int .u64 0) := cell_of hp rfl
      have x4 : w1.cell? ⟨w.heap.size + 1, 4, none⟩ = some (.int .u64 0) := cell_of hp rfl
      have x5 : w1.cell? ⟨w.heap.size + 1, 5, none⟩ = some (.slice po acc.length cap) := cell_of hp rfl
      have v5 := free_of hp 5
      have HQ1 := hide hq
      have HP1 := hide hp
      have hsq1 := heap_lt hq
      have hsp1 := heap_lt hp
      clear hq hp
      unfold nodeAg
      cases hc : repP (choiceP s.data.toList f) s.data.toList j with
      | none =>
        have HU : Hid (Res = none) := by
          have := Hres.out
          rw [hc] at this
          exact this.symm
        clear hc Hres
        simp only [Option.isSome_none]
        go_wp2
        refine bodyPost_ret (v := .tuple #[.agg (nodeAg 0 (fun _ => 0) none 0 0), .bool false]) (by simp [results, Tryz.results121, go_sem, nodeAg, z0, z1, z2, z3, z4, z5, hsq1]) rfl ⟨?_, 0, fun _ => 0, none, 0, 0, ?_, ?_⟩
        · exact (((((((HO.out.trans HO1.out (fun k _ e => e)).setCell (p := ⟨w.heap.size, 0, none⟩) (hn 0) _).setCell (p := ⟨w.heap.size, 1, none⟩) (hn 1) _).setCell (p := ⟨w.heap.size, 2, none⟩) (hn 2) _).setCell (p := ⟨w.heap.size, 3, none⟩) (hn 3) _).setCell (p := ⟨w.heap.size, 4, none⟩) (hn 4) _).setCell (p := ⟨w.heap.size, 5, none⟩) (hn 5) _).alloc _
        · rw [HU.out]; rfl
        · intro R j h
          rw [HU.out] at h
          cases h
      | some p =>
        obtain ⟨R1, j1⟩ := p
        have hpg := repP_prog (choice_prog _ f) hc
        rw [len_eq] at hpg
        obtain ⟨hr1, d1, hd1⟩ := HD.out R1 j1 hc
        have HRs : Hid (rowP (choiceP s.data.toList f) s.data.toList m j1 (acc ++ [R1]) = Res) := by
          have := Hres.out
          rw [hc] at this
          exact this
        have HR1 := hide hr1
        have HD1 : Hid (Den d1 (j1 - j) w1 (fun g => wr.heap.size ≤ g) (nodeCs kd ys qo nn cp) R1) := hd1
        have HPt2 : ∀ A B, Hid (PartsOf d (j - i) xs ((w1.alloc A).alloc B) (w.heap.size + 2) (.slice po acc.length cap) acc) := fun A B => HPt1.out.only (((Only.refl (fun _ => False) w1).alloc A).alloc B) (fun _ _ _ e => e)
        have HD2 : ∀ A B, Hid (Den d1 (j1 - j) ((w1.alloc A).alloc B) (fun g => wr.heap.size ≤ g) (nodeCs kd ys qo nn cp) R1) := fun A B => HD1.out.only (((Only.refl (fun _ => False) w1).alloc A).alloc B) (fun _ _ e => e)
        clear hc hr1 hd1 HD Hres
        simp only [Option.isSome_some]
        go_wp2_with (at_builtin; refine wpList_append_sep _ rfl (.tmp 30) (.tmp 32) 116 rfl (w.heap.size + 2) 118 i0 (.agg (nodeAg 0 (fun _ => 0) none 0 0)) 6 64 Tryz.underlying116 hi0 hz0 hz1 hz2 rfl (by decide) _ _ xs rfl (HPt2 _ _).out.1 ⟨w1.heap.size + 1, 0, none⟩ 1 1 (nodeCs kd ys qo nn cp) rfl rfl ?c1 ?c2 (by decide) ?c3 ?c4 ?c5 ?_)
        case c1 => exact nodeAt_ok (newb1 w1 _ _)
        case c2 => exact nodeCs_ok _ _ _ _ _
        case c3 => unfold maxLen; omega
        case c4 => omega
        case c5 => simp; omega
        intro v' w2 hown' hgrow hmv
        obtain ⟨po', cap', rfl⟩ := ownsRow_slice hown'
        have hob : ∀ k, (Value.slice po acc.length cap).ownBlock = some k → w.heap.size + 2 ≤ k ∧ k < wr.heap.size := fun k hk => by
          have := HPt.out.1.lt k hk
          omega
        have hlg : (acc ++ [R1]).length = acc.length + 1 := by simp
        have HPt3 : Hid (PartsOf (max d d1) (j1 - i) (xs ++ nodeCs kd ys qo nn cp) w2 (w.heap.size + 2) (.slice po' (acc.length + 1) cap') (acc ++ [R1])) := ((HPt2 _ _).out.push (fun k hk => (hob k hk).2) (by omega) (HD2 _ _).out hown' hgrow hmv).more (by omega)
        have hne : ∀ k, k < w.heap.size + 2 → some k ≠ (Value.slice po acc.length cap).ownBlock := fun k hk e => by have := hob k e.symm; omega
        have hp2 := (hgrow.block (w.heap.size + 1) (by simp; omega) (hne _ (by omega))).trans ((Below.heap_alloc _ _ _ (by simp; omega)).trans ((Below.heap_alloc _ _ _ (by omega)).trans HP1.out))
        have hq2 := (hgrow.block w.heap.size (by simp; omega) (hne _ (by omega))).trans ((Below.heap_alloc _ _ _ (by simp; omega)).trans ((Below.heap_alloc _ _ _ (by omega)).trans HQ1.out))
        have HR2 : Hid (RdB w2 b s j1) := ((HR1.out.alloc' _).alloc' _).grown hgrow (hne b (by omega))
        have HO2 : Hid (Only (fun k => k = b) w w2) := (((HO.out.trans HO1.out (fun k _ e => e)).alloc _).alloc _).grown hgrow (fun k hk hl => by have := hob k hk; omega)
        have HP2 := hide hp2
        have HQ2 := hide hq2
        have v5' := free_of hp2 5
        have x5' : w2.cell? ⟨w.heap.size + 1, 5, none⟩ = some (.slice po acc.length cap) := cell_of hp2 rfl
        have hpl2 := heap_lt hp2
        have HLg := hide hlg
        clear hp2 hq2 hgrow hmv hown' hob hne hlg z0 z1 z2 z3 z4 z5 y0 y1 y2 y3 y4 y5 x0 x1 x2 x3 x4 x5 v5
        go_wp2
        have HPos2 := hide (pos_of (HR2.out.setNe (p := ⟨w.heap.size + 1, 5, none⟩) (by show b ≠ w.heap.size + 1; omega) (.slice po' (acc.length + 1) cap')))
        go_roundw
        case rel =>
          refine ⟨j1, m, acc ++ [R1], max d d1, xs ++ nodeCs kd ys qo nn cp, po', cap', hpg.2, by omega, by omega, by rw [HLg.out]; omega, HRs.out, HR2.out.setNe (p := ⟨w.heap.size + 1, 5, none⟩) (by show b ≠ w.heap.size + 1; omega) _, ?_, ?_, ?_, ?_⟩
          · exact (Below.heap_setCell _ _ _ _ (by show w.heap.size ≠ w.heap.size + 1; omega)).trans HQ2.out
          · rw [HLg.out]; exact heap_setCell_same HP2.out _
          · rw [HLg.out]; exact HPt3.out.only ((Only.refl (fun k => k = w.heap.size + 1) w2).setCell (p := ⟨w.heap.size + 1, 5, none⟩) (fun _ => rfl) _) (fun k hk _ e => by omega)
          · exact HO2.out.setCell (p := ⟨w.heap.size + 1, 5, none⟩) (fun h => absurd h (by show ¬ w.heap.size + 1 < w.heap.size; omega)) _
        case measure => rw [HPos2.out, HPos.out]; omega
    · rw [rowP_stop hgo] at hres
      have HRes := hide hres
      have hend : j = s.size ∨ (j < s.size ∧ hasB s.data.toList j 124 = true) ∨ (j < s.size ∧ hasB s.data.toList j 124 = false ∧ hasB s.data.toList j 41 = true) := by
        by_cases h1 : j < s.size
        · cases h2 : hasB s.data.toList j 124
          · cases h3 : hasB s.data.toList j 41
            · exact absurd ⟨by omega, h2, h3⟩ hgo
            · exact Or.inr (Or.inr ⟨h1, rfl, rfl⟩)
          · exact Or.inr (Or.inl ⟨h1, rfl⟩)
        · exact Or.inl (by omega)
      clear hres hr hq hp hpt ho hgo
      rcases hend with hend | ⟨hlt, hb1⟩ | ⟨hlt, hb1, hb2⟩
      · go_wp2_with (go_at_call 84; refine (ended_yes b 0 s j hend _ HRd.out.at).mono ?_; rintro e w' ⟨rfl, n3, rfl⟩)
        go_region
        have hb : decide (0 < acc.length) = Res.isSome := by
          rw [← HRes.out]
          by_cases h0 : acc.length = 0
          · rw [if_pos h0]; simp [h0]
          · rw [if_neg h0]; simp; omega
        go_wp2
        refine bodyPost_ret (v := .tuple #[.agg (nodeAg 3 (fun _ => 0) po acc.length cap), .bool (decide (0 < acc.length))]) (by simp [results, Tryz.results121, go_sem, nodeAg, z0, z1, z2, z3, z4, z5]) rfl ⟨(((((((HO.out.drewN _).setCell (p := ⟨w.heap.size, 0, none⟩) (hn 0) _).setCell (p := ⟨w.heap.size, 1, none⟩) (hn 1) _).setCell (p := ⟨w.heap.size, 2, none⟩) (hn 2) _).setCell (p := ⟨w.heap.size, 3, none⟩) (hn 3) _).setCell (p := ⟨w.heap.size, 4, none⟩) (hn 4) _).setCell (p := ⟨w.heap.size, 5, none⟩) (hn 5) _), 3, fun _ => 0, po, acc.length, cap, ?_, ?_⟩
        · rw [hb]
        · intro R j2 h
          rw [← HRes.out] at h
          split at h
          · cases h
          · cases h
            refine ⟨(((((((HRd.out.drewN _).setNe (p := ⟨w.heap.size, 0, none⟩) hbw _).setNe (p := ⟨w.heap.size, 1, none⟩) hbw _).setNe (p := ⟨w.heap.size, 2, none⟩) hbw _).setNe (p := ⟨w.heap.size, 3, none⟩) hbw _).setNe (p := ⟨w.heap.size, 4, none⟩) hbw _).setNe (p := ⟨w.heap.size, 5, none⟩) hbw _), d + 1, ?_⟩
            refine Den.mono (Den.frame (HPt.out.den 3 (fun _ => 0) po cap rfl (Or.inr (Or.inr (Or.inr (Or.inl ⟨rfl, rfl⟩)))) HPt.out.size (M := j - i) (by show 0 + (j - i) ≤ j - i; omega)) (by simp [World.setCell]) ?_) (fun g _ hg => by omega)
            intro g hg hl
            rw [Below.heap_setCell _ _ _ _ (show g ≠ w.heap.size by omega), Below.heap_setCell _ _ _ _ (show g ≠ w.heap.size by omega), Below.heap_setCell _ _ _ _ (show g ≠ w.heap.size by omega), Below.heap_setCell _ _ _ _ (show g ≠ w.heap.size by omega), Below.heap_setCell _ _ _ _ (show g ≠ w.heap.size by omega), Below.heap_setCell _ _ _ _ (show g ≠ w.heap.size by omega), drewN_heap]
      · have HB1 := hide hb1
        clear hb1
        go_wp2_with fail
        refine (ended_no b 0 s j hlt _ HRd.out.at).mono ?_
        rintro e w' ⟨rfl, n3, rfl⟩
        go_wp2_with fail
        refine (sees_is b 0 s j hj 124 true HB1.out _ (HRd.out.drewN _).at).mono ?_
        rintro e w' ⟨rfl, n4, rfl⟩
        go_wp2
        go_region
        have hb : decide (0 < acc.length) = Res.isSome := by
          rw [← HRes.out]
          by_cases h0 : acc.length = 0
          · rw [if_pos h0]; simp [h0]
          · rw [if_neg h0]; simp; omega
        go_wp2
        refine bodyPost_ret (v := .tuple #[.agg (nodeAg 3 (fun _ => 0) po acc.length cap), .bool (decide (0 < acc.length))]) (by simp [results, Tryz.results121, go_sem, nodeAg, z0, z1, z2, z3, z4, z5]) rfl ⟨(((((((HO.out.drewN _).setCell (p := ⟨w.heap.size, 0, none⟩) (hn 0) _).setCell (p := ⟨w.heap.size, 1, none⟩) (hn 1) _).setCell (p := ⟨w.heap.size, 2, none⟩) (hn 2) _).setCell (p := ⟨w.heap.size, 3, none⟩) (hn 3) _).setCell (p := ⟨w.heap.size, 4, none⟩) (hn 4) _).setCell (p := ⟨w.heap.size, 5, none⟩) (hn 5) _), 3, fun _ => 0, po, acc.length, cap, ?_, ?_⟩
        · rw [hb]
        · intro R j2 h
          rw [← HRes.out] at h
          split at h
          · cases h
          · cases h
            refine ⟨(((((((HRd.out.drewN _).setNe (p := ⟨w.heap.size, 0, none⟩) hbw _).setNe (p := ⟨w.heap.size, 1, none⟩) hbw _).setNe (p := ⟨w.heap.size, 2, none⟩) hbw _).setNe (p := ⟨w.heap.size, 3, none⟩) hbw _).setNe (p := ⟨w.heap.size, 4, none⟩) hbw _).setNe (p := ⟨w.heap.size, 5, none⟩) hbw _), d + 1, ?_⟩
            refine Den.mono (Den.frame (HPt.out.den 3 (fun _ => 0) po cap rfl (Or.inr (Or.inr (Or.inr (Or.inl ⟨rfl, rfl⟩)))) HPt.out.size (M := j - i) (by show 0 + (j - i) ≤ j - i; omega)) (by simp [World.setCell]) ?_) (fun g _ hg => by omega)
            intro g hg hl
            rw [Below.heap_setCell _ _ _ _ (show g ≠ w.heap.size by omega), Below.heap_setCell _ _ _ _ (show g ≠ w.heap.size by omega), Below.heap_setCell _ _ _ _ (show g ≠ w.heap.size by omega), Below.heap_setCell _ _ _ _ (show g ≠ w.heap.size by omega), Below.heap_setCell _ _ _ _ (show g ≠ w.heap.size by omega), Below.heap_setCell _ _ _ _ (show g ≠ w.heap.size by omega), drewN_heap]
      · have HB1 := hide hb1
        have HB2 := hide hb2
        clear hb1 hb2
        go_wp2_with fail
        refine (ended_no b 0 s j hlt _ HRd.out.at).mono ?_
        rintro e w' ⟨rfl, n3, rfl⟩
        go_wp2_with fail
        refine (sees_is b 0 s j hj 124 false HB1.out _ (HRd.out.drewN _).at).mono ?_
        rintro e w' ⟨rfl, n4, rfl⟩
        go_wp2_with fail
        refine (sees_is b 0 s j hj 41 true HB2.out _ (HRd.out.drewN _).at).mono ?_
        rintro e w' ⟨rfl, n5, rfl⟩
        go_wp2
        go_region
        have hb : decide (0 < acc.length) = Res.isSome := by
          rw [← HRes.out]
          by_cases h0 : acc.length = 0
          · rw [if_pos h0]; simp [h0]
          · rw [if_neg h0]; simp; omega
        go_wp2
        refine bodyPost_ret (v := .tuple #[.agg (nodeAg 3 (fun _ => 0) po acc.length cap), .bool (decide (0 < acc.length))]) (by simp [results, Tryz.results121, go_sem, nodeAg, z0, z1, z2, z3, z4, z5]) rfl ⟨(((((((HO.out.drewN _).setCell (p := ⟨w.heap.size, 0, none⟩) (hn 0) _).setCell (p := ⟨w.heap.size, 1, none⟩) (hn 1) _).setCell (p := ⟨w.heap.size, 2, none⟩) (hn 2) _).setCell (p := ⟨w.heap.size, 3, none⟩) (hn 3) _).setCell (p := ⟨w.heap.size, 4, none⟩) (hn 4) _).setCell (p := ⟨w.heap.size, 5, none⟩) (hn 5) _), 3, fun _ => 0, po, acc.length, cap, ?_, ?_⟩
        · rw [hb]
        · intro R j2 h
          rw [← HRes.out] at h
          split at h
          · cases h
          · cases h
            refine ⟨(((((((HRd.out.drewN _).setNe (p := ⟨w.heap.size, 0, none⟩) hbw _).setNe (p := ⟨w.heap.size, 1, none⟩) hbw _).setNe (p := ⟨w.heap.size, 2, none⟩) hbw _).setNe (p := ⟨w.heap.size, 3, none⟩) hbw _).setNe (p := ⟨w.heap.size, 4, none⟩) hbw _).setNe (p := ⟨w.heap.size, 5, none⟩) hbw _), d + 1, ?_⟩
            refine Den.mono (Den.frame (HPt.out.den 3 (fun _ => 0) po cap rfl (Or.inr (Or.inr (Or.inr (Or.inl ⟨rfl, rfl⟩)))) HPt.out.size (M := j - i) (by show 0 + (j - i) ≤ j - i; omega)) (by simp [World.setCell]) ?_) (fun g _ hg => by omega)
            intro g hg hl
            rw [Below.heap_setCell _ _ _ _ (show g ≠ w.heap.size by omega), Below.heap_setCell _ _ _ _ (show g ≠ w.heap.size by omega), Below.heap_setCell _ _ _ _ (show g ≠ w.heap.size by omega), Below.heap_setCell _ _ _ _ (show g ≠ w.heap.size by omega), Below.heap_setCell _ _ _ _ (show g ≠ w.heap.size by omega), Below.heap_setCell _ _ _ _ (show g ≠ w.heap.size by omega), drewN_heap]
end Go.Proofs.YtdbdbaepmdmnfaaGreatDoor

