import Derived.Test.YtdbdbaepmdmnfaaGreatDoorZ07
namespace Go.Proofs.YtdbdbaepmdmnfaaGreatDoor
open Go.RowKit
def signKind (c : Nat) : Int := if c = 42 then 5 else if c = 43 then 6 else if c = 63 then 7 else 0
set_option maxHeartbeats 1000000 in
theorem repetition_any (c : UInt8) (w : World) :
    Calls Tryz.prog 206 #[.int .u8 c.toNat] w fun e w' => e = .returned (.tuple #[.int .i64 (signKind c.toNat), .bool (isSign c)]) ∧ w' = w := by
  by_cases h1 : (c.toNat : Int) = 42
  · have k1 : c.toNat = 42 := by omega
    go_enter Tryz.func206, Tryz.ntmps206
    go_wp2
    go_ret2
    exact ⟨by simp [signKind, isSign, k1], rfl⟩
  · by_cases h2 : (c.toNat : Int) = 43
    · have k1 : c.toNat = 43 := by omega
      go_enter Tryz.func206, Tryz.ntmps206
      go_wp2
      go_ret2
      exact ⟨by simp [signKind, isSign, k1], rfl⟩
    · by_cases h3 : (c.toNat : Int) = 63
      · have k1 : c.toNat = 63 := by omega
        go_enter Tryz.func206, Tryz.ntmps206
        go_wp2
        go_ret2
        exact ⟨by simp [signKind, isSign, k1], rfl⟩
      · have k1 : ¬ c.toNat = 42 := by omega
        have k2 : ¬ c.toNat = 43 := by omega
        have k3 : ¬ c.toNat = 63 := by omega
        go_enter Tryz.func206, Tryz.ntmps206
        go_wp2
        go_ret2
        exact ⟨by simp [signKind, isSign, k1, k2, k3], rfl⟩
end Go.Proofs.YtdbdbaepmdmnfaaGreatDoor
namespace Go.Proofs.YtdbdbaepmdmnfaaGreatDoor
open Go.RowKit
theorem signsP_stop {n : Nat} {l : List UInt8} {j : Nat} {R : Pat} (h : ∀ c, l[j]? = some c → isSign c = false) : signsP (n + 1) l j R = (R, j) := by
  unfold signsP
  split
  · rfl
  · rename_i c hc
    rw [h c hc]; rfl
theorem signsP_step {n : Nat} {l : List UInt8} {j : Nat} {R : Pat} {c : UInt8} (h : l[j]? = some c) (hc : isSign c = true) : signsP (n + 1) l j R = signsP n l (j + 1) (signR c.toNat R) := by
  conv => lhs; unfold signsP
  rw [h]
  simp only
  rw [hc]; rfl
theorem sign_is {c : UInt8} (h : isSign c = true) (R : Pat) (xs : Nat → Nat) : NodeIs (signKind c.toNat) xs [R] (signR c.toNat R) := by
  unfold isSign at h
  simp only [Bool.or_eq_true, beq_iff_eq] at h
  unfold NodeIs signKind signR
  rcases h with (h | h) | h
  · rw [h]; simp
  · rw [h]; simp
  · rw [h]; simp
theorem sign_cost {c : UInt8} (h : isSign c = true) : costOf (signKind c.toNat) 1 = 1 := by
  unfold isSign at h
  simp only [Bool.or_eq_true, beq_iff_eq] at h
  unfold costOf signKind
  rcases h with (h | h) | h <;> rw [h] <;> simp
theorem size_setCell (w : World) (p : Addr) (v : Value) : (w.setCell p v).heap.size = w.heap.size := by simp [World.setCell]
set_option maxHeartbeats 4000000 in
theorem repeated_any (f : Nat) (hf : ChoiceOK f) (b : Nat) (s : ByteArray) (hs : s.size ≤ maxLen) (h6 : s.size ≤ 65536) (i : Nat) (hi : i < s.size) (hfl : s.size - i ≤ f) (w : World) (h : RdB w b s i) :
    Calls Tryz.prog 158 #[.pointer (some ⟨b, 0, none⟩)] w (NodePost b s i w (repP (choiceP s.data.toList f) s.data.toList i)) := by
  have hbl := heap_lt h
  have hml : s.size ≤ 9223372036854775807 := hs
  have hbw : b ≠ w.heap.size := by omega
  have hn : ∀ o, w.heap.size < w.heap.size → (fun k => k = b) (Addr.block ⟨w.heap.size, o, none⟩) := fun _ h => absurd h (Nat.lt_irrefl _)
  have HR0 : ∀ o1, Hid (RdB (w.alloc o1) b s i) := fun o1 => h.alloc' o1
  have HF := hide hf
  clear h hf
  go_enter Tryz.func158, Tryz.ntmps158
  go_wp2_with fail
  refine (unit_any f HF.out b s hs h6 i hi hfl _ (HR0 _).out).mono ?_
  rintro e w1 ⟨ho1, kind, xs, po, n, cap, rfl, hden⟩
  have hq : w1.heap[w.heap.size]? = some (.cells (nodeAg 0 (fun _ => 0) none 0 0) 118 (0, 0)) := (ho1.block w.heap.size (by simp) (Ne.symm hbw)).trans (new0 w _)
  have HQ := hide hq
  have HO1 : Hid (Only (fun k => k = b) w w1) := ((Only.refl _ w).alloc _).trans ho1 (fun k _ e => e)
  have HD := hide hden
  have hsz := heap_lt hq
  have hb1 : b < w1.heap.size := Nat.lt_of_lt_of_le hbl HO1.out.size
  clear ho1 hq hden
  unfold nodeAg
  cases hc : unitP (choiceP s.data.toList f) s.data.toList i with
  | none =>
    have HU : Hid (repP (choiceP s.data.toList f) s.data.toList i = none) := by
      show repP _ _ _ = _
      unfold repP
      rw [hc]
    clear hc
    simp only [Option.isSome_none]
    go_wp2
    obtain ⟨P, hP⟩ : ∃ P, P = w1.heap.size := ⟨_, rfl⟩
    go_loopw [6] (fun _ wr => wr.heap[w.heap.size]? = some (.cells (nodeAg 0 (fun _ => 0) none 0 0) 118 (0, 0)) ∧ wr.heap[w1.heap.size]? = some (.cells (nodeAg kind xs po n cap) 118 (0, 0)) ∧ Only (fun k => k = b) w wr) (fun _ _ => 0)
    case atStart => exact ⟨(Below.heap_alloc _ _ _ hsz).trans HQ.out, new0 w1 _, HO1.out.alloc _⟩
    case round =>
      obtain ⟨hq, hp, ho⟩ := hrel
      rw [← hP] at *
      have z0 : wr.cell? ⟨w.heap.size, 0, none⟩ = some (.int .i64 0) := cell_of hq rfl
      have z1 : wr.cell? ⟨w.heap.size, 1, none⟩ = some (.int .u64 0) := cell_of hq rfl
      have z2 : wr.cell? ⟨w.heap.size, 2, none⟩ = some (.int .u64 0) := cell_of hq rfl
      have z3 : wr.cell? ⟨w.heap.size, 3, none⟩ = some (.int .u64 0) := cell_of hq rfl
      have z4 : wr.cell? ⟨w.heap.size, 4, none⟩ = some (.int .u64 0) := cell_of hq rfl
      have z5 : wr.cell? ⟨w.heap.size, 5, none⟩ = some (.slice none 0 0) := cell_of hq rfl
      have y0 := free_of hq 0
      have y1 := free_of hq 1
      have y2 := free_of hq 2
      have y3 := free_of hq 3
      have y4 := free_of hq 4
      have y5 := free_of hq 5
      have x0 : wr.cell? ⟨P, 0, none⟩ = some (.int .i64 kind) := cell_of hp rfl
      have x1 : wr.cell? ⟨P, 1, none⟩ = some (.int .u64 (xs 0)) := cell_of hp rfl
      have x2 : wr.cell? ⟨P, 2, none⟩ = some (.int .u64 (xs 1)) := cell_of hp rfl
      have x3 : wr.cell? ⟨P, 3, none⟩ = some (.int .u64 (xs 2)) := cell_of hp rfl
      have x4 : wr.cell? ⟨P, 4, none⟩ = some (.int .u64 (xs 3)) := cell_of hp rfl
      have x5 : wr.cell? ⟨P, 5, none⟩ = some (.slice po n cap) := cell_of hp rfl
      have v0 := free_of hp 0
      have v1 := free_of hp 1
      have v2 := free_of hp 2
      have v3 := free_of hp 3
      have v4 := free_of hp 4
      have v5 := free_of hp 5
      have HO := hide ho
      clear hq hp ho
      go_wp2
      refine bodyPost_ret (v := .tuple #[.agg (nodeAg kind xs po n cap), .bool false]) (by simp [results, Tryz.results158, go_sem, nodeAg, z0, z1, z2, z3, z4, z5]) rfl ⟨((((((HO.out.setCell (p := ⟨w.heap.size, 0, none⟩) (hn 0) _).setCell (p := ⟨w.heap.size, 1, none⟩) (hn 1) _).setCell (p := ⟨w.heap.size, 2, none⟩) (hn 2) _).setCell (p := ⟨w.heap.size, 3, none⟩) (hn 3) _).setCell (p := ⟨w.heap.size, 4, none⟩) (hn 4) _).setCell (p := ⟨w.heap.size, 5, none⟩) (hn 5) _), kind, xs, po, n, cap, ?_, ?_⟩
      · rw [HU.out]; rfl
      · intro R j h
        rw [HU.out] at h
        cases h
  | some p =>
    obtain ⟨R0, j0⟩ := p
    have hpg := unitP_prog (choice_prog _ f) hc
    rw [len_eq] at hpg
    obtain ⟨hr0, d0, hd0⟩ := HD.out R0 j0 hc
    obtain ⟨Res, HRes⟩ : ∃ Res, Hid (signsP (s.data.toList.length + 1) s.data.toList j0 R0 = Res) := ⟨_, rfl⟩
    have HU : Hid (repP (choiceP s.data.toList f) s.data.toList i = some Res) := by
      show repP _ _ _ = _
      unfold repP
      rw [hc]
      simp only
      rw [HRes.out]
    have HR2 := hide hr0
    have HD0 : Hid (Den d0 (j0 - i) w1 (fun g => w.heap.size < g ∧ g ≠ w1.heap.size) (nodeCs kind xs po n cap) R0) := hd0.mono (fun g hl hg => ⟨by simp at hg; omega, by omega⟩)
    clear hc hr0 hd0 HD
    simp only [Option.isSome_some]
    go_wp2
    go_loopw [6] (fun _ wr => ∃ (j m : Nat) (kd : Int) (ys : Nat → Nat) (qo : Option Addr) (nn cp : Nat) (R : Pat) (d : Nat), i ≤ j ∧ j ≤ s.size ∧ s.size - j < m ∧ signsP m s.data.toList j R = Res ∧ RdB wr b s j ∧ wr.heap[w.heap.size]? = some (.cells (nodeAg 0 (fun _ => 0) none 0 0) 118 (0, 0)) ∧ wr.heap[w1.heap.size]? = some (.cells (nodeAg kd ys qo nn cp) 118 (0, 0)) ∧ Den d (j - i) wr (fun g => w.heap.size < g ∧ g ≠ w1.heap.size) (nodeCs kd ys qo nn cp) R ∧ Only (fun k => k = b) w wr) (fun _ wr => s.size - posOf wr b)
    case atStart => exact ⟨j0, _, kind, xs, po, n, cap, R0, d0, by omega, hpg.2, by rw [len_eq]; omega, HRes.out, HR2.out.alloc' _, (Below.heap_alloc _ _ _ hsz).trans HQ.out, new0 w1 _, HD0.out.frame (by simp) (fun g _ hl => Below.heap_alloc _ _ _ hl), HO1.out.alloc _⟩
    case round =>
      clear HQ HO1 HR2 HD0 HRes
      obtain ⟨j, m, kd, ys, qo, nn, cp, R, d, hij, hj, hm, hres, hr, hq, hp, hd, ho⟩ := hrel
      obtain ⟨m, rfl⟩ : ∃ m', m = m' + 1 := ⟨m - 1, by omega⟩
      generalize w1.heap.size = P at *
      have z0 : wr.cell? ⟨w.heap.size, 0, none⟩ = some (.int .i64 0) := cell_of hq rfl
      have z1 : wr.cell? ⟨w.heap.size, 1, none⟩ = some (.int .u64 0) := cell_of hq rfl
      have z2 : wr.cell? ⟨w.heap.size, 2, none⟩ = some (.int .u64 0) := cell_of hq rfl
      have z3 : wr.cell? ⟨w.heap.size, 3, none⟩ = some (.int .u64 0) := cell_of hq rfl
      have z4 : wr.cell? ⟨w.heap.size, 4, none⟩ = some (.int .u64 0) := cell_of hq rfl
      have z5 : wr.cell? ⟨w.heap.size, 5, none⟩ = some (.slice none 0 0) := cell_of hq rfl
      have y0 := free_of hq 0
      have y1 := free_of hq 1
      have y2 := free_of hq 2
      have y3 := free_of hq 3
      have y4 := free_of hq 4
      have y5 := free_of hq 5
      have x0 : wr.cell? ⟨P, 0, none⟩ = some (.int .i64 kd) := cell_of hp rfl
      have x1 : wr.cell? ⟨P, 1, none⟩ = some (.int .u64 (ys 0)) := cell_of hp rfl
      have x2 : wr.cell? ⟨P, 2, none⟩ = some (.int .u64 (ys 1)) := cell_of hp rfl
      have x3 : wr.cell? ⟨P, 3, none⟩ = some (.int .u64 (ys 2)) := cell_of hp rfl
      have x4 : wr.cell? ⟨P, 4, none⟩ = some (.int .u64 (ys 3)) := cell_of hp rfl
      have x5 : wr.cell? ⟨P, 5, none⟩ = some (.slice qo nn cp) := cell_of hp rfl
      have v0 := free_of hp 0
      have v1 := free_of hp 1
      have v2 := free_of hp 2
      have v3 := free_of hp 3
      have v4 := free_of hp 4
      have v5 := free_of hp 5
      have HRd := hide hr
      have HDn := hide hd
      have HO := hide ho
      have HPos := hide (pos_of hr)
      have hbP : b ≠ P := by omega
      by_cases hlt : j < s.size
      · have HG := hide (get_of_lt s j hlt)
        have c0 : wr.cell? ⟨b, 0, none⟩ = some (.string s) := hr.at.1
        have c1 : wr.cell? ⟨b, 1, none⟩ = some (.int .i64 j) := hr.at.2
        have f1 : wr.frozen? ⟨b, 1, none⟩ = false := hr.free 1
        cases hsg : isSign s[j]
        · have HRs : Hid (Res = (R, j)) := by
            show Res = _
            rw [← hres]
            exact signsP_stop (fun c hc => by rw [HG.out] at hc; cases hc; exact hsg)
          have HS : Hid (∀ W : World, Calls Tryz.prog 206 #[.int .u8 s[j].toNat] W fun e w' => e = .returned (.tuple #[.int .i64 (signKind s[j].toNat), .bool false]) ∧ w' = W) := fun W => by rw [← hsg]; exact repetition_any s[j] W
          clear hres hr hq hp hd ho hsg
          go_wp2_with (go_at_call 84; refine (ended_no b 0 s j hlt _ HRd.out.at).mono ?_; rintro e w' ⟨rfl, n3, rfl⟩)
          go_quiet (first | (go_at_call 206; exact (HS.out _).mono (fun _ _ h => ⟨h.1, _, h.2⟩)))
          go_wp2
          refine bodyPost_ret (v := .tuple #[.agg (nodeAg kd ys qo nn cp), .bool true]) (by simp [results, Tryz.results158, go_sem, nodeAg, z0, z1, z2, z3, z4, z5]) rfl ⟨(((((((HO.out.drewN (n3 + nq)).setCell (p := ⟨w.heap.size, 0, none⟩) (hn 0) _).setCell (p := ⟨w.heap.size, 1, none⟩) (hn 1) _).setCell (p := ⟨w.heap.size, 2, none⟩) (hn 2) _).setCell (p := ⟨w.heap.size, 3, none⟩) (hn 3) _).setCell (p := ⟨w.heap.size, 4, none⟩) (hn 4) _).setCell (p := ⟨w.heap.size, 5, none⟩) (hn 5) _), kd, ys, qo, nn, cp, ?_, ?_⟩
          · rw [HU.out]; rfl
          · intro R' j' h
            rw [HU.out, HRs.out] at h
            cases h
            refine ⟨(((((((HRd.out.drewN (n3 + nq)).setNe (p := ⟨w.heap.size, 0, none⟩) hbw _).setNe (p := ⟨w.heap.size, 1, none⟩) hbw _).setNe (p := ⟨w.heap.size, 2, none⟩) hbw _).setNe (p := ⟨w.heap.size, 3, none⟩) hbw _).setNe (p := ⟨w.heap.size, 4, none⟩) hbw _).setNe (p := ⟨w.heap.size, 5, none⟩) hbw _), d, ?_⟩
            refine Den.mono (Den.frame HDn.out (by simp [World.setCell]) ?_) (fun g _ hg => by omega)
            intro g hg hl
            rw [Below.heap_setCell _ _ _ _ (show g ≠ w.heap.size by omega), Below.heap_setCell _ _ _ _ (show g ≠ w.heap.size by omega), Below.heap_setCell _ _ _ _ (show g ≠ w.heap.size by omega), Below.heap_setCell _ _ _ _ (show g ≠ w.heap.size by omega), Below.heap_setCell _ _ _ _ (show g ≠ w.heap.size by omega), Below.heap_setCell _ _ _ _ (show g ≠ w.heap.size by omega), drewN_heap]
        · have HS : Hid (∀ W : World, Calls Tryz.prog 206 #[.int .u8 s[j].toNat] W fun e w' => e = .returned (.tuple #[.int .i64 (signKind s[j].toNat), .bool true]) ∧ w' = W) := fun W => by rw [← hsg]; exact repetition_any s[j] W
          have HRs : Hid (signsP m s.data.toList (j + 1) (signR s[j].toNat R) = Res) := by
            show signsP _ _ _ _ = _
            rw [← hres]
            exact (signsP_step HG.out hsg).symm
          have HSg := hide hsg
          have HQ2 := hide hq
          have HP2 := hide hp
          have hPl := heap_lt hp
          clear hres hr hq hp hd ho hsg
          go_wp2_with (go_at_call 84; refine (ended_no b 0 s j hlt _ HRd.out.at).mono ?_; rintro e w' ⟨rfl, n3, rfl⟩)
          go_quiet (first | (go_at_call 206; exact (HS.out _).mono (fun _ _ h => ⟨h.1, _, h.2⟩)))
          go_wp2
          have hsx : ((((((((wr.drewN (n3 + nq)).setCell ⟨b, 1, none⟩ (.int .i64 ((j : Int) + 1))).setCell ⟨P, 0, none⟩ (.int .i64 (signKind s[j].toNat))).setCell ⟨P, 1, none⟩ (.int .u64 0)).setCell ⟨P, 2, none⟩ (.int .u64 0)).setCell ⟨P, 3, none⟩ (.int .u64 0)).setCell ⟨P, 4, none⟩ (.int .u64 0)).setCell ⟨P, 5, none⟩ (.slice (some ⟨wr.heap.size, 0, none⟩) 1 1)).heap.size = wr.heap.size := by simp only [size_setCell, drewN_heap]
          have HOn : Hid (Only (fun k => k = b ∨ k = P) wr (((((((((wr.drewN (n3 + nq)).setCell ⟨b, 1, none⟩ (.int .i64 ((j : Int) + 1))).setCell ⟨P, 0, none⟩ (.int .i64 (signKind s[j].toNat))).setCell ⟨P, 1, none⟩ (.int .u64 0)).setCell ⟨P, 2, none⟩ (.int .u64 0)).setCell ⟨P, 3, none⟩ (.int .u64 0)).setCell ⟨P, 4, none⟩ (.int .u64 0)).setCell ⟨P, 5, none⟩ (.slice (some ⟨wr.heap.size, 0, none⟩) 1 1)).alloc (.cells #[.int .i64 kd, .int .u64 (ys 0), .int .u64 (ys 1), .int .u64 (ys 2), .int .u64 (ys 3), .slice qo nn cp] 118))) := (((((((((Only.refl (fun k => k = b ∨ k = P) wr).drewN (n3 + nq)).setCell (p := ⟨b, 1, none⟩) (fun _ => Or.inl rfl) _).setCell (p := ⟨P, 0, none⟩) (fun _ => Or.inr rfl) _).setCell (p := ⟨P, 1, none⟩) (fun _ => Or.inr rfl) _).setCell (p := ⟨P, 2, none⟩) (fun _ => Or.inr rfl) _).setCell (p := ⟨P, 3, none⟩) (fun _ => Or.inr rfl) _).setCell (p := ⟨P, 4, none⟩) (fun _ => Or.inr rfl) _).setCell (p := ⟨P, 5, none⟩) (fun _ => Or.inr rfl) _).alloc _
          have HRn : Hid (RdB (((((((((wr.drewN (n3 + nq)).setCell ⟨b, 1, none⟩ (.int .i64 ((j : Int) + 1))).setCell ⟨P, 0, none⟩ (.int .i64 (signKind s[j].toNat))).setCell ⟨P, 1, none⟩ (.int .u64 0)).setCell ⟨P, 2, none⟩ (.int .u64 0)).setCell ⟨P, 3, none⟩ (.int .u64 0)).setCell ⟨P, 4, none⟩ (.int .u64 0)).setCell ⟨P, 5, none⟩ (.slice (some ⟨wr.heap.size, 0, none⟩) 1 1)).alloc (.cells #[.int .i64 kd, .int .u64 (ys 0), .int .u64 (ys 1), .int .u64 (ys 2), .int .u64 (ys 3), .slice qo nn cp] 118)) b s (j + 1)) := ((((((((HRd.out.drewN (n3 + nq)).set (j + 1)).setNe (p := ⟨P, 0, none⟩) hbP _).setNe (p := ⟨P, 1, none⟩) hbP _).setNe (p := ⟨P, 2, none⟩) hbP _).setNe (p := ⟨P, 3, none⟩) hbP _).setNe (p := ⟨P, 4, none⟩) hbP _).setNe (p := ⟨P, 5, none⟩) hbP _).alloc' _
          have HPb : ((wr.drewN (n3 + nq)).setCell ⟨b, 1, none⟩ (.int .i64 ((j : Int) + 1))).heap[P]? = some (.cells (nodeAg kd ys qo nn cp) 118 (0, 0)) := (Below.heap_setCell _ _ _ _ (Ne.symm hbP)).trans HP2.out
          have HPn : Hid ((((((((((wr.drewN (n3 + nq)).setCell ⟨b, 1, none⟩ (.int .i64 ((j : Int) + 1))).setCell ⟨P, 0, none⟩ (.int .i64 (signKind s[j].toNat))).setCell ⟨P, 1, none⟩ (.int .u64 0)).setCell ⟨P, 2, none⟩ (.int .u64 0)).setCell ⟨P, 3, none⟩ (.int .u64 0)).setCell ⟨P, 4, none⟩ (.int .u64 0)).setCell ⟨P, 5, none⟩ (.slice (some ⟨wr.heap.size, 0, none⟩) 1 1)).alloc (.cells #[.int .i64 kd, .int .u64 (ys 0), .int .u64 (ys 1), .int .u64 (ys 2), .int .u64 (ys 3), .slice qo nn cp] 118)).heap[P]? = some (.cells (nodeAg (signKind s[j].toNat) (fun _ => 0) (some ⟨wr.heap.size, 0, none⟩) 1 1) 118 (0, 0))) := (Below.heap_alloc _ _ _ (by rw [hsx]; exact hPl)).trans (heap_setCell_same (o := 5) (heap_setCell_same (o := 4) (heap_setCell_same (o := 3) (heap_setCell_same (o := 2) (heap_setCell_same (o := 1) (heap_setCell_same (o := 0) HPb (.int .i64 (signKind s[j].toNat))) (.int .u64 0)) (.int .u64 0)) (.int .u64 0)) (.int .u64 0)) (.slice (some ⟨wr.heap.size, 0, none⟩) 1 1))
          have hnw : (((((((((wr.drewN (n3 + nq)).setCell ⟨b, 1, none⟩ (.int .i64 ((j : Int) + 1))).setCell ⟨P, 0, none⟩ (.int .i64 (signKind s[j].toNat))).setCell ⟨P, 1, none⟩ (.int .u64 0)).setCell ⟨P, 2, none⟩ (.int .u64 0)).setCell ⟨P, 3, none⟩ (.int .u64 0)).setCell ⟨P, 4, none⟩ (.int .u64 0)).setCell ⟨P, 5, none⟩ (.slice (some ⟨wr.heap.size, 0, none⟩) 1 1)).alloc (.cells #[.int .i64 kd, .int .u64 (ys 0), .int .u64 (ys 1), .int .u64 (ys 2), .int .u64 (ys 3), .slice qo nn cp] 118)).heap[wr.heap.size]? = some (.cells (nodeAg kd ys qo nn cp) 118 (0, 0)) := by
            have := heap_alloc_new ((((((((wr.drewN (n3 + nq)).setCell ⟨b, 1, none⟩ (.int .i64 ((j : Int) + 1))).setCell ⟨P, 0, none⟩ (.int .i64 (signKind s[j].toNat))).setCell ⟨P, 1, none⟩ (.int .u64 0)).setCell ⟨P, 2, none⟩ (.int .u64 0)).setCell ⟨P, 3, none⟩ (.int .u64 0)).setCell ⟨P, 4, none⟩ (.int .u64 0)).setCell ⟨P, 5, none⟩ (.slice (some ⟨wr.heap.size, 0, none⟩) 1 1)) (.cells (nodeAg kd ys qo nn cp) 118)
            rw [hsx] at this
            exact this
          have hwsz := HOn.out.size
          have hnl := heap_lt hnw
          have hws : w.heap.size < wr.heap.size := heap_lt HQ2.out
          have HDd : Hid (Den (d + 1) (j + 1 - i) (((((((((wr.drewN (n3 + nq)).setCell ⟨b, 1, none⟩ (.int .i64 ((j : Int) + 1))).setCell ⟨P, 0, none⟩ (.int .i64 (signKind s[j].toNat))).setCell ⟨P, 1, none⟩ (.int .u64 0)).setCell ⟨P, 2, none⟩ (.int .u64 0)).setCell ⟨P, 3, none⟩ (.int .u64 0)).setCell ⟨P, 4, none⟩ (.int .u64 0)).setCell ⟨P, 5, none⟩ (.slice (some ⟨wr.heap.size, 0, none⟩) 1 1)).alloc (.cells #[.int .i64 kd, .int .u64 (ys 0), .int .u64 (ys 1), .int .u64 (ys 2), .int .u64 (ys 3), .slice qo nn cp] 118)) (fun g => w.heap.size < g ∧ g ≠ P) (nodeCs (signKind s[j].toNat) (fun _ => 0) (some ⟨wr.heap.size, 0, none⟩) 1 1) (signR s[j].toNat R)) := by
            refine ⟨signKind s[j].toNat, fun _ => 0, _, 1, 1, [R], [j - i], rfl, sign_is HSg.out R _, rfl, by decide, rfl, by rw [sign_cost HSg.out]; simp; omega, Or.inr ⟨wr.heap.size, rfl, ⟨hws, by omega⟩, hnl, fun i A M hA hM => ?_⟩⟩
            match i, hA, hM with
            | 0, hA, hM =>
              cases hA
              cases hM
              refine ⟨nodeCs kd ys qo nn cp, fun q v hv => ?_, HDn.out.only HOn.out (fun g hg => by omega)⟩
              refine cell_of hnw ?_
              rw [Nat.zero_mul, Nat.zero_add, show nodeAg kd ys qo nn cp = (nodeCs kd ys qo nn cp).toArray from rfl, List.getElem?_toArray]
              exact hv
          have HQn : Hid ((((((((((wr.drewN (n3 + nq)).setCell ⟨b, 1, none⟩ (.int .i64 ((j : Int) + 1))).setCell ⟨P, 0, none⟩ (.int .i64 (signKind s[j].toNat))).setCell ⟨P, 1, none⟩ (.int .u64 0)).setCell ⟨P, 2, none⟩ (.int .u64 0)).setCell ⟨P, 3, none⟩ (.int .u64 0)).setCell ⟨P, 4, none⟩ (.int .u64 0)).setCell ⟨P, 5, none⟩ (.slice (some ⟨wr.heap.size, 0, none⟩) 1 1)).alloc (.cells #[.int .i64 kd, .int .u64 (ys 0), .int .u64 (ys 1), .int .u64 (ys 2), .int .u64 (ys 3), .slice qo nn cp] 118)).heap[w.heap.size]? = some (.cells (nodeAg 0 (fun _ => 0) none 0 0) 118 (0, 0))) := (HOn.out.block _ hws (by omega)).trans HQ2.out
          have HOo : Hid (Only (fun k => k = b) w (((((((((wr.drewN (n3 + nq)).setCell ⟨b, 1, none⟩ (.int .i64 ((j : Int) + 1))).setCell ⟨P, 0, none⟩ (.int .i64 (signKind s[j].toNat))).setCell ⟨P, 1, none⟩ (.int .u64 0)).setCell ⟨P, 2, none⟩ (.int .u64 0)).setCell ⟨P, 3, none⟩ (.int .u64 0)).setCell ⟨P, 4, none⟩ (.int .u64 0)).setCell ⟨P, 5, none⟩ (.slice (some ⟨wr.heap.size, 0, none⟩) 1 1)).alloc (.cells #[.int .i64 kd, .int .u64 (ys 0), .int .u64 (ys 1), .int .u64 (ys 2), .int .u64 (ys 3), .slice qo nn cp] 118))) := HO.out.trans HOn.out (fun k hk e => by omega)
          have hpn := pos_of HRn.out
          go_roundw
          case rel => exact ⟨j + 1, m, _, _, _, _, _, _, d + 1, by omega, by omega, by omega, HRs.out, HRn.out, HQn.out, HPn.out, HDd.out, HOo.out⟩
          case measure => rw [hpn, HPos.out]; omega
      · obtain rfl : j = s.size := by omega
        have HRs : Hid (Res = (R, s.size)) := by
          show Res = _
          rw [← hres]
          exact signsP_stop (fun c hc => by rw [get_none s s.size (Nat.le_refl _)] at hc; cases hc)
        clear hres hr hq hp hd ho
        go_wp2_with (go_at_call 84; refine (ended_yes b 0 s s.size rfl _ HRd.out.at).mono ?_; rintro e w' ⟨rfl, n3, rfl⟩)
        refine bodyPost_ret (v := .tuple #[.agg (nodeAg kd ys qo nn cp), .bool true]) (by simp [results, Tryz.results158, go_sem, nodeAg, z0, z1, z2, z3, z4, z5]) rfl ⟨(((((((HO.out.drewN (n3)).setCell (p := ⟨w.heap.size, 0, none⟩) (hn 0) _).setCell (p := ⟨w.heap.size, 1, none⟩) (hn 1) _).setCell (p := ⟨w.heap.size, 2, none⟩) (hn 2) _).setCell (p := ⟨w.heap.size, 3, none⟩) (hn 3) _).setCell (p := ⟨w.heap.size, 4, none⟩) (hn 4) _).setCell (p := ⟨w.heap.size, 5, none⟩) (hn 5) _), kd, ys, qo, nn, cp, ?_, ?_⟩
        · rw [HU.out]; rfl
        · intro R' j' h
          rw [HU.out, HRs.out] at h
          cases h
          refine ⟨(((((((HRd.out.drewN (n3)).setNe (p := ⟨w.heap.size, 0, none⟩) hbw _).setNe (p := ⟨w.heap.size, 1, none⟩) hbw _).setNe (p := ⟨w.heap.size, 2, none⟩) hbw _).setNe (p := ⟨w.heap.size, 3, none⟩) hbw _).setNe (p := ⟨w.heap.size, 4, none⟩) hbw _).setNe (p := ⟨w.heap.size, 5, none⟩) hbw _), d, ?_⟩
          refine Den.mono (Den.frame HDn.out (by simp [World.setCell]) ?_) (fun g _ hg => by omega)
          intro g hg hl
          rw [Below.heap_setCell _ _ _ _ (show g ≠ w.heap.size by omega), Below.heap_setCell _ _ _ _ (show g ≠ w.heap.size by omega), Below.heap_setCell _ _ _ _ (show g ≠ w.heap.size by omega), Below.heap_setCell _ _ _ _ (show g ≠ w.heap.size by omega), Below.heap_setCell _ _ _ _ (show g ≠ w.heap.size by omega), Below.heap_setCell _ _ _ _ (show g ≠ w.heap.size by omega), drewN_heap]
end Go.Proofs.YtdbdbaepmdmnfaaGreatDoor

