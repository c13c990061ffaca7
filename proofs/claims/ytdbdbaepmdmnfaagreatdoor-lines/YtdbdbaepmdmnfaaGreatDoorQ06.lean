import Derived.Test.YtdbdbaepmdmnfaaGreatDoorQ05
import Derived.Test.YtdbdbaepmdmnfaaGreatDoorQ02
namespace Go.Proofs.YtdbdbaepmdmnfaaGreatDoor
open Go.RowKit
def signKind (c : Nat) : Int := if c = 42 then 5 else if c = 43 then 6 else if c = 63 then 7 else 0
set_option maxHeartbeats 1000000 in
theorem repetition_any (c : UInt8) (w : World) :
    Calls Tryz.prog 206 #[.int .u8 c.toNat] w fun e w' => e = .returned (.tuple #[.int .i64 (signKind c.toNat), .bool (isSign c)]) ∧ w' = w := by
  by_cases h1 : (c.toNat : Int) = 42
  · have k1 : c.toNat = 42 := by omega
    go_enter Tryz.func206, Tryz.ntmps206
    go_wp2
    go_ret2
    exact ⟨by simp [signKind, isSign, k1], rfl⟩
  · by_cases h2 : (c.toNat : Int) = 43
    · have k1 : c.toNat = 43 := by omega
      go_enter Tryz.func206, Tryz.ntmps206
      go_wp2
      go_ret2
      exact ⟨by simp [signKind, isSign, k1], rfl⟩
    · by_cases h3 : (c.toNat : Int) = 63
      · have k1 : c.toNat = 63 := by omega
        go_enter Tryz.func206, Tryz.ntmps206
        go_wp2
        go_ret2
        exact ⟨by simp [signKind, isSign, k1], rfl⟩
      · have k1 : ¬ c.toNat = 42 := by omega
        have k2 : ¬ c.toNat = 43 := by omega
        have k3 : ¬ c.toNat = 63 := by omega
        go_enter Tryz.func206, Tryz.ntmps206
        go_wp2
        go_ret2
        exact ⟨by simp [signKind, isSign, k1, k2, k3], rfl⟩
end Go.Proofs.YtdbdbaepmdmnfaaGreatDoor
namespace Go.Proofs.YtdbdbaepmdmnfaaGreatDoor
open Go.RowKit
theorem signsP_stop {n : Nat} {l : List UInt8} {j : Nat} {R : Pat} (h : ∀ c, l[j]? = some c → isSign c = false) : signsP (n + 1) l j R = (R, j) := by
  unfold signsP
  split
  · rfl
  · rename_i c hc
    rw [h c hc]; rfl
theorem signsP_step {n : Nat} {l : List UInt8} {j : Nat} {R : Pat} {c : UInt8} (h : l[j]? = some c) (hc : isSign c = true) : signsP (n + 1) l j R = signsP n l (j + 1) (signR c.toNat R) := by
  conv => lhs; unfold signsP
  rw [h]
  simp only
  rw [hc]; rfl
theorem sign_is {c : UInt8} (h : isSign c = true) (R : Pat) (xs : Nat → Nat) : NodeIs (signKind c.toNat) xs [R] (signR c.toNat R) := by
  unfold isSign at h
  simp only [Bool.or_eq_true, beq_iff_eq] at h
  unfold NodeIs signKind signR
  rcases h with (h | h) | h
  · rw [h]; simp
  · rw [h]; simp
  · rw [h]; simp
theorem sign_cost {c : UInt8} (h : isSign c = true) : costOf (signKind c.toNat) 1 = 1 := by
  unfold isSign at h
  simp only [Bool.or_eq_true, beq_iff_eq] at h
  unfold costOf signKind
  rcases h with (h | h) | h <;> rw [h] <;> simp
theorem size_setCell (w : World) (p : Addr) (v : Value) : (w.setCell p v).heap.size = w.heap.size := by simp [World.setCell]
set_option maxHeartbeats 4000000 in
theorem repeated_any (f : Nat) (hf : ChoiceOK f) (b : Nat) (s : ByteArray) (hs : s.size ≤ maxLen) (h6 : s.size ≤ 65536) (i : Nat) (hi : i < s.size) (hfl : s.size - i ≤ f) (w : World) (h : RdB w b s i) :
    Calls Tryz.prog 158 #[.pointer (some ⟨b, 0, none⟩)] w (NodePost b s i w (repP (choiceP s.data.toList f) s.data.toList i)) := by
  have hbl := heap_lt h
  have hml : s.size ≤ 9223372036854775807 := hs
  have hbw : b ≠ w.heap.size := by omega
  have hn : ∀ o, w.heap.size < w.heap.size → (fun k => k = b) (Addr.block ⟨w.heap.size, o, none⟩) := fun _ h => absurd h (Nat.lt_irrefl _)
  have HR0 : ∀ o1, Hid (RdB (w.alloc o1) b s i) := fun o1 => h.alloc' o1
  have HF := hide hf
  clear h hf
  go_enter Tryz.func158, Tryz.ntmps158
  go_wp2_with fail
  refine (unit_any f HF.out b s hs h6 i hi hfl _ (HR0 _).out).mono ?_
  rintro e w1 ⟨ho1, kind, xs, po, n, cap, rfl, hden⟩
  have hq : w1.heap[w.heap.size]? = some (.cells (nodeAg 0 (fun _ => 0) none 0 0) 118 (0, 0)) := (ho1.block w.heap.size (by simp) (Ne.symm hbw)).trans (new0 w _)
  have HQ := hide hq
  have HO1 : Hid (Only (fun k => k = b) w w1) := ((Only.refl _ w).alloc _).trans ho1 (fun k _ e => e)
  have HD := hide hden
  have hsz := heap_lt hq
  have hb1 : b < w1.heap.size := Nat.lt_of_lt_of_le hbl HO1.out.size
  clear ho1 hq hden
  unfold nodeAg
  cases hc : unitP (choiceP s.data.toList f) s.data.toList i with
  | none =>
    have HU : Hid (repP (choiceP s.data.toList f) s.data.toList i = none) := by
      show repP _ _ _ = _
      unfold repP
      rw [hc]
    clear hc
    simp only [Option.isSome_none]
    go_wp2
    obtain ⟨P, hP⟩ : ∃ P, P = w1.heap.size := ⟨_, rfl⟩
    go_loopw [6] (fun _ wr => wr.heap[w.heap.size]? = some (.cells (nodeAg 0 (fun _ => 0) none 0 0) 118 (0, 0)) ∧ wr.heap[w1.heap.size]? = some (.cells (nodeAg kind xs po n cap) 118 (0, 0)) ∧ Only (fun k => k = b) w wr) (fun _ _ => 0)
    case atStart => exact ⟨(Below.heap_alloc _ _ _ hsz).trans HQ.out, new0 w1 _, HO1.out.alloc _⟩
    case round =>
      obtain ⟨hq, hp, ho⟩ := hrel
      rw [← hP] at *
      have z0 : wr.cell? ⟨w.heap.size, 0, none⟩ = some (.int .i64 0) := cell_of hq rfl
      have z1 : wr.cell? ⟨w.heap.size, 1, none⟩ = some (.int .u64 0) := cell_of hq rfl
      have z2 : wr.cell? ⟨w.heap.size, 2, none⟩ = some (.int .u64 0) := cell_of hq rfl
      have z3 : wr.cell? ⟨w.heap.size, 3, none⟩ = some (.int .u64 0) := cell_of hq rfl
      have z4 : wr.cell? ⟨w.heap.size, 4, none⟩ = some (.int .u64 0) := cell_of hq rfl
      have z5 : wr.cell? ⟨w.heap.size, 5, none⟩ = some (.slice none 0 0) := cell_of hq rfl
      have y0 := free_of hq 0
      have y1 := free_of hq 1
      have y2 := free_of hq 2
      have y3 := free_of hq 3
      have y4 := free_of hq 4
      have y5 := free_of hq 5
      have x0 : wr.cell? ⟨P, 0, none⟩ = some (.int .i64 kind) := cell_of hp rfl
      have x1 : wr.cell? ⟨P, 1, none⟩ = some (.int .u64 (xs 0)) := cell_of hp rfl
      have x2 : wr.cell? ⟨P, 2, none⟩ = some (.int .u64 (xs 1)) := cell_of hp rfl
      have x3 : wr.cell? ⟨P, 3, none⟩ = some (.int .u64 (xs 2)) := cell_of hp rfl
      have x4 : wr.cell? ⟨P, 4, none⟩ = some (.int .u64 (xs 3)) := cell_of hp rfl
      have x5 : wr.cell? ⟨P, 5, none⟩ = some (.slice po n cap) := cell_of hp rfl
      have v0 := free_of hp 0
      have v1 := free_of hp 1
      have v2 := free_of hp 2
      have v3 := free_of hp 3
      have v4 := free_of hp 4
      have v5 := free_of hp 5
      have HO := hide ho
      clear hq hp ho
      go_wp2
      refine bodyPost_ret (v := .tuple #[.agg (nodeAg kind xs po n cap), .bool false]) (by simp [results, Tryz.results158, go_sem, nodeAg, z0, z1, z2, z3, z4, z5]) rfl ⟨((((((HO.out.setCell (p := ⟨w.heap.size, 0, none⟩) (hn 0) _).setCell (p := ⟨w.heap.size, 1, none⟩) (hn 1) _).setCell (p := ⟨w.heap.size, 2, none⟩) (hn 2) _).setCell (p := ⟨w.heap.size, 3, none⟩) (hn 3) _).setCell (p := ⟨w.heap.size, 4, none⟩) (hn 4) _).setCell (p := ⟨w.heap.size, 5, none⟩) (hn 5) _), kind, xs, po, n, cap, ?_, ?_⟩
      · rw [HU.out]; rfl
      · intro R j h
        rw [HU.out] at h
        cases h
  | some p =>
    obtain ⟨R0, j0⟩ := p
    have hpg := unitP_prog (choice_prog _ f) hc
    rw [len_eq] at hpg
    obtain ⟨hr0, d0, hd0⟩ := HD.out R0 j0 hc
    obtain ⟨Res, HRes⟩ : ∃ Res, Hid (signsP (s.data.toList.length + 1) s.data.toList j0 R0 = Res) := ⟨_, rfl⟩
    have HU : Hid (repP (choiceP s.data.toList f) s.data.toList i = some Res) := by
      show repP _ _ _ = _
      unfold repP
      rw [hc]
      simp only
      rw [HRes.out]
    have HR2 := hide hr0
    have HD0 : Hid (Den d0 (j0 - i) w1 (fun g => w.heap.size < g ∧ g ≠ w1.heap.size) (nodeCs kind xs po n cap) R0) := hd0.mono (fun g hl hg => ⟨by simp at hg; omega, by omega⟩)
    clear hc hr0 hd0 HD
    simp only [Option.isSome_some]
    go_wp2
    go_loopw [6] (fun _ wr => ∃ (j m : Nat) (kd : Int) (ys : Nat → Nat) (qo : Option Addr) (nn cp : Nat) (R : Pat) (d : Nat), i ≤ j ∧ j ≤ s.size ∧ s.size - j < m ∧ signsP m s.data.toList j R = Res ∧ RdB wr b s j ∧ wr.heap[w.heap.size]? = some (.cells (nodeAg 0 (fun _ => 0) none 0 0) 118 (0, 0)) ∧ wr.heap[w1.heap.size]? = some (.cells (nodeAg kd ys qo nn cp) 118 (0, 0)) ∧ Den d (j - i) wr (fun g => w.heap.size < g ∧ g ≠ w1.heap.size) (nodeCs kd ys qo nn cp) R ∧ Only (fun k => k = b) w wr) (fun _ wr => s.size - posOf wr b)
    case atStart => exact ⟨j0, _, kind, xs, po, n, cap, R0, d0, by omega, hpg.2, by rw [len_eq]; omega, HRes.out, HR2.out.alloc' _, (Below.heap_alloc _ _ _ hsz).trans HQ.out, new0 w1 _, HD0.out.frame (by simp) (fun g _ hl => Below.heap_alloc _ _ _ hl), HO1.out.alloc _⟩
    case round =>
      clear HQ HO1 HR2 HD0 HRes
      obtain ⟨j, m, kd, ys, qo, nn, cp, R, d, hij, hj, hm, hres, hr, hq, hp, hd, ho⟩ := hrel
      obtain ⟨m, rfl⟩ : ∃ m', m = m' + 1 := ⟨m - 1, by omega⟩
      generalize w1.heap.size = P at *
      have z0 : wr.cell? ⟨w.heap.size, 0, none⟩ = some (.int .i64 0) := cell_of hq rfl
      have z1 : wr.cell? ⟨w.heap.size, 1, none⟩ = some (.int .u64 0) := cell_of hq rfl
      have z2 : wr.cell? ⟨w.heap.size, 2, none⟩ = some (.int .u64 0) := cell_of hq rfl
      have z3 : wr.cell? ⟨w.heap.size, 3, none⟩ = some (.int .u64 0) := cell_of hq rfl
      have z4 : wr.cell? ⟨w.heap.size, 4, none⟩ = some (.int .u64 0) := cell_of hq rfl
      have z5 : wr.cell? ⟨w.heap.size, 5, none⟩ = some (.slice none 0 0) := cell_of hq rfl
      have y0 := free_of hq 0
      have y1 := free_of hq 1
      have y2 := free_of hq 2
      have y3 := free_of hq 3
      have y4 := free_of hq 4
      have y5 := free_of hq 5
      have x0 : wr.cell? ⟨P, 0, none⟩ = some (.int .i64 kd) := cell_of hp rfl
      have x1 : wr.cell? ⟨P, 1, none⟩ = some (.int .u64 (ys 0)) := cell_of hp rfl
      have x2 : wr.cell? ⟨P, 2, none⟩ = some (.int .u64 (ys 1)) := cell_of hp rfl
      have x3 : wr.cell? ⟨P, 3, none⟩ = some (.int .u64 (ys 2)) := cell_of hp rfl
      have x4 : wr.cell? ⟨P, 4, none⟩ = some (.int .u64 (ys 3)) := cell_of hp rfl
      have x5 : wr.cell? ⟨P, 5, none⟩ = some (.slice qo nn cp) := cell_of hp rfl
      have v0 := free_of hp 0
      have v1 := free_of hp 1
      have v2 := free_of hp 2
      have v3 := free_of hp 3
      have v4 := free_of hp 4
      have v5 := free_of hp 5
      have HRd := hide hr
      have HDn := hide hd
      have HO := hide ho
      have HPos := hide (pos_of hr)
      have hbP : b ≠ P := by omega
      by_cases hlt : j < s.size
      · have HG := hide (get_of_lt s j hlt)
        have c0 : wr.cell? ⟨b, 0, none⟩ = some (.string s) := hr.at.1
        have c1 : wr.cell? ⟨b, 1, none⟩ = some (.int .i64 j) := hr.at.2
        have f1 : wr.frozen? ⟨b, 1, none⟩ = false := hr.free 1
        cases hsg : isSign s[j]
        · have HRs : Hid (Res = (R, j)) := by
            show Res = _
            rw [← hres]
            exact signsP_stop (fun c hc => by rw [HG.out] at hc; cases hc; exact hsg)
          have HS : Hid (∀ W : World, Calls Tryz.prog 206 #[.int .u8 s[j].toNat] W fun e w' => e = .returned (.tuple #[.int .i64 (signKind s[j].toNat), .bool false]) ∧ w' = W) := fun W => by rw [← hsg]; exact repetition_any s[j] W
          clear hres hr hq hp hd ho hsg
          go_wp2_with (go_at_call 84; refine (ended_no b 0 s j hlt _ HRd.out.at).mono ?_; rintro e w' ⟨rfl, n3, rfl⟩)
          go_quiet (first | (go_at_call 206; exact (HS.out _).mono (fun _ _ h => ⟨h.1, _, h.2⟩)))
          go_wp2
          refine bodyPost_ret (v := .tuple #[.agg (nodeAg kd ys qo nn cp), .bool true]) (by simp [results, Tryz.results158, go_sem, nodeAg, z0, z1, z2, z3, z4, z5]) rfl ⟨(((((((HO.out.drewN (n3 + nq)).setCell (p := ⟨w.heap.size, 0, none⟩) (hn 0) _).setCell (p := ⟨w.heap.size, 1, none⟩) (hn 1) _).setCell (p := ⟨w.heap.size, 2, none⟩) (hn 2) _).setCell (p := ⟨w.heap.size, 3, none⟩) (hn 3) _).setCell (p := ⟨w.heap.size, 4, none⟩) (hn 4) _).setCell (p := ⟨w.heap.size, 5, none⟩) (hn 5) _), kd, ys, qo, nn, cp, ?_, ?_⟩
          · rw [HU.out]; rfl
          · intro R' j' h
            rw [HU.out, HRs.out] at h
            cases h
            refine ⟨(((((((HRd.out.drewN (n3 + nq)).setNe (p := ⟨w.heap.size, 0, none⟩) hbw _).setNe (p := ⟨w.heap.size, 1, none⟩) hbw _).setNe (p := ⟨w.heap.size, 2, none⟩) hbw _).setNe (p := ⟨w.heap.size, 3, none⟩) hbw _).setNe (p := ⟨w.heap.size, 4, none⟩) hbw _).setNe (p := ⟨w.heap.size, 5, none⟩) hbw _), d, ?_⟩
            refine Den.mono (Den.frame HDn.out (by simp [World.setCell]) ?_) (fun g _ hg => by omega)
            intro g hg hl
            rw [Below.heap_setCell _ _ _ _ (show g ≠ w.heap.size by omega), Below.heap_setCell _ _ _ _ (show g ≠ w.heap.size by omega), Below.heap_setCell _ _ _ _ (show g ≠ w.heap.size by omega), Below.heap_setCell _ _ _ _ (show g ≠ w.heap.size by omega), Below.heap_setCell _ _ _ _ (show g ≠ w.heap.size by omega), Below.heap_setCell _ _ _ _ (show g ≠ w.heap.size by omega), drewN_heap]
        · have HS : Hid (∀ W : World, Calls Tryz.prog 206 #[.int .u8 s[j].toNat] W fun e w' => e = .returned (.tuple #[.int .i64 (signKind s[j].toNat), .bool true]) ∧ w' = W) := fun W => by rw [← hsg]; exact repetition_any s[j] W
          have HRs : Hid (signsP m s.data.toList (j + 1) (signR s[j].toNat R) = Res) := by
            show signsP _ _ _ _ = _
            rw [← hres]
            exact (signsP_step HG.out hsg).symm
          have HSg := hide hsg
          have HQ2 := hide hq
          have HP2 := hide hp
          have hPl := heap_lt hp
          clear hres hr hq hp hd ho hsg
          go_wp2_with (go_at_call 84; refine (ended_no b 0 s j hlt _ HRd.out.at).mono ?_; rintro e w' ⟨rfl, n3, rfl⟩)
          go_quiet (first | (go_at_call 206; exact (HS.out _).mono (fun _ _ h => ⟨h.1, _, h.2⟩)))
          go_wp2
          have hsx : ((((((((wr.drewN (n3 + nq)).setCell ⟨b, 1, none⟩ (.int .i64 ((j : Int) + 1))).setCell ⟨P, 0, none⟩ (.int .i64 (signKind s[j].toNat))).setCell ⟨P, 1, none⟩ (.int .u64 0)).setCell ⟨P, 2, none⟩ (.int .u64 0)).setCell ⟨P, 3, none⟩ (.int .u64 0)).setCell ⟨P, 4, none⟩ (.int .u64 0)).setCell ⟨P, 5, none⟩ (.slice (some ⟨wr.heap.size, 0, none⟩) 1 1)).heap.size = wr.heap.size := by simp only [size_setCell, drewN_heap]
          have HOn : Hid (Only (fun k => k = b ∨ k = P) wr (((((((((wr.drewN (n3 + nq)).setCell ⟨b, 1, none⟩ (.int .i64 ((j : Int) + 1))).setCell ⟨P, 0, none⟩ (.int .i64 (signKind s[j].toNat))).setCell ⟨P, 1, none⟩ (.int .u64 0)).setCell ⟨P, 2, none⟩ (.int .u64 0)).setCell ⟨P, 3, none⟩ (.int .u64 0)).setCell ⟨P, 4, none⟩ (.int .u64 0)).setCell ⟨P, 5, none⟩ (.slice (some ⟨wr.heap.size, 0, none⟩) 1 1)).alloc (.cells #[.int .i64 kd, .int .u64 (ys 0), .int .u64 (ys 1), .int .u64 (ys 2), .int .u64 (ys 3), .slice qo nn cp] 118))) := (((((((((Only.refl (fun k => k = b ∨ k = P) wr).drewN (n3 + nq)).setCell (p := ⟨b, 1, none⟩) (fun _ => Or.inl rfl) _).setCell (p := ⟨P, 0, none⟩) (fun _ => Or.inr rfl) _).setCell (p := ⟨P, 1, none⟩) (fun _ => Or.inr rfl) _).setCell (p := ⟨P, 2, none⟩) (fun _ => Or.inr rfl) _).setCell (p := ⟨P, 3, none⟩) (fun _ => Or.inr rfl) _).setCell (p := ⟨P, 4, none⟩) (fun _ => Or.inr rfl) _).setCell (p := ⟨P, 5, none⟩) (fun _ => Or.inr rfl) _).alloc _
          have HRn : Hid (RdB (((((((((wr.drewN (n3 + nq)).setCell ⟨b, 1, none⟩ (.int .i64 ((j : Int) + 1))).setCell ⟨P, 0, none⟩ (.int .i64 (signKind s[j].toNat))).setCell ⟨P, 1, none⟩ (.int .u64 0)).setCell ⟨P, 2, none⟩ (.int .u64 0)).setCell ⟨P, 3, none⟩ (.int .u64 0)).setCell ⟨P, 4, none⟩ (.int .u64 0)).setCell ⟨P, 5, none⟩ (.slice (some ⟨wr.heap.size, 0, none⟩) 1 1)).alloc (.cells #[.int .i64 kd, .int .u64 (ys 0), .int .u64 (ys 1), .int .u64 (ys 2), .int .u64 (ys 3), .slice qo nn cp] 118)) b s (j + 1)) := ((((((((HRd.out.drewN (n3 + nq)).set (j + 1)).setNe (p := ⟨P, 0, none⟩) hbP _).setNe (p := ⟨P, 1, none⟩) hbP _).setNe (p := ⟨P, 2, none⟩) hbP _).setNe (p := ⟨P, 3, none⟩) hbP _).setNe (p := ⟨P, 4, none⟩) hbP _).setNe (p := ⟨P, 5, none⟩) hbP _).alloc' _
          have HPb : ((wr.drewN (n3 + nq)).setCell ⟨b, 1, none⟩ (.int .i64 ((j : Int) + 1))).heap[P]? = some (.cells (nodeAg kd ys qo nn cp) 118 (0, 0)) := (Below.heap_setCell _ _ _ _ (Ne.symm hbP)).trans HP2.out
          have HPn : Hid ((((((((((wr.drewN (n3 + nq)).setCell ⟨b, 1, none⟩ (.int .i64 ((j : Int) + 1))).setCell ⟨P, 0, none⟩ (.int .i64 (signKind s[j].toNat))).setCell ⟨P, 1, none⟩ (.int .u64 0)).setCell ⟨P, 2, none⟩ (.int .u64 0)).setCell ⟨P, 3, none⟩ (.int .u64 0)).setCell ⟨P, 4, none⟩ (.int .u64 0)).setCell ⟨P, 5, none⟩ (.slice (some ⟨wr.heap.size, 0, none⟩) 1 1)).alloc (.cells #[.int .i64 kd, .int .u64 (ys 0), .int .u64 (ys 1), .int .u64 (ys 2), .int .u64 (ys 3), .slice qo nn cp] 118)).heap[P]? = some (.cells (nodeAg (signKind s[j].toNat) (fun _ => 0) (some ⟨wr.heap.size, 0, none⟩) 1 1) 118 (0, 0))) := (Below.heap_alloc _ _ _ (by rw [hsx]; exact hPl)).trans (heap_setCell_same (o := 5) (heap_setCell_same (o := 4) (heap_setCell_same (o := 3) (heap_setCell_same (o := 2) (heap_setCell_same (o := 1) (heap_setCell_same (o := 0) HPb (.int .i64 (signKind s[j].toNat))) (.int .u64 0)) (.int .u64 0)) (.int .u64 0)) (.int .u64 0)) (.slice (some ⟨wr.heap.size, 0, none⟩) 1 1))
          have hnw : (((((((((wr.drewN (n3 + nq)).setCell ⟨b, 1, none⟩ (.int .i64 ((j : Int) + 1))).setCell ⟨P, 0, none⟩ (.int .i64 (signKind s[j].toNat))).setCell ⟨P, 1, none⟩ (.int .u64 0)).setCell ⟨P, 2, none⟩ (.int .u64 0)).setCell ⟨P, 3, none⟩ (.int .u64 0)).setCell ⟨P, 4, none⟩ (.int .u64 0)).setCell ⟨P, 5, none⟩ (.slice (some ⟨wr.heap.size, 0, none⟩) 1 1)).alloc (.cells #[.int .i64 kd, .int .u64 (ys 0), .int .u64 (ys 1), .int .u64 (ys 2), .int .u64 (ys 3), .slice qo nn cp] 118)).heap[wr.heap.size]? = some (.cells (nodeAg kd ys qo nn cp) 118 (0, 0)) := by
            have := heap_alloc_new ((((((((wr.drewN (n3 + nq)).setCell ⟨b, 1, none⟩ (.int .i64 ((j : Int) + 1))).setCell ⟨P, 0, none⟩ (.int .i64 (signKind s[j].toNat))).setCell ⟨P, 1, none⟩ (.int .u64 0)).setCell ⟨P, 2, none⟩ (.int .u64 0)).setCell ⟨P, 3, none⟩ (.int .u64 0)).setCell ⟨P, 4, none⟩ (.int .u64 0)).setCell ⟨P, 5, none⟩ (.slice (some ⟨wr.heap.size, 0, none⟩) 1 1)) (.cells (nodeAg kd ys qo nn cp) 118)
            rw [hsx] at this
            exact this
          have hwsz := HOn.out.size
          have hnl := heap_lt hnw
          have hws : w.heap.size < wr.heap.size := heap_lt HQ2.out
          have HDd : Hid (Den (d + 1) (j + 1 - i) (((((((((wr.drewN (n3 + nq)).setCell ⟨b, 1, none⟩ (.int .i64 ((j : Int) + 1))).setCell ⟨P, 0, none⟩ (.int .i64 (signKind s[j].toNat))).setCell ⟨P, 1, none⟩ (.int .u64 0)).setCell ⟨P, 2, none⟩ (.int .u64 0)).setCell ⟨P, 3, none⟩ (.int .u64 0)).setCell ⟨P, 4, none⟩ (.int .u64 0)).setCell ⟨P, 5, none⟩ (.slice (some ⟨wr.heap.size, 0, none⟩) 1 1)).alloc (.cells #[.int .i64 kd, .int .u64 (ys 0), .int .u64 (ys 1), .int .u64 (ys 2), .int .u64 (ys 3), .slice qo nn cp] 118)) (fun g => w.heap.size < g ∧ g ≠ P) (nodeCs (signKind s[j].toNat) (fun _ => 0) (some ⟨wr.heap.size, 0, none⟩) 1 1) (signR s[j].toNat R)) := by
            refine ⟨signKind s[j].toNat, fun _ => 0, _, 1, 1, [R], [j - i], rfl, sign_is HSg.out R _, rfl, by decide, rfl, by rw [sign_cost HSg.out]; simp; omega, Or.inr ⟨wr.heap.size, rfl, ⟨hws, by omega⟩, hnl, fun i A M hA hM => ?_⟩⟩
            match i, hA, hM with
            | 0, hA, hM =>
              cases hA
              cases hM
              refine ⟨nodeCs kd ys qo nn cp, fun q v hv => ?_, HDn.out.only HOn.out (fun g hg => by omega)⟩
              refine cell_of hnw ?_
              rw [Nat.zero_mul, Nat.zero_add, show nodeAg kd ys qo nn cp = (nodeCs kd ys qo nn cp).toArray from rfl, List.getElem?_toArray]
              exact hv
          have HQn : Hid ((((((((((wr.drewN (n3 + nq)).setCell ⟨b, 1, none⟩ (.int .i64 ((j : Int) + 1))).setCell ⟨P, 0, none⟩ (.int .i64 (signKind s[j].toNat))).setCell ⟨P, 1, none⟩ (.int .u64 0)).setCell ⟨P, 2, none⟩ (.int .u64 0)).setCell ⟨P, 3, none⟩ (.int .u64 0)).setCell ⟨P, 4, none⟩ (.int .u64 0)).setCell ⟨P, 5, none⟩ (.slice (some ⟨wr.heap.size, 0, none⟩) 1 1)).alloc (.cells #[.int .i64 kd, .int .u64 (ys 0), .int .u64 (ys 1), .int .u64 (ys 2), .int .u64 (ys 3), .slice qo nn cp] 118)).heap[w.heap.size]? = some (.cells (nodeAg 0 (fun _ => 0) none 0 0) 118 (0, 0))) := (HOn.out.block _ hws (by omega)).trans HQ2.out
          have HOo : Hid (Only (fun k => k = b) w (((((((((wr.drewN (n3 + nq)).setCell ⟨b, 1, none⟩ (.int .i64 ((j : Int) + 1))).setCell ⟨P, 0, none⟩ (.int .i64 (signKind s[j].toNat))).setCell ⟨P, 1, none⟩ (.int .u64 0)).setCell ⟨P, 2, none⟩ (.int .u64 0)).setCell ⟨P, 3, none⟩ (.int .u64 0)).setCell ⟨P, 4, none⟩ (.int .u64 0)).setCell ⟨P, 5, none⟩ (.slice (some ⟨wr.heap.size, 0, none⟩) 1 1)).alloc (.cells #[.int .i64 kd, .int .u64 (ys 0), .int .u64 (ys 1), .int .u64 (ys 2), .int .u64 (ys 3), .slice qo nn cp] 118))) := HO.out.trans HOn.out (fun k hk e => by omega)
          have hpn := pos_of HRn.out
          go_roundw
          case rel => exact ⟨j + 1, m, _, _, _, _, _, _, d + 1, by omega, by omega, by omega, HRs.out, HRn.out, HQn.out, HPn.out, HDd.out, HOo.out⟩
          case measure => rw [hpn, HPos.out]; omega
      · obtain rfl : j = s.size := by omega
        have HRs : Hid (Res = (R, s.size)) := by
          show Res = _
          rw [← hres]
          exact signsP_stop (fun c hc => by rw [get_none s s.size (Nat.le_refl _)] at hc; cases hc)
        clear hres hr hq hp hd ho
        go_wp2_with (go_at_call 84; refine (ended_yes b 0 s s.size rfl _ HRd.out.at).mono ?_; rintro e w' ⟨rfl, n3, rfl⟩)
        refine bodyPost_ret (v := .tuple #[.agg (nodeAg kd ys qo nn cp), .bool true]) (by simp [results, Tryz.results158, go_sem, nodeAg, z0, z1, z2, z3, z4, z5]) rfl ⟨(((((((HO.out.drewN (n3)).setCell (p := ⟨w.heap.size, 0, none⟩) (hn 0) _).setCell (p := ⟨w.heap.size, 1, none⟩) (hn 1) _).setCell (p := ⟨w.heap.size, 2, none⟩) (hn 2) _).setCell (p := ⟨w.heap.size, 3, none⟩) (hn 3) _).setCell (p := ⟨w.heap.size, 4, none⟩) (hn 4) _).setCell (p := ⟨w.heap.size, 5, none⟩) (hn 5) _), kd, ys, qo, nn, cp, ?_, ?_⟩
        · rw [HU.out]; rfl
        · intro R' j' h
          rw [HU.out, HRs.out] at h
          cases h
          refine ⟨(((((((HRd.out.drewN (n3)).setNe (p := ⟨w.heap.size, 0, none⟩) hbw _).setNe (p := ⟨w.heap.size, 1, none⟩) hbw _).setNe (p := ⟨w.heap.size, 2, none⟩) hbw _).setNe (p := ⟨w.heap.size, 3, none⟩) hbw _).setNe (p := ⟨w.heap.size, 4, none⟩) hbw _).setNe (p := ⟨w.heap.size, 5, none⟩) hbw _), d, ?_⟩
          refine Den.mono (Den.frame HDn.out (by simp [World.setCell]) ?_) (fun g _ hg => by omega)
          intro g hg hl
          rw [Below.heap_setCell _ _ _ _ (show g ≠ w.heap.size by omega), Below.heap_setCell _ _ _ _ (show g ≠ w.heap.size by omega), Below.heap_setCell _ _ _ _ (show g ≠ w.heap.size by omega), Below.heap_setCell _ _ _ _ (show g ≠ w.heap.size by omega), Below.heap_setCell _ _ _ _ (show g ≠ w.heap.size by omega), Below.heap_setCell _ _ _ _ (show g ≠ w.heap.size by omega), drewN_heap]
end Go.Proofs.YtdbdbaepmdmnfaaGreatDoor
namespace Go.Proofs.YtdbdbaepmdmnfaaGreatDoor
open Go.RowKit
theorem RdB.grown {w w' b s i row} (h : RdB w b s i) (hg : w.grownBy w' row) (hr : some b ≠ row) : RdB w' b s i := (hg.block b (heap_lt h) hr).trans h
theorem rowP_go {sub : Nat → Option (Pat × Nat)} {l : List UInt8} {n i : Nat} {acc : List Pat} (h : i < l.length ∧ hasB l i 124 = false ∧ hasB l i 41 = false) : rowP sub l (n + 1) i acc = (match repP sub l i with | none => none | some (R, j) => rowP sub l n j (acc ++ [R])) := by
  conv => lhs; unfold rowP
  rw [if_pos h]
  cases repP sub l i with
  | none => rfl
  | some p => rfl
theorem rowP_stop {sub : Nat → Option (Pat × Nat)} {l : List UInt8} {n i : Nat} {acc : List Pat} (h : ¬ (i < l.length ∧ hasB l i 124 = false ∧ hasB l i 41 = false)) : rowP sub l (n + 1) i acc = if acc.length = 0 then none else some (rowR acc, i) := by
  conv => lhs; unfold rowP
  rw [if_neg h]
theorem nodeCs_ok (kind : Int) (xs : Nat → Nat) (po : Option Addr) (n cap : Nat) : ∀ u ∈ nodeCs kind xs po n cap, u.oneCell' = true := by
  intro u hu
  unfold nodeCs at hu
  simp at hu
  rcases hu with rfl | rfl | rfl | rfl | rfl | rfl <;> rfl
theorem nodeAt_ok {w : World} {g : Nat} {kind : Int} {xs : Nat → Nat} {po : Option Addr} {n cap : Nat} (h : w.heap[g]? = some (.cells (nodeAg kind xs po n cap) 118 (0, 0))) : ∀ j u, (nodeCs kind xs po n cap)[j]? = some u → w.cell? ((⟨g, 0, none⟩ : Addr).add j) = some u := by
  intro j u hj
  have : w.cell? ⟨g, 0 + j, none⟩ = some u := cell_of h (by rw [Nat.zero_add, show nodeAg kind xs po n cap = (nodeCs kind xs po n cap).toArray from rfl, List.getElem?_toArray]; exact hj)
  unfold Addr.add
  rw [Nat.zero_add] at this
  split
  · rename_i h0
    rw [h0] at this; exact this
  · simpa using this
theorem newb1 (w : World) (a c : Obj) : ((w.alloc a).alloc c).heap[w.heap.size + 1]? = some c := by have := heap_alloc_new (w.alloc a) c; rwa [show (w.alloc a).heap.size = w.heap.size + 1 by simp] at this
theorem info133 : (Tryz.prog.info? 118).map (fun i => (i.zero, i.size, i.bytes)) = some (some (.agg (nodeAg 0 (fun _ => 0) none 0 0)), 6, 64) := by kernel_rfl
set_option maxHeartbeats 4000000 in
theorem row_any (f : Nat) (hf : ChoiceOK f) (b : Nat) (s : ByteArray) (hs : s.size ≤ maxLen) (h6 : s.size ≤ 65536) (i : Nat) (hi : i ≤ s.size) (hfl : s.size - i ≤ f) (w : World) (h : RdB w b s i) :
    Calls Tryz.prog 121 #[.pointer (some ⟨b, 0, none⟩)] w (NodePost b s i w (rowP (choiceP s.data.toList f) s.data.toList (s.data.toList.length + 1) i [])) := by
  have hbl := heap_lt h
  have hml : s.size ≤ 9223372036854775807 := hs
  have hbw : b ≠ w.heap.size := by omega
  have hn : ∀ o, w.heap.size < w.heap.size → (fun k => k = b) (Addr.block ⟨w.heap.size, o, none⟩) := fun _ h => absurd h (Nat.lt_irrefl _)
  obtain ⟨i0, hi0, hz0, hz1, hz2⟩ := info_parts info133
  obtain ⟨Res, HRes⟩ : ∃ Res, Hid (rowP (choiceP s.data.toList f) s.data.toList (s.data.toList.length + 1) i [] = Res) := ⟨_, rfl⟩
  rw [HRes.out]
  have HR0 : ∀ o1 o2, Hid (RdB ((w.alloc o1).alloc o2) b s i) := fun o1 o2 => (h.alloc' o1).alloc' o2
  have HF := hide hf
  have hlen : s.data.toList.length = s.size := len_eq s
  clear h hf
  go_enter Tryz.func121, Tryz.ntmps121
  go_wp2_with fail
  go_loopw [6] (fun _ wr => ∃ (j m : Nat) (acc : List Pat) (d : Nat) (xs : List Value) (po : Option Addr) (cap : Nat), j ≤ s.size ∧ i ≤ j ∧ s.size - j < m ∧ acc.length ≤ j ∧ rowP (choiceP s.data.toList f) s.data.toList m j acc = Res ∧ RdB wr b s j ∧ wr.heap[w.heap.size]? = some (.cells (nodeAg 0 (fun _ => 0) none 0 0) 118 (0, 0)) ∧ wr.heap[w.heap.size + 1]? = some (.cells (nodeAg 3 (fun _ => 0) po acc.length cap) 118 (0, 0)) ∧ PartsOf d (j - i) xs wr (w.heap.size + 2) (.slice po acc.length cap) acc ∧ Only (fun k => k = b) w wr) (fun _ wr => s.size - posOf wr b)
  case atStart => exact ⟨i, _, [], 0, [], none, 0, hi, Nat.le_refl _, by rw [len_eq]; omega, Nat.zero_le _, HRes.out, (HR0 _ _).out, (Below.heap_alloc _ _ _ (by simp)).trans (new0 w _), newb1 w _ _, PartsOf.nil _ _ _, ((Only.refl _ w).alloc _).alloc _⟩
  case round =>
    clear HR0 HRes
    obtain ⟨j, m, acc, d, xs, po, cap, hj, hij, hm, haj, hres, hr, hq, hp, hpt, ho⟩ := hrel
    obtain ⟨m, rfl⟩ : ∃ m', m = m' + 1 := ⟨m - 1, by omega⟩
    have HRd := hide hr
    have HPt := hide hpt
    have HO := hide ho
    have HQ := hide hq
    have HP := hide hp
    have HPos := hide (pos_of hr)
    have hpl := heap_lt hp
    have z0 : wr.cell? ⟨w.heap.size, 0, none⟩ = some (.int .i64 0) := cell_of hq rfl
    have z1 : wr.cell? ⟨w.heap.size, 1, none⟩ = some (.int .u64 0) := cell_of hq rfl
    have z2 : wr.cell? ⟨w.heap.size, 2, none⟩ = some (.int .u64 0) := cell_of hq rfl
    have z3 : wr.cell? ⟨w.heap.size, 3, none⟩ = some (.int .u64 0) := cell_of hq rfl
    have z4 : wr.cell? ⟨w.heap.size, 4, none⟩ = some (.int .u64 0) := cell_of hq rfl
    have z5 : wr.cell? ⟨w.heap.size, 5, none⟩ = some (.slice none 0 0) := cell_of hq rfl
    have y0 := free_of hq 0
    have y1 := free_of hq 1
    have y2 := free_of hq 2
    have y3 := free_of hq 3
    have y4 := free_of hq 4
    have y5 := free_of hq 5
    have x0 : wr.cell? ⟨w.heap.size + 1, 0, none⟩ = some (.int .i64 3) := cell_of hp rfl
    have x1 : wr.cell? ⟨w.heap.size + 1, 1, none⟩ = some (.int .u64 0) := cell_of hp rfl
    have x2 : wr.cell? ⟨w.heap.size + 1, 2, none⟩ = some (.int .u64 0) := cell_of hp rfl
    have x3 : wr.cell? ⟨w.heap.size + 1, 3, none⟩ = some (.int .u64 0) := cell_of hp rfl
    have x4 : wr.cell? ⟨w.heap.size + 1, 4, none⟩ = some (.int .u64 0) := cell_of hp rfl
    have x5 : wr.cell? ⟨w.heap.size + 1, 5, none⟩ = some (.slice po acc.length cap) := cell_of hp rfl
    have v5 := free_of hp 5
    by_cases hgo : j < s.data.toList.length ∧ hasB s.data.toList j 124 = false ∧ hasB s.data.toList j 41 = false
    · rw [rowP_go hgo] at hres
      obtain ⟨hlt, hb1, hb2⟩ := hgo
      rw [hlen] at hlt
      have HB1 := hide hb1
      have HB2 := hide hb2
      have Hres := hide hres
      clear hres hr hq hp hpt ho hb1 hb2
      go_wp2_with fail
      refine (ended_no b 0 s j hlt _ HRd.out.at).mono ?_
      rintro e w' ⟨rfl, n3, rfl⟩
      go_wp2_with fail
      refine (sees_is b 0 s j hj 124 false HB1.out _ (HRd.out.drewN _).at).mono ?_
      rintro e w' ⟨rfl, n4, rfl⟩
      go_wp2_with fail
      refine (sees_is b 0 s j hj 41 false HB2.out _ (HRd.out.drewN _).at).mono ?_
      rintro e w' ⟨rfl, n5, rfl⟩
      go_wp2_with fail
      refine (repeated_any f HF.out b s hs h6 j hlt (by omega) _ (HRd.out.drewN _)).mono ?_
      rintro e w1 ⟨ho1, kd, ys, qo, nn, cp, rfl, hden⟩
      have HO1 : Hid (Only (fun k => k = b) wr w1) := ((Only.refl _ wr).drewN _).trans ho1 (fun k _ e => e)
      have hsz1 : wr.heap.size ≤ w1.heap.size := HO1.out.size
      have hq := (HO1.out.block w.heap.size (by omega) (Ne.symm hbw)).trans HQ.out
      have hp := (HO1.out.block (w.heap.size + 1) hpl (by omega)).trans HP.out
      have HPt1 := hide (HPt.out.only HO1.out (fun k hk _ e => by omega))
      have HD := hide hden
      clear ho1 hden z0 z1 z2 z3 z4 z5 y0 y1 y2 y3 y4 y5 x0 x1 x2 x3 x4 x5 v5
      have z0 : w1.cell? ⟨w.heap.size, 0, none⟩ = some (.int .i64 0) := cell_of hq rfl
      have z1 : w1.cell? ⟨w.heap.size, 1, none⟩ = some (.int .u64 0) := cell_of hq rfl
      have z2 : w1.cell? ⟨w.heap.size, 2, none⟩ = some (.int .u64 0) := cell_of hq rfl
      have z3 : w1.cell? ⟨w.heap.size, 3, none⟩ = some (.int .u64 0) := cell_of hq rfl
      have z4 : w1.cell? ⟨w.heap.size, 4, none⟩ = some (.int .u64 0) := cell_of hq rfl
      have z5 : w1.cell? ⟨w.heap.size, 5, none⟩ = some (.slice none 0 0) := cell_of hq rfl
      have y0 := free_of hq 0
      have y1 := free_of hq 1
      have y2 := free_of hq 2
      have y3 := free_of hq 3
      have y4 := free_of hq 4
      have y5 := free_of hq 5
      have x0 : w1.cell? ⟨w.heap.size + 1, 0, none⟩ = some (.int .i64 3) := cell_of hp rfl
      have x1 : w1.cell? ⟨w.heap.size + 1, 1, none⟩ = some (.int .u64 0) := cell_of hp rfl
      have x2 : w1.cell? ⟨w.heap.size + 1, 2, none⟩ = some (.int .u64 0) := cell_of hp rfl
      have x3 : w1.cell? ⟨w.heap.size + 1, 3, none⟩ = some (.int .u64 0) := cell_of hp rfl
      have x4 : w1.cell? ⟨w.heap.size + 1, 4, none⟩ = some (.int .u64 0) := cell_of hp rfl
      have x5 : w1.cell? ⟨w.heap.size + 1, 5, none⟩ = some (.slice po acc.length cap) := cell_of hp rfl
      have v5 := free_of hp 5
      have HQ1 := hide hq
      have HP1 := hide hp
      have hsq1 := heap_lt hq
      have hsp1 := heap_lt hp
      clear hq hp
      unfold nodeAg
      cases hc : repP (choiceP s.data.toList f) s.data.toList j with
      | none =>
        have HU : Hid (Res = none) := by
          have := Hres.out
          rw [hc] at this
          exact this.symm
        clear hc Hres
        simp only [Option.isSome_none]
        go_wp2
        refine bodyPost_ret (v := .tuple #[.agg (nodeAg 0 (fun _ => 0) none 0 0), .bool false]) (by simp [results, Tryz.results121, go_sem, nodeAg, z0, z1, z2, z3, z4, z5, hsq1]) rfl ⟨?_, 0, fun _ => 0, none, 0, 0, ?_, ?_⟩
        · exact (((((((HO.out.trans HO1.out (fun k _ e => e)).setCell (p := ⟨w.heap.size, 0, none⟩) (hn 0) _).setCell (p := ⟨w.heap.size, 1, none⟩) (hn 1) _).setCell (p := ⟨w.heap.size, 2, none⟩) (hn 2) _).setCell (p := ⟨w.heap.size, 3, none⟩) (hn 3) _).setCell (p := ⟨w.heap.size, 4, none⟩) (hn 4) _).setCell (p := ⟨w.heap.size, 5, none⟩) (hn 5) _).alloc _
        · rw [HU.out]; rfl
        · intro R j h
          rw [HU.out] at h
          cases h
      | some p =>
        obtain ⟨R1, j1⟩ := p
        have hpg := repP_prog (choice_prog _ f) hc
        rw [len_eq] at hpg
        obtain ⟨hr1, d1, hd1⟩ := HD.out R1 j1 hc
        have HRs : Hid (rowP (choiceP s.data.toList f) s.data.toList m j1 (acc ++ [R1]) = Res) := by
          have := Hres.out
          rw [hc] at this
          exact this
        have HR1 := hide hr1
        have HD1 : Hid (Den d1 (j1 - j) w1 (fun g => wr.heap.size ≤ g) (nodeCs kd ys qo nn cp) R1) := hd1
        have HPt2 : ∀ A B, Hid (PartsOf d (j - i) xs ((w1.alloc A).alloc B) (w.heap.size + 2) (.slice po acc.length cap) acc) := fun A B => HPt1.out.only (((Only.refl (fun _ => False) w1).alloc A).alloc B) (fun _ _ _ e => e)
        have HD2 : ∀ A B, Hid (Den d1 (j1 - j) ((w1.alloc A).alloc B) (fun g => wr.heap.size ≤ g) (nodeCs kd ys qo nn cp) R1) := fun A B => HD1.out.only (((Only.refl (fun _ => False) w1).alloc A).alloc B) (fun _ _ e => e)
        clear hc hr1 hd1 HD Hres
        simp only [Option.isSome_some]
        go_wp2_with (at_builtin; refine wpList_append_sep _ rfl (.tmp 30) (.tmp 32) 116 rfl (w.heap.size + 2) 118 i0 (.agg (nodeAg 0 (fun _ => 0) none 0 0)) 6 64 Tryz.underlying116 hi0 hz0 hz1 hz2 rfl (by decide) _ _ xs rfl (HPt2 _ _).out.1 ⟨w1.heap.size + 1, 0, none⟩ 1 1 (nodeCs kd ys qo nn cp) rfl rfl ?c1 ?c2 (by decide) ?c3 ?c4 ?c5 ?_)
        case c1 => exact nodeAt_ok (newb1 w1 _ _)
        case c2 => exact nodeCs_ok _ _ _ _ _
        case c3 => unfold maxLen; omega
        case c4 => omega
        case c5 => simp; omega
        intro v' w2 hown' hgrow hmv
        obtain ⟨po', cap', rfl⟩ := ownsRow_slice hown'
        have hob : ∀ k, (Value.slice po acc.length cap).ownBlock = some k → w.heap.size + 2 ≤ k ∧ k < wr.heap.size := fun k hk => by
          have := HPt.out.1.lt k hk
          omega
        have hlg : (acc ++ [R1]).length = acc.length + 1 := by simp
        have HPt3 : Hid (PartsOf (max d d1) (j1 - i) (xs ++ nodeCs kd ys qo nn cp) w2 (w.heap.size + 2) (.slice po' (acc.length + 1) cap') (acc ++ [R1])) := ((HPt2 _ _).out.push (fun k hk => (hob k hk).2) (by omega) (HD2 _ _).out hown' hgrow hmv).more (by omega)
        have hne : ∀ k, k < w.heap.size + 2 → some k ≠ (Value.slice po acc.length cap).ownBlock := fun k hk e => by have := hob k e.symm; omega
        have hp2 := (hgrow.block (w.heap.size + 1) (by simp; omega) (hne _ (by omega))).trans ((Below.heap_alloc _ _ _ (by simp; omega)).trans ((Below.heap_alloc _ _ _ (by omega)).trans HP1.out))
        have hq2 := (hgrow.block w.heap.size (by simp; omega) (hne _ (by omega))).trans ((Below.heap_alloc _ _ _ (by simp; omega)).trans ((Below.heap_alloc _ _ _ (by omega)).trans HQ1.out))
        have HR2 : Hid (RdB w2 b s j1) := ((HR1.out.alloc' _).alloc' _).grown hgrow (hne b (by omega))
        have HO2 : Hid (Only (fun k => k = b) w w2) := (((HO.out.trans HO1.out (fun k _ e => e)).alloc _).alloc _).grown hgrow (fun k hk hl => by have := hob k hk; omega)
        have HP2 := hide hp2
        have HQ2 := hide hq2
        have v5' := free_of hp2 5
        have x5' : w2.cell? ⟨w.heap.size + 1, 5, none⟩ = some (.slice po acc.length cap) := cell_of hp2 rfl
        have hpl2 := heap_lt hp2
        have HLg := hide hlg
        clear hp2 hq2 hgrow hmv hown' hob hne hlg z0 z1 z2 z3 z4 z5 y0 y1 y2 y3 y4 y5 x0 x1 x2 x3 x4 x5 v5
        go_wp2
        have HPos2 := hide (pos_of (HR2.out.setNe (p := ⟨w.heap.size + 1, 5, none⟩) (by show b ≠ w.heap.size + 1; omega) (.slice po' (acc.length + 1) cap')))
        go_roundw
        case rel =>
          refine ⟨j1, m, acc ++ [R1], max d d1, xs ++ nodeCs kd ys qo nn cp, po', cap', hpg.2, by omega, by omega, by rw [HLg.out]; omega, HRs.out, HR2.out.setNe (p := ⟨w.heap.size + 1, 5, none⟩) (by show b ≠ w.heap.size + 1; omega) _, ?_, ?_, ?_, ?_⟩
          · exact (Below.heap_setCell _ _ _ _ (by show w.heap.size ≠ w.heap.size + 1; omega)).trans HQ2.out
          · rw [HLg.out]; exact heap_setCell_same HP2.out _
          · rw [HLg.out]; exact HPt3.out.only ((Only.refl (fun k => k = w.heap.size + 1) w2).setCell (p := ⟨w.heap.size + 1, 5, none⟩) (fun _ => rfl) _) (fun k hk _ e => by omega)
          · exact HO2.out.setCell (p := ⟨w.heap.size + 1, 5, none⟩) (fun h => absurd h (by show ¬ w.heap.size + 1 < w.heap.size; omega)) _
        case measure => rw [HPos2.out, HPos.out]; omega
    · rw [rowP_stop hgo] at hres
      have HRes := hide hres
      have hend : j = s.size ∨ (j < s.size ∧ hasB s.data.toList j 124 = true) ∨ (j < s.size ∧ hasB s.data.toList j 124 = false ∧ hasB s.data.toList j 41 = true) := by
        by_cases h1 : j < s.size
        · cases h2 : hasB s.data.toList j 124
          · cases h3 : hasB s.data.toList j 41
            · exact absurd ⟨by omega, h2, h3⟩ hgo
            · exact Or.inr (Or.inr ⟨h1, rfl, rfl⟩)
          · exact Or.inr (Or.inl ⟨h1, rfl⟩)
        · exact Or.inl (by omega)
      clear hres hr hq hp hpt ho hgo
      rcases hend with hend | ⟨hlt, hb1⟩ | ⟨hlt, hb1, hb2⟩
      · go_wp2_with (go_at_call 84; refine (ended_yes b 0 s j hend _ HRd.out.at).mono ?_; rintro e w' ⟨rfl, n3, rfl⟩)
        go_region
        have hb : decide (0 < acc.length) = Res.isSome := by
          rw [← HRes.out]
          by_cases h0 : acc.length = 0
          · rw [if_pos h0]; simp [h0]
          · rw [if_neg h0]; simp; omega
        go_wp2
        refine bodyPost_ret (v := .tuple #[.agg (nodeAg 3 (fun _ => 0) po acc.length cap), .bool (decide (0 < acc.length))]) (by simp [results, Tryz.results121, go_sem, nodeAg, z0, z1, z2, z3, z4, z5]) rfl ⟨(((((((HO.out.drewN _).setCell (p := ⟨w.heap.size, 0, none⟩) (hn 0) _).setCell (p := ⟨w.heap.size, 1, none⟩) (hn 1) _).setCell (p := ⟨w.heap.size, 2, none⟩) (hn 2) _).setCell (p := ⟨w.heap.size, 3, none⟩) (hn 3) _).setCell (p := ⟨w.heap.size, 4, none⟩) (hn 4) _).setCell (p := ⟨w.heap.size, 5, none⟩) (hn 5) _), 3, fun _ => 0, po, acc.length, cap, ?_, ?_⟩
        · rw [hb]
        · intro R j2 h
          rw [← HRes.out] at h
          split at h
          · cases h
          · cases h
            refine ⟨(((((((HRd.out.drewN _).setNe (p := ⟨w.heap.size, 0, none⟩) hbw _).setNe (p := ⟨w.heap.size, 1, none⟩) hbw _).setNe (p := ⟨w.heap.size, 2, none⟩) hbw _).setNe (p := ⟨w.heap.size, 3, none⟩) hbw _).setNe (p := ⟨w.heap.size, 4, none⟩) hbw _).setNe (p := ⟨w.heap.size, 5, none⟩) hbw _), d + 1, ?_⟩
            refine Den.mono (Den.frame (HPt.out.den 3 (fun _ => 0) po cap rfl (Or.inr (Or.inr (Or.inr (Or.inl ⟨rfl, rfl⟩)))) HPt.out.size (M := j - i) (by show 0 + (j - i) ≤ j - i; omega)) (by simp [World.setCell]) ?_) (fun g _ hg => by omega)
            intro g hg hl
            rw [Below.heap_setCell _ _ _ _ (show g ≠ w.heap.size by omega), Below.heap_setCell _ _ _ _ (show g ≠ w.heap.size by omega), Below.heap_setCell _ _ _ _ (show g ≠ w.heap.size by omega), Below.heap_setCell _ _ _ _ (show g ≠ w.heap.size by omega), Below.heap_setCell _ _ _ _ (show g ≠ w.heap.size by omega), Below.heap_setCell _ _ _ _ (show g ≠ w.heap.size by omega), drewN_heap]
      · have HB1 := hide hb1
        clear hb1
        go_wp2_with fail
        refine (ended_no b 0 s j hlt _ HRd.out.at).mono ?_
        rintro e w' ⟨rfl, n3, rfl⟩
        go_wp2_with fail
        refine (sees_is b 0 s j hj 124 true HB1.out _ (HRd.out.drewN _).at).mono ?_
        rintro e w' ⟨rfl, n4, rfl⟩
        go_wp2
        go_region
        have hb : decide (0 < acc.length) = Res.isSome := by
          rw [← HRes.out]
          by_cases h0 : acc.length = 0
          · rw [if_pos h0]; simp [h0]
          · rw [if_neg h0]; simp; omega
        go_wp2
        refine bodyPost_ret (v := .tuple #[.agg (nodeAg 3 (fun _ => 0) po acc.length cap), .bool (decide (0 < acc.length))]) (by simp [results, Tryz.results121, go_sem, nodeAg, z0, z1, z2, z3, z4, z5]) rfl ⟨(((((((HO.out.drewN _).setCell (p := ⟨w.heap.size, 0, none⟩) (hn 0) _).setCell (p := ⟨w.heap.size, 1, none⟩) (hn 1) _).setCell (p := ⟨w.heap.size, 2, none⟩) (hn 2) _).setCell (p := ⟨w.heap.size, 3, none⟩) (hn 3) _).setCell (p := ⟨w.heap.size, 4, none⟩) (hn 4) _).setCell (p := ⟨w.heap.size, 5, none⟩) (hn 5) _), 3, fun _ => 0, po, acc.length, cap, ?_, ?_⟩
        · rw [hb]
        · intro R j2 h
          rw [← HRes.out] at h
          split at h
          · cases h
          · cases h
            refine ⟨(((((((HRd.out.drewN _).setNe (p := ⟨w.heap.size, 0, none⟩) hbw _).setNe (p := ⟨w.heap.size, 1, none⟩) hbw _).setNe (p := ⟨w.heap.size, 2, none⟩) hbw _).setNe (p := ⟨w.heap.size, 3, none⟩) hbw _).setNe (p := ⟨w.heap.size, 4, none⟩) hbw _).setNe (p := ⟨w.heap.size, 5, none⟩) hbw _), d + 1, ?_⟩
            refine Den.mono (Den.frame (HPt.out.den 3 (fun _ => 0) po cap rfl (Or.inr (Or.inr (Or.inr (Or.inl ⟨rfl, rfl⟩)))) HPt.out.size (M := j - i) (by show 0 + (j - i) ≤ j - i; omega)) (by simp [World.setCell]) ?_) (fun g _ hg => by omega)
            intro g hg hl
            rw [Below.heap_setCell _ _ _ _ (show g ≠ w.heap.size by omega), Below.heap_setCell _ _ _ _ (show g ≠ w.heap.size by omega), Below.heap_setCell _ _ _ _ (show g ≠ w.heap.size by omega), Below.heap_setCell _ _ _ _ (show g ≠ w.heap.size by omega), Below.heap_setCell _ _ _ _ (show g ≠ w.heap.size by omega), Below.heap_setCell _ _ _ _ (show g ≠ w.heap.size by omega), drewN_heap]
      · have HB1 := hide hb1
        have HB2 := hide hb2
        clear hb1 hb2
        go_wp2_with fail
        refine (ended_no b 0 s j hlt _ HRd.out.at).mono ?_
        rintro e w' ⟨rfl, n3, rfl⟩
        go_wp2_with fail
        refine (sees_is b 0 s j hj 124 false HB1.out _ (HRd.out.drewN _).at).mono ?_
        rintro e w' ⟨rfl, n4, rfl⟩
        go_wp2_with fail
        refine (sees_is b 0 s j hj 41 true HB2.out _ (HRd.out.drewN _).at).mono ?_
        rintro e w' ⟨rfl, n5, rfl⟩
        go_wp2
        go_region
        have hb : decide (0 < acc.length) = Res.isSome := by
          rw [← HRes.out]
          by_cases h0 : acc.length = 0
          · rw [if_pos h0]; simp [h0]
          · rw [if_neg h0]; simp; omega
        go_wp2
        refine bodyPost_ret (v := .tuple #[.agg (nodeAg 3 (fun _ => 0) po acc.length cap), .bool (decide (0 < acc.length))]) (by simp [results, Tryz.results121, go_sem, nodeAg, z0, z1, z2, z3, z4, z5]) rfl ⟨(((((((HO.out.drewN _).setCell (p := ⟨w.heap.size, 0, none⟩) (hn 0) _).setCell (p := ⟨w.heap.size, 1, none⟩) (hn 1) _).setCell (p := ⟨w.heap.size, 2, none⟩) (hn 2) _).setCell (p := ⟨w.heap.size, 3, none⟩) (hn 3) _).setCell (p := ⟨w.heap.size, 4, none⟩) (hn 4) _).setCell (p := ⟨w.heap.size, 5, none⟩) (hn 5) _), 3, fun _ => 0, po, acc.length, cap, ?_, ?_⟩
        · rw [hb]
        · intro R j2 h
          rw [← HRes.out] at h
          split at h
          · cases h
          · cases h
            refine ⟨(((((((HRd.out.drewN _).setNe (p := ⟨w.heap.size, 0, none⟩) hbw _).setNe (p := ⟨w.heap.size, 1, none⟩) hbw _).setNe (p := ⟨w.heap.size, 2, none⟩) hbw _).setNe (p := ⟨w.heap.size, 3, none⟩) hbw _).setNe (p := ⟨w.heap.size, 4, none⟩) hbw _).setNe (p := ⟨w.heap.size, 5, none⟩) hbw _), d + 1, ?_⟩
            refine Den.mono (Den.frame (HPt.out.den 3 (fun _ => 0) po cap rfl (Or.inr (Or.inr (Or.inr (Or.inl ⟨rfl, rfl⟩)))) HPt.out.size (M := j - i) (by show 0 + (j - i) ≤ j - i; omega)) (by simp [World.setCell]) ?_) (fun g _ hg => by omega)
            intro g hg hl
            rw [Below.heap_setCell _ _ _ _ (show g ≠ w.heap.size by omega), Below.heap_setCell _ _ _ _ (show g ≠ w.heap.size by omega), Below.heap_setCell _ _ _ _ (show g ≠ w.heap.size by omega), Below.heap_setCell _ _ _ _ (show g ≠ w.heap.size by omega), Below.heap_setCell _ _ _ _ (show g ≠ w.heap.size by omega), Below.heap_setCell _ _ _ _ (show g ≠ w.heap.size by omega), drewN_heap]
end Go.Proofs.YtdbdbaepmdmnfaaGreatDoor
namespace Go.Proofs.YtdbdbaepmdmnfaaGreatDoor
open Go.RowKit
theorem altP_none {sub : Nat → Option (Pat × Nat)} {l : List UInt8} {n i : Nat} {acc : List Pat} (h : rowP sub l (l.length + 1) i [] = none) : altP sub l (n + 1) i acc = none := by
  conv => lhs; unfold altP
  rw [h]
theorem altP_more {sub : Nat → Option (Pat × Nat)} {l : List UInt8} {n i j : Nat} {acc : List Pat} {R : Pat} (h : rowP sub l (l.length + 1) i [] = some (R, j)) (hb : hasB l j 124 = true) : altP sub l (n + 1) i acc = altP sub l n (j + 1) (acc ++ [R]) := by
  conv => lhs; unfold altP
  rw [h]
  simp only
  rw [hb]; rfl
theorem altP_end {sub : Nat → Option (Pat × Nat)} {l : List UInt8} {n i j : Nat} {acc : List Pat} {R : Pat} (h : rowP sub l (l.length + 1) i [] = some (R, j)) (hb : hasB l j 124 = false) : altP sub l (n + 1) i acc = some (altR (acc ++ [R]), j) := by
  conv => lhs; unfold altP
  rw [h]
  simp only
  rw [hb]; rfl
set_option maxHeartbeats 4000000 in
theorem choice_step (f : Nat) (hf : ChoiceOK f) (b : Nat) (s : ByteArray) (hs : s.size ≤ maxLen) (h6 : s.size ≤ 65536) (i : Nat) (hi : i ≤ s.size) (hfl : s.size - i < f + 1) (w : World) (h : RdB w b s i) :
    Calls Tryz.prog 83 #[.pointer (some ⟨b, 0, none⟩)] w (NodePost b s i w (altP (choiceP s.data.toList f) s.data.toList (s.data.toList.length + 1) i [])) := by
  have hbl := heap_lt h
  have hml : s.size ≤ 9223372036854775807 := hs
  have hbw : b ≠ w.heap.size := by omega
  have hbp : b ≠ w.heap.size + 1 := by omega
  have hn : ∀ o, w.heap.size < w.heap.size → (fun k => k = b) (Addr.block ⟨w.heap.size, o, none⟩) := fun _ h => absurd h (Nat.lt_irrefl _)
  obtain ⟨i0, hi0, hz0, hz1, hz2⟩ := info_parts info133
  obtain ⟨Res, HRes⟩ : ∃ Res, Hid (altP (choiceP s.data.toList f) s.data.toList (s.data.toList.length + 1) i [] = Res) := ⟨_, rfl⟩
  rw [HRes.out]
  have HR0 : ∀ o1 o2, Hid (RdB ((w.alloc o1).alloc o2) b s i) := fun o1 o2 => (h.alloc' o1).alloc' o2
  have HF := hide hf
  have hlen : s.data.toList.length = s.size := len_eq s
  clear h hf
  go_enter Tryz.func83, Tryz.ntmps83
  go_wp2_with fail
  go_loopw [6] (fun _ wr => ∃ (j m : Nat) (acc : List Pat) (d : Nat) (xs : List Value) (po : Option Addr) (cap : Nat), j ≤ s.size ∧ i ≤ j ∧ s.size - j < m ∧ acc.length ≤ j ∧ altP (choiceP s.data.toList f) s.data.toList m j acc = Res ∧ RdB wr b s j ∧ wr.heap[w.heap.size]? = some (.cells (nodeAg 0 (fun _ => 0) none 0 0) 118 (0, 0)) ∧ wr.heap[w.heap.size + 1]? = some (.cells (nodeAg 4 (fun _ => 0) po acc.length cap) 118 (0, 0)) ∧ PartsOf d (j - i - acc.length) xs wr (w.heap.size + 2) (.slice po acc.length cap) acc ∧ acc.length ≤ j - i ∧ Only (fun k => k = b) w wr) (fun _ wr => s.size - posOf wr b)
  case atStart => exact ⟨i, _, [], 0, [], none, 0, hi, Nat.le_refl _, by rw [len_eq]; omega, Nat.zero_le _, HRes.out, (HR0 _ _).out, (Below.heap_alloc _ _ _ (by simp)).trans (new0 w _), newb1 w _ _, PartsOf.nil _ _ _, Nat.zero_le _, ((Only.refl _ w).alloc _).alloc _⟩
  case round =>
    clear HR0 HRes
    obtain ⟨j, m, acc, d, xs, po, cap, hj, hij, hm, haj, hres, hr, hq, hp, hpt, hai, ho⟩ := hrel
    obtain ⟨m, rfl⟩ : ∃ m', m = m' + 1 := ⟨m - 1, by omega⟩
    have HRd := hide hr
    have HPt := hide hpt
    have HO := hide ho
    have HQ := hide hq
    have HP := hide hp
    have HPos := hide (pos_of hr)
    have hpl := heap_lt hp
    have Hres := hide hres
    clear hres hr hq hp hpt ho
    go_wp2_with fail
    refine (row_any f HF.out b s hs h6 j hj (by omega) _ HRd.out).mono ?_
    rintro e w1 ⟨ho1, kd, ys, qo, nn, cp, rfl, hden⟩
    have HO1 : Hid (Only (fun k => k = b) wr w1) := ho1
    have hsz1 : wr.heap.size ≤ w1.heap.size := HO1.out.size
    have hq := (HO1.out.block w.heap.size (by omega) (Ne.symm hbw)).trans HQ.out
    have hp := (HO1.out.block (w.heap.size + 1) hpl (by omega)).trans HP.out
    have HPt1 := hide (HPt.out.only HO1.out (fun k hk _ e => by omega))
    have HD := hide hden
    clear ho1 hden
    have z0 : w1.cell? ⟨w.heap.size, 0, none⟩ = some (.int .i64 0) := cell_of hq rfl
    have z1 : w1.cell? ⟨w.heap.size, 1, none⟩ = some (.int .u64 0) := cell_of hq rfl
    have z2 : w1.cell? ⟨w.heap.size, 2, none⟩ = some (.int .u64 0) := cell_of hq rfl
    have z3 : w1.cell? ⟨w.heap.size, 3, none⟩ = some (.int .u64 0) := cell_of hq rfl
    have z4 : w1.cell? ⟨w.heap.size, 4, none⟩ = some (.int .u64 0) := cell_of hq rfl
    have z5 : w1.cell? ⟨w.heap.size, 5, none⟩ = some (.slice none 0 0) := cell_of hq rfl
    have y0 := free_of hq 0
    have y1 := free_of hq 1
    have y2 := free_of hq 2
    have y3 := free_of hq 3
    have y4 := free_of hq 4
    have y5 := free_of hq 5
    have x0 : w1.cell? ⟨w.heap.size + 1, 0, none⟩ = some (.int .i64 4) := cell_of hp rfl
    have x1 : w1.cell? ⟨w.heap.size + 1, 1, none⟩ = some (.int .u64 0) := cell_of hp rfl
    have x2 : w1.cell? ⟨w.heap.size + 1, 2, none⟩ = some (.int .u64 0) := cell_of hp rfl
    have x3 : w1.cell? ⟨w.heap.size + 1, 3, none⟩ = some (.int .u64 0) := cell_of hp rfl
    have x4 : w1.cell? ⟨w.heap.size + 1, 4, none⟩ = some (.int .u64 0) := cell_of hp rfl
    have x5 : w1.cell? ⟨w.heap.size + 1, 5, none⟩ = some (.slice po acc.length cap) := cell_of hp rfl
    have v5 := free_of hp 5
    have HQ1 := hide hq
    have HP1 := hide hp
    have hsq1 := heap_lt hq
    have hsp1 := heap_lt hp
    clear hq hp
    unfold nodeAg
    cases hc : rowP (choiceP s.data.toList f) s.data.toList (s.data.toList.length + 1) j [] with
    | none =>
      have HU : Hid (Res = none) := by
        have := Hres.out
        rw [altP_none hc] at this
        exact this.symm
      clear hc Hres
      simp only [Option.isSome_none]
      go_wp2
      refine bodyPost_ret (v := .tuple #[.agg (nodeAg 0 (fun _ => 0) none 0 0), .bool false]) (by simp [results, Tryz.results83, go_sem, nodeAg, z0, z1, z2, z3, z4, z5, hsq1]) rfl ⟨?_, 0, fun _ => 0, none, 0, 0, ?_, ?_⟩
      · exact (((((((HO.out.trans HO1.out (fun k _ e => e)).setCell (p := ⟨w.heap.size, 0, none⟩) (hn 0) _).setCell (p := ⟨w.heap.size, 1, none⟩) (hn 1) _).setCell (p := ⟨w.heap.size, 2, none⟩) (hn 2) _).setCell (p := ⟨w.heap.size, 3, none⟩) (hn 3) _).setCell (p := ⟨w.heap.size, 4, none⟩) (hn 4) _).setCell (p := ⟨w.heap.size, 5, none⟩) (hn 5) _).alloc _
      · rw [HU.out]; rfl
      · intro R j h
        rw [HU.out] at h
        cases h
    | some p =>
      obtain ⟨R1, j1⟩ := p
      have hpg := rowP_prog (choice_prog _ f) hc (by rw [len_eq]; exact hj)
      rw [len_eq] at hpg
      have hjj : j < j1 := hpg.2.2 rfl
      have hj1 : j1 ≤ s.size := hpg.2.1
      obtain ⟨hr1, d1, hd1⟩ := HD.out R1 j1 hc
      have HC := hide hc
      have HR1 := hide hr1
      have HD1 : Hid (Den d1 (j1 - j) w1 (fun g => wr.heap.size ≤ g) (nodeCs kd ys qo nn cp) R1) := hd1
      have HPt2 : ∀ A B, Hid (PartsOf d (j - i - acc.length) xs ((w1.alloc A).alloc B) (w.heap.size + 2) (.slice po acc.length cap) acc) := fun A B => HPt1.out.only (((Only.refl (fun _ => False) w1).alloc A).alloc B) (fun _ _ _ e => e)
      have HD2 : ∀ A B, Hid (Den d1 (j1 - j) ((w1.alloc A).alloc B) (fun g => wr.heap.size ≤ g) (nodeCs kd ys qo nn cp) R1) := fun A B => HD1.out.only (((Only.refl (fun _ => False) w1).alloc A).alloc B) (fun _ _ e => e)
      clear hc hr1 hd1 HD hpg
      simp only [Option.isSome_some]
      go_wp2_with (at_builtin; refine wpList_append_sep _ rfl (.tmp 17) (.tmp 19) 116 rfl (w.heap.size + 2) 118 i0 (.agg (nodeAg 0 (fun _ => 0) none 0 0)) 6 64 Tryz.underlying116 hi0 hz0 hz1 hz2 rfl (by decide) _ _ xs rfl (HPt2 _ _).out.1 ⟨w1.heap.size + 1, 0, none⟩ 1 1 (nodeCs kd ys qo nn cp) rfl rfl ?c1 ?c2 (by decide) ?c3 ?c4 ?c5 ?_)
      case c1 => exact nodeAt_ok (newb1 w1 _ _)
      case c2 => exact nodeCs_ok _ _ _ _ _
      case c3 => unfold maxLen; omega
      case c4 => omega
      case c5 => simp; omega
      intro v' w2 hown' hgrow hmv
      obtain ⟨po', cap', rfl⟩ := ownsRow_slice hown'
      have hob : ∀ k, (Value.slice po acc.length cap).ownBlock = some k → w.heap.size + 2 ≤ k ∧ k < wr.heap.size := fun k hk => by
        have := HPt.out.1.lt k hk
        omega
      have hlg : (acc ++ [R1]).length = acc.length + 1 := by simp
      have HPt3 : Hid (PartsOf (max d d1) (j1 - i - acc.length) (xs ++ nodeCs kd ys qo nn cp) w2 (w.heap.size + 2) (.slice po' (acc.length + 1) cap') (acc ++ [R1])) := ((HPt2 _ _).out.push (fun k hk => (hob k hk).2) (by omega) (HD2 _ _).out hown' hgrow hmv).more (by omega)
      have hne : ∀ k, k < w.heap.size + 2 → some k ≠ (Value.slice po acc.length cap).ownBlock := fun k hk e => by have := hob k e.symm; omega
      have hp2 := (hgrow.block (w.heap.size + 1) (by simp; omega) (hne _ (by omega))).trans ((Below.heap_alloc _ _ _ (by simp; omega)).trans ((Below.heap_alloc _ _ _ (by omega)).trans HP1.out))
      have hq2 := (hgrow.block w.heap.size (by simp; omega) (hne _ (by omega))).trans ((Below.heap_alloc _ _ _ (by simp; omega)).trans ((Below.heap_alloc _ _ _ (by omega)).trans HQ1.out))
      have HR2 : Hid (RdB w2 b s j1) := ((HR1.out.alloc' _).alloc' _).grown hgrow (hne b (by omega))
      have HO2 : Hid (Only (fun k => k = b) w w2) := (((HO.out.trans HO1.out (fun k _ e => e)).alloc _).alloc _).grown hgrow (fun k hk hl => by have := hob k hk; omega)
      have HP2 := hide hp2
      have HQ2 := hide hq2
      have HLg := hide hlg
      have hpl2 := heap_lt hp2
      have hql2 := heap_lt hq2
      clear z0 z1 z2 z3 z4 z5 y0 y1 y2 y3 y4 y5 x0 x1 x2 x3 x4 x5 v5
      have z0 : w2.cell? ⟨w.heap.size, 0, none⟩ = some (.int .i64 0) := cell_of hq2 rfl
      have z1 : w2.cell? ⟨w.heap.size, 1, none⟩ = some (.int .u64 0) := cell_of hq2 rfl
      have z2 : w2.cell? ⟨w.heap.size, 2, none⟩ = some (.int .u64 0) := cell_of hq2 rfl
      have z3 : w2.cell? ⟨w.heap.size, 3, none⟩ = some (.int .u64 0) := cell_of hq2 rfl
      have z4 : w2.cell? ⟨w.heap.size, 4, none⟩ = some (.int .u64 0) := cell_of hq2 rfl
      have z5 : w2.cell? ⟨w.heap.size, 5, none⟩ = some (.slice none 0 0) := cell_of hq2 rfl
      have y0 := free_of hq2 0
      have y1 := free_of hq2 1
      have y2 := free_of hq2 2
      have y3 := free_of hq2 3
      have y4 := free_of hq2 4
      have y5 := free_of hq2 5
      have x0 : w2.cell? ⟨w.heap.size + 1, 0, none⟩ = some (.int .i64 4) := cell_of hp2 rfl
      have x1 : w2.cell? ⟨w.heap.size + 1, 1, none⟩ = some (.int .u64 0) := cell_of hp2 rfl
      have x2 : w2.cell? ⟨w.heap.size + 1, 2, none⟩ = some (.int .u64 0) := cell_of hp2 rfl
      have x3 : w2.cell? ⟨w.heap.size + 1, 3, none⟩ = some (.int .u64 0) := cell_of hp2 rfl
      have x4 : w2.cell? ⟨w.heap.size + 1, 4, none⟩ = some (.int .u64 0) := cell_of hp2 rfl
      have x5 : w2.cell? ⟨w.heap.size + 1, 5, none⟩ = some (.slice po acc.length cap) := cell_of hp2 rfl
      have v5 := free_of hp2 5
      have c1 : w2.cell? ⟨b, 1, none⟩ = some (.int .i64 j1) := HR2.out.at.2
      have f1 : w2.frozen? ⟨b, 1, none⟩ = false := HR2.out.free 1
      clear hp2 hq2 hgrow hmv hown' hob hne hlg HPt2 HD2
      have HR3 : Hid (RdB (w2.setCell ⟨w.heap.size + 1, 5, none⟩ (.slice po' (acc.length + 1) cap')) b s j1) := HR2.out.setNe (p := ⟨w.heap.size + 1, 5, none⟩) hbp _
      have HO3 : Hid (Only (fun k => k = b) w (w2.setCell ⟨w.heap.size + 1, 5, none⟩ (.slice po' (acc.length + 1) cap'))) := HO2.out.setCell (p := ⟨w.heap.size + 1, 5, none⟩) (fun h => absurd h (by show ¬ w.heap.size + 1 < w.heap.size; omega)) _
      have HPt4 : Hid (PartsOf (max d d1) (j1 - i - acc.length) (xs ++ nodeCs kd ys qo nn cp) (w2.setCell ⟨w.heap.size + 1, 5, none⟩ (.slice po' (acc.length + 1) cap')) (w.heap.size + 2) (.slice po' (acc.length + 1) cap') (acc ++ [R1])) := HPt3.out.only ((Only.refl (fun k => k = w.heap.size + 1) w2).setCell (p := ⟨w.heap.size + 1, 5, none⟩) (fun _ => rfl) _) (fun k hk _ e => by omega)
      cases hb : hasB s.data.toList j1 124
      · have HRs : Hid (Res = some (altR (acc ++ [R1]), j1)) := by
          have := Hres.out
          rw [altP_end HC.out hb] at this
          exact this.symm
        have HB := hide hb
        clear hb Hres
        go_wp2_with (go_at_call 122; refine (sees_is b 0 s j1 hj1 124 false HB.out _ HR3.out.at).mono ?_; rintro e w' ⟨rfl, n3, rfl⟩)
        refine bodyPost_ret (v := .tuple #[.agg (nodeAg 4 (fun _ => 0) po' (acc.length + 1) cap'), .bool true]) (by simp [results, Tryz.results83, go_sem, nodeAg, z0, z1, z2, z3, z4, z5]) rfl ⟨(((((((HO3.out.drewN _).setCell (p := ⟨w.heap.size, 0, none⟩) (hn 0) _).setCell (p := ⟨w.heap.size, 1, none⟩) (hn 1) _).setCell (p := ⟨w.heap.size, 2, none⟩) (hn 2) _).setCell (p := ⟨w.heap.size, 3, none⟩) (hn 3) _).setCell (p := ⟨w.heap.size, 4, none⟩) (hn 4) _).setCell (p := ⟨w.heap.size, 5, none⟩) (hn 5) _), 4, fun _ => 0, po', acc.length + 1, cap', ?_, ?_⟩
        · rw [HRs.out]; rfl
        · intro R j2 h
          rw [HRs.out] at h
          cases h
          refine ⟨(((((((HR3.out.drewN _).setNe (p := ⟨w.heap.size, 0, none⟩) hbw _).setNe (p := ⟨w.heap.size, 1, none⟩) hbw _).setNe (p := ⟨w.heap.size, 2, none⟩) hbw _).setNe (p := ⟨w.heap.size, 3, none⟩) hbw _).setNe (p := ⟨w.heap.size, 4, none⟩) hbw _).setNe (p := ⟨w.heap.size, 5, none⟩) hbw _), max d d1 + 1, ?_⟩
          have hdn := HPt4.out.den 4 (fun _ => 0) po' cap' (by rw [HLg.out]) (Or.inr (Or.inr (Or.inr (Or.inr (Or.inl ⟨rfl, by simp, rfl⟩))))) HPt4.out.size (M := j1 - i) (by rw [HLg.out]; show acc.length + 1 - 1 + (j1 - i - acc.length) ≤ j1 - i; omega)
          rw [HLg.out] at hdn
          refine Den.mono (Den.frame hdn (by simp [World.setCell]) ?_) (fun g _ hg => by omega)
          intro g hg hl
          rw [Below.heap_setCell _ _ _ _ (show g ≠ w.heap.size by omega), Below.heap_setCell _ _ _ _ (show g ≠ w.heap.size by omega), Below.heap_setCell _ _ _ _ (show g ≠ w.heap.size by omega), Below.heap_setCell _ _ _ _ (show g ≠ w.heap.size by omega), Below.heap_setCell _ _ _ _ (show g ≠ w.heap.size by omega), Below.heap_setCell _ _ _ _ (show g ≠ w.heap.size by omega), drewN_heap]
      · have HRs : Hid (altP (choiceP s.data.toList f) s.data.toList m (j1 + 1) (acc ++ [R1]) = Res) := by
          have := Hres.out
          rw [altP_more HC.out hb] at this
          exact this
        have HB := hide hb
        have hlt : j1 < s.size := by have := hasB_lt hb; omega
        clear hb Hres
        go_wp2_with (go_at_call 122; refine (sees_is b 0 s j1 hj1 124 true HB.out _ HR3.out.at).mono ?_; rintro e w' ⟨rfl, n3, rfl⟩)
        have HPos2 := hide (pos_of ((HR3.out.drewN n3).set (j1 + 1)))
        go_roundw
        case rel =>
          refine ⟨j1 + 1, m, acc ++ [R1], max d d1, xs ++ nodeCs kd ys qo nn cp, po', cap', by omega, by omega, by omega, by rw [HLg.out]; omega, HRs.out, (HR3.out.drewN n3).set (j1 + 1), ?_, ?_, ?_, by rw [HLg.out]; omega, ?_⟩
          · exact (Below.heap_setCell _ _ _ _ (Ne.symm hbw)).trans ((Below.heap_setCell _ _ _ _ (by show w.heap.size ≠ w.heap.size + 1; omega)).trans HQ2.out)
          · rw [HLg.out]; exact (Below.heap_setCell _ _ _ _ (Ne.symm hbp)).trans (heap_setCell_same HP2.out _)
          · rw [HLg.out]; exact (HPt4.out.more (by omega)).only (((Only.refl (fun k => k = b) _).drewN n3).setCell (p := ⟨b, 1, none⟩) (fun _ => rfl) _) (fun k hk _ e => by omega)
          · exact (HO3.out.drewN n3).setCell (p := ⟨b, 1, none⟩) (fun _ => rfl) _
        case measure =>
          have e1 := HPos2.out
          have e2 := HPos.out
          push_cast at e1
          rw [e1, e2]; omega
theorem choice_all (f : Nat) : ChoiceOK f := by
  induction f with
  | zero => intro b s i w h hi hs h6 hfl; omega
  | succ f ih => intro b s i w h hi hs h6 hfl; exact choice_step f ih b s hs h6 i hi hfl w h
end Go.Proofs.YtdbdbaepmdmnfaaGreatDoor
