import Derived.Test.YthhiofppbpgipaaGreatDoorGL
import Derived.Deep.OwnRows
import Derived.Laws.OwnMore
namespace Go.Proofs.YthhiofppbpgipaaGreatDoor
open Go.RowKit
theorem info4 : (Tryz.prog.info? 4).map (fun i => (i.zero, i.size, i.bytes)) = some (some (.bool false), 1, 1) := by kernel_rfl
theorem made_bits (n : Nat) : madeCells #[.bool false] n = (bitsV (List.replicate n false)).toArray := by
  apply Array.ext'
  rw [toList_madeCells_one]
  simp [bitsV]
theorem PcAt.cells {w G n cap P k x} (h : PcAt w (.slice (some ⟨G, 0, none⟩) n cap) P) (hk : P[k]? = some x) : ∃ vS, SetV w x vS ∧ ∀ j u, (pcCs x vS)[j]? = some u → w.cell? ⟨G, k * 5 + j, none⟩ = some u := by
  obtain ⟨xs, h2, h3⟩ := h
  obtain ⟨ys, h4, h5⟩ := h3 k x hk
  refine ⟨ys, h4, fun j u hj => ?_⟩
  rcases h2.2 with ⟨e, _⟩ | ⟨g, cap', cur, hv, _, h7, _, _, _, h8⟩
  · cases e
  · cases hv
    have h9 := h5 j u hj
    rw [← h8, List.getElem?_take] at h9
    split at h9
    · refine cell_of h7 ?_
      rw [← Array.getElem?_toList]; exact h9
    · cases h9
theorem PcAt.form {w v P} (h : PcAt w v P) (hP : P.length ≠ 0) : ∃ G cap, v = .slice (some ⟨G, 0, none⟩) P.length cap := by
  obtain ⟨xs, h2, _⟩ := h
  rcases h2.2 with ⟨_, h0⟩ | ⟨g, cap, cur, hv, _⟩
  · exact absurd h0 hP
  · exact ⟨g, cap, hv⟩
theorem oneP_le {x : Pc} {t : List UInt8} {i j : Nat} (hi : i ≤ t.length) (h : oneP x t i = some j) : j ≤ t.length := by
  unfold oneP at h
  split at h
  · cases h; exact hi
  split at h
  · split at h
    · cases h; exact hi
    · cases h
  split at h
  · split at h
    · cases h; exact hi
    · cases h
  split at h
  · cases h
  · rename_i c hc
    have := (List.getElem?_eq_some_iff.1 hc).1
    split at h
    · cases h; omega
    · cases h
/-- While the places are gone through: those below i were. -/
def LeafI (x : Pc) (t : List UInt8) (f o : List Bool) (i : Nat) : Prop := o.length = f.length ∧ ∀ j, o[j]? = some true ↔ ∃ i', i' < i ∧ f[i']? = some true ∧ oneP x t i' = some j
theorem LeafI.begin (x : Pc) (t : List UInt8) (f : List Bool) (n : Nat) (hn : n = f.length) : LeafI x t f (List.replicate n false) 0 := by
  refine ⟨by simp [hn], fun j => ⟨fun h => ?_, fun ⟨i', h, _⟩ => by omega⟩⟩
  rw [List.getElem?_replicate] at h
  split at h
  · cases h
  · cases h
theorem LeafI.stay {x t f o i} (h : LeafI x t f o i) (hn : f[i]? = some true → oneP x t i = none) : LeafI x t f o (i + 1) := by
  refine ⟨h.1, fun j => (h.2 j).trans ⟨fun ⟨i', h1, h2⟩ => ⟨i', by omega, h2⟩, fun ⟨i', h1, h2, h3⟩ => ?_⟩⟩
  by_cases e : i' = i
  · subst e
    rw [hn h2] at h3; cases h3
  · exact ⟨i', by omega, h2, h3⟩
theorem LeafI.turn {x t f o i j} (h : LeafI x t f o i) (hf : f[i]? = some true) (hj : oneP x t i = some j) (hjl : j < o.length) : LeafI x t f (o.set j true) (i + 1) := by
  refine ⟨by simp [h.1], fun j' => ?_⟩
  by_cases e : j' = j
  · subst e
    rw [List.getElem?_set_self hjl]
    exact ⟨fun _ => ⟨i, by omega, hf, hj⟩, fun _ => rfl⟩
  · rw [List.getElem?_set_ne (fun h => e h.symm)]
    refine (h.2 j').trans ⟨fun ⟨i', h1, h2⟩ => ⟨i', by omega, h2⟩, fun ⟨i', h1, h2, h3⟩ => ?_⟩
    by_cases e2 : i' = i
    · subst e2
      rw [hj] at h3; cases h3; exact absurd rfl e
    · exact ⟨i', by omega, h2, h3⟩
theorem LeafI.done {x : Pc} {t : List UInt8} {f o : List Bool} {n : Nat} {R : Pat} (h : LeafI x t f o n) (hn : f.length = t.length + 1) (hnn : n = t.length + 1) (hR : ∀ t i j, i ≤ t.length → (R t i j ↔ oneP x t i = some j)) : Img (R t) f o := by
  refine ⟨h.1, fun j => (h.2 j).trans ⟨fun ⟨i', h1, h2, h3⟩ => ⟨i', h2, (hR t i' j (by omega)).2 h3⟩, fun ⟨i', h2, h3⟩ => ?_⟩⟩
  have := (List.getElem?_eq_some_iff.1 h2).1
  exact ⟨i', by omega, h2, (hR t i' j (by omega)).1 h3⟩
theorem joinB_zero {a : List Bool} {n : Nat} (hn : n = a.length) : joinB (List.replicate n false) a = a := by
  subst hn
  apply List.ext_getElem?
  intro j
  unfold joinB
  rw [List.getElem?_zipWith, List.getElem?_replicate]
  by_cases h : j < a.length
  · rw [if_pos h, List.getElem?_eq_getElem h]; rfl
  · rw [if_neg h, List.getElem?_eq_none (by omega)]
theorem new2e (w : World) (a b c : Obj) : (((w.alloc a).alloc b).alloc c).heap[w.heap.size + 2]? = some c := by
  have := heap_alloc_new ((w.alloc a).alloc b) c
  rwa [show ((w.alloc a).alloc b).heap.size = w.heap.size + 2 by simp] at this
set_option maxRecDepth 10000 in
set_option maxHeartbeats 8000000 in
theorem ends_step (d : Nat) (hd : EndsOK d) : EndsOK (d + 1) := by
  intro P k R v top s gf cf f w hk hP hPl h6 hf hb
  obtain ⟨x, hx, hcase⟩ := hk
  have hkl : k < P.length := (List.getElem?_eq_some_iff.1 hx).1
  obtain ⟨GP, cap, rfl⟩ := hP.form (by omega)
  obtain ⟨vS, hSv, hcs⟩ := hP.cells hx
  obtain ⟨pS, nS, cS, rfl⟩ := hSv.1
  obtain ⟨K, C, St0, A, B⟩ := x
  have hGP : GP < w.heap.size := by obtain ⟨xs, h2, _⟩ := hP; exact (h2.lt GP rfl).2
  have g0 : w.cell? ⟨GP, k * 5, none⟩ = some (.int .u8 K) := hcs 0 _ rfl
  have g1 : w.cell? ⟨GP, k * 5 + 1, none⟩ = some (.int .u8 C) := hcs 1 _ rfl
  have g2 : w.cell? ⟨GP, k * 5 + 2, none⟩ = some (.slice pS nS cS) := hcs 2 _ rfl
  have g3 : w.cell? ⟨GP, k * 5 + 3, none⟩ = some (.int .i64 A) := hcs 3 _ rfl
  have g4 : w.cell? ⟨GP, k * 5 + 4, none⟩ = some (.int .i64 B) := hcs 4 _ rfl
  have hki : (k : Int) < (P.length : Int) := by omega
  have hgf := heap_lt hb
  have hmk := run_make_row' (P := Tryz.prog) 117 4 (.bool false) 1 Tryz.underlying117 info4 rfl .i64 .i64 (s.size + 1) (by omega) (by omega)
  have hmk' : ∀ W : World, (Instr.makeSlice 117 (.int .i64 ((s.size : Int) + 1)) (.int .i64 ((s.size : Int) + 1))).run Tryz.prog W = .ok (.slice (some ⟨W.heap.size, 0, none⟩) (s.size + 1) (s.size + 1)) (W.alloc (.cells (madeCells #[.bool false] (s.size + 1)) 4)) := hmk
  clear hmk
  have HO3 : ∀ o1 o2 o3, Hid (Only (fun _ => False) w (((w.alloc o1).alloc o2).alloc o3)) := fun o1 o2 o3 => (((Only.refl _ w).alloc o1).alloc o2).alloc o3
  have HD := hide hd
  have HP := hide hP
  have HB := hide hb
  have HSv := hide hSv
  have HPW : ∀ o1 o2 o3, Hid (PcAt (((w.alloc o1).alloc o2).alloc o3) (.slice (some ⟨GP, 0, none⟩) P.length cap) P) := fun o1 o2 o3 => HP.out.only (HO3 o1 o2 o3).out (fun _ _ e => e)
  have HBW : ∀ o1 o2 o3, Hid (BitsAt (((w.alloc o1).alloc o2).alloc o3) gf f) := fun o1 o2 o3 => HB.out.only (HO3 o1 o2 o3).out (fun e => e)
  have hK : (⟨K, C, St0, A, B⟩ : Pc).K = K := rfl
  clear hd hP hb hSv hcs hK
  rcases hcase with ⟨hleaf, hR⟩ | ⟨hk, S, T, hS, hT, rfl⟩ | ⟨hk, S, T, hS, hT, rfl⟩ | ⟨hk, S, hS, rfl⟩ | ⟨hk, S, hS, rfl⟩ | ⟨hk, S, hS, rfl⟩
  · have hlf : K = 101 ∨ K = 94 ∨ K = 36 ∨ K = 46 ∨ K = 99 ∨ K = 91 := hleaf
    have n1 : ((K : Int) == 38) = false := by rw [beq_eq_false_iff_ne]; omega
    have n2 : ((K : Int) == 124) = false := by rw [beq_eq_false_iff_ne]; omega
    have n3 : ((K : Int) == 63) = false := by rw [beq_eq_false_iff_ne]; omega
    have n4 : ((K : Int) == 42) = false := by rw [beq_eq_false_iff_ne]; omega
    have n5 : ((K : Int) == 43) = false := by rw [beq_eq_false_iff_ne]; omega
    have HLf : Hid (Leaf ⟨K, C, St0, A, B⟩) := hleaf
    have HR := hide hR
    have hlen : s.data.toList.length = s.size := len_eq s
    have HM0 : ∀ o1 o2, Hid (BitsAt (((w.alloc o1).alloc o2).alloc (.cells (madeCells #[.bool false] (s.size + 1)) 4)) (w.heap.size + 2) (List.replicate (s.size + 1) false)) := fun o1 o2 => by
      show BitsAt _ _ _
      unfold BitsAt
      rw [new2e w, made_bits]
    clear hleaf hlf hR hx
    go_enter Tryz.func113, Tryz.ntmps113
    go_wp2
    go_loopw [15, 16] (fun s15 _ wr => ∃ (i : Nat) (o : List Bool), s15 = .int .i64 i ∧ i ≤ s.size + 1 ∧ BitsAt wr (w.heap.size + 2) o ∧ LeafI ⟨K, C, St0, A, B⟩ s.data.toList f o i ∧ wr.heap[w.heap.size + 1]? = some (.cells #[.int .u8 K, .int .u8 C, .slice pS nS cS, .int .i64 A, .int .i64 B] 156 (0, 0)) ∧ Only (fun _ => False) w wr) (fun s15 _ _ => s.size + 2 - (intOf s15).toNat)
    case atStart => exact ⟨0, _, rfl, Nat.zero_le _, (HM0 _ _).out, LeafI.begin _ _ _ _ hf.symm, (Below.heap_alloc _ _ _ (by simp)).trans (newb1 w _ _), (HO3 _ _ _).out⟩
    case round =>
      clear HM0 HPW HBW HO3 g0 g1 g2 g3 g4 hmk'
      obtain ⟨i, o, e15, hi, hbo, hL, hbx, ho⟩ := hrel
      subst e15
      have HBo := hide hbo
      have HL := hide hL
      have HBx := hide hbx
      have HO := hide ho
      have hol : o.length = s.size + 1 := by rw [hL.1, hf]
      have hgl := heap_lt hbo
      by_cases hlt : i ≤ s.size
      · have hli : (i : Int) ≤ (s.size : Int) := by omega
        have hli2 : (i : Int) < (s.size : Int) + 1 := by omega
        obtain ⟨b, hfi⟩ : ∃ b, f[i]? = some b := ⟨f[i]'(by omega), List.getElem?_eq_getElem (by omega)⟩
        have k1 : wr.cell? ⟨gf, i, none⟩ = some (.bool b) := (HB.out.only ho (fun e => e)).cell hfi
        have q0 : wr.cell? ⟨w.heap.size + 1, 0, none⟩ = some (.int .u8 K) := cell_of hbx rfl
        have q1 : wr.cell? ⟨w.heap.size + 1, 1, none⟩ = some (.int .u8 C) := cell_of hbx rfl
        have q2 : wr.cell? ⟨w.heap.size + 1, 2, none⟩ = some (.slice pS nS cS) := cell_of hbx rfl
        have q3 : wr.cell? ⟨w.heap.size + 1, 3, none⟩ = some (.int .i64 A) := cell_of hbx rfl
        have q4 : wr.cell? ⟨w.heap.size + 1, 4, none⟩ = some (.int .i64 B) := cell_of hbx rfl
        have HFi := hide hfi
        clear hbo hL hbx ho hfi
        cases b with
        | false =>
          have HN := hide (HL.out.stay (fun e => by rw [HFi.out] at e; cases e))
          go_wp2
          go_roundw
          case rel => exact ⟨i + 1, o, by go_num, by omega, HBo.out, HN.out, HBx.out, HO.out⟩
          case measure => simp [intOf]; omega
        | true =>
          go_wp2_with fail
          refine (one_any ⟨K, C, St0, A, B⟩ pS nS cS s i HLf.out hlt h6 wr (HSv.out.of (fun g c hg => HO.out.block g (heap_lt hg) (fun e => e)))).mono ?_
          rintro e w2 ⟨rfl, ho2⟩
          have HB2 := hide (HBo.out.only ho2 (fun e => e))
          have HX2 := hide ((ho2.block (w.heap.size + 1) (heap_lt HBx.out) (fun e => e)).trans HBx.out)
          have HO2 : Hid (Only (fun _ => False) w w2) := HO.out.trans ho2 (fun _ _ e => e)
          clear ho2
          cases hone : oneP ⟨K, C, St0, A, B⟩ s.data.toList i with
          | none =>
            have HN := hide (HL.out.stay (fun _ => hone))
            clear hone
            unfold placeI
            go_wp2
            go_roundw
            case rel => exact ⟨i + 1, o, by go_num, by omega, HB2.out, HN.out, HX2.out, HO2.out⟩
            case measure => simp [intOf]; omega
          | some j =>
            have hjl : j ≤ s.size := by have := oneP_le (by omega) hone; omega
            have HN := hide (HL.out.turn HFi.out hone (by omega))
            have hji : (j : Int) < (s.size : Int) + 1 := by omega
            obtain ⟨y, hy⟩ : ∃ y, o[j]? = some y := ⟨o[j]'(by omega), List.getElem?_eq_getElem (by omega)⟩
            have k2 : w2.cell? ⟨w.heap.size + 2, j, none⟩ = some (.bool y) := HB2.out.cell hy
            have f2 : w2.frozen? ⟨w.heap.size + 2, j, none⟩ = false := free_of HB2.out j
            clear hone hy
            unfold placeI
            go_wp2
            go_roundw
            case rel => exact ⟨i + 1, o.set j true, by go_num, by omega, HB2.out.set j true, HN.out, (Below.heap_setCell _ _ _ _ (by show w.heap.size + 1 ≠ w.heap.size + 2; omega)).trans HX2.out, HO2.out.setCell (p := ⟨w.heap.size + 2, j, none⟩) (fun h => absurd h (by show ¬ w.heap.size + 2 < w.heap.size; omega)) _⟩
            case measure => simp [intOf]; omega
      · have hie : i = s.size + 1 := by omega
        have hli : ¬ (i : Int) ≤ (s.size : Int) := by omega
        have HI : Hid (Img (R s.data.toList) f o) := HL.out.done (by rw [hlen]; exact hf) (by rw [hlen]; exact hie) HR.out
        clear hbo hL hbx ho hie
        go_wp2
        go_ret
        exact ⟨w.heap.size + 2, o, s.size + 1, rfl, HBo.out, HI.out, by omega, HO.out⟩
  · have hk' : K = 38 := hk
    subst hk'
    have HS : Hid (PcIs P d A S) := hS
    have HT : Hid (PcIs P d B T) := hT
    clear hk hS hT hx
    go_enter Tryz.func113, Tryz.ntmps113
    go_wp2_with fail
    refine (HD.out P A S _ top s gf cf f _ HS.out (HPW _ _ _).out hPl h6 hf (HBW _ _ _).out).mono ?_
    rintro e w1 ⟨g, o, co, rfl, hb1, him, hgl, ho1⟩
    have hbx1 : w1.heap[w.heap.size]? = some (.cells #[.slice (some ⟨GP, 0, none⟩) P.length cap, .int .i64 top] 66 (0, 0)) := (ho1.block w.heap.size (by simp; omega) (fun e => e)).trans ((Below.heap_alloc _ _ _ (by simp; omega)).trans ((Below.heap_alloc _ _ _ (by simp)).trans (new0 w _)))
    have hbx2 : w1.heap[w.heap.size + 1]? = some (.cells #[.int .u8 (38 : Nat), .int .u8 C, .slice pS nS cS, .int .i64 A, .int .i64 B] 156 (0, 0)) := (ho1.block (w.heap.size + 1) (by simp) (fun e => e)).trans ((Below.heap_alloc _ _ _ (by simp)).trans (newb1 w _ _))
    have p0 : w1.cell? ⟨w.heap.size, 0, none⟩ = some (.slice (some ⟨GP, 0, none⟩) P.length cap) := cell_of hbx1 rfl
    have p1 : w1.cell? ⟨w.heap.size, 1, none⟩ = some (.int .i64 top) := cell_of hbx1 rfl
    have q4 : w1.cell? ⟨w.heap.size + 1, 4, none⟩ = some (.int .i64 B) := cell_of hbx2 rfl
    have HO1 : Hid (Only (fun _ => False) w w1) := (HO3 _ _ _).out.trans ho1 (fun _ _ e => e)
    have hl1 : o.length = s.size + 1 := by rw [him.1, hf]
    have HIm := hide him
    have HB1 := hide hb1
    clear ho1 him hb1 hbx1 hbx2 hgl g0 g1 g2 g3 g4
    go_wp2_with fail
    refine (HD.out P B T _ top s g co o w1 HT.out (HP.out.only HO1.out (fun _ _ e => e)) hPl h6 hl1 HB1.out).mono ?_
    rintro e w2 ⟨gn, nx, cn, rfl, hbn, himn, hgn, ho2⟩
    have HR : Hid (EndsPost w (s.size + 1) s.data.toList (compR S T) f (.returned (.slice (some ⟨gn, 0, none⟩) (s.size + 1) cn)) w2) := ⟨gn, nx, cn, rfl, hbn, HIm.out.comp himn, Nat.le_trans HO1.out.size hgn, HO1.out.trans ho2 (fun _ _ e => e)⟩
    clear hbn himn hgn ho2
    go_wp2
    go_ret
    exact HR.out
  · have hk' : K = 124 := hk
    subst hk'
    have HS : Hid (PcIs P d A S) := hS
    have HT : Hid (PcIs P d B T) := hT
    clear hk hS hT hx
    go_enter Tryz.func113, Tryz.ntmps113
    go_wp2_with fail
    refine (HD.out P A S _ top s gf cf f _ HS.out (HPW _ _ _).out hPl h6 hf (HBW _ _ _).out).mono ?_
    rintro e w1 ⟨g, o, co, rfl, hb1, him, hgl, ho1⟩
    have hbx1 : w1.heap[w.heap.size]? = some (.cells #[.slice (some ⟨GP, 0, none⟩) P.length cap, .int .i64 top] 66 (0, 0)) := (ho1.block w.heap.size (by simp; omega) (fun e => e)).trans ((Below.heap_alloc _ _ _ (by simp; omega)).trans ((Below.heap_alloc _ _ _ (by simp)).trans (new0 w _)))
    have hbx2 : w1.heap[w.heap.size + 1]? = some (.cells #[.int .u8 (124 : Nat), .int .u8 C, .slice pS nS cS, .int .i64 A, .int .i64 B] 156 (0, 0)) := (ho1.block (w.heap.size + 1) (by simp) (fun e => e)).trans ((Below.heap_alloc _ _ _ (by simp)).trans (newb1 w _ _))
    have hbo : BitsAt w1 (w.heap.size + 2) (List.replicate (s.size + 1) false) := (ho1.block (w.heap.size + 2) (by simp) (fun e => e)).trans (by rw [new2e w]; rw [made_bits])
    have p0 : w1.cell? ⟨w.heap.size, 0, none⟩ = some (.slice (some ⟨GP, 0, none⟩) P.length cap) := cell_of hbx1 rfl
    have p1 : w1.cell? ⟨w.heap.size, 1, none⟩ = some (.int .i64 top) := cell_of hbx1 rfl
    have q4 : w1.cell? ⟨w.heap.size + 1, 4, none⟩ = some (.int .i64 B) := cell_of hbx2 rfl
    have HO1 : Hid (Only (fun _ => False) w w1) := (HO3 _ _ _).out.trans ho1 (fun _ _ e => e)
    have hgl2 : w.heap.size + 3 ≤ g := by simpa using hgl
    have hl1 : o.length = s.size + 1 := by rw [him.1, hf]
    have HIm := hide him
    have HB1 := hide hb1
    have HBo := hide hbo
    clear ho1 him hb1 hbx1 hbx2 hbo hgl g0 g1 g2 g3 g4
    go_wp2_with fail
    refine (HD.out P B T _ top s gf cf f w1 HT.out (HP.out.only HO1.out (fun _ _ e => e)) hPl h6 hf (HB.out.only HO1.out (fun e => e))).mono ?_
    rintro e w2 ⟨gn, nx, cn, rfl, hbn, himn, hgn, ho2⟩
    have hl2 : nx.length = s.size + 1 := by rw [himn.1, hf]
    have hz := HO1.out.size
    have hg1 := heap_lt HB1.out
    have HIn := hide himn
    have HBn := hide hbn
    have HB2 := hide (HB1.out.only ho2 (fun e => e))
    have HBo2 := hide (HBo.out.only ho2 (fun e => e))
    have HO2 : Hid (Only (fun _ => False) w w2) := HO1.out.trans ho2 (fun _ _ e => e)
    have hgn' : w1.heap.size ≤ gn := hgn
    have hbl := heap_lt HBo.out
    clear ho2 hbn himn hgn
    go_wp2_with fail
    have HJ := join_any (w.heap.size + 2) g (s.size + 1) co (List.replicate (s.size + 1) false) o (by simp; omega) (by omega) (by simp; omega) w2 HBo2.out HB2.out
    rw [List.length_replicate, hl1] at HJ
    refine HJ.mono ?_
    rintro e w3 ⟨t, rfl, hb3, ho3, _⟩
    rw [joinB_zero hl1.symm] at hb3
    have HB3 := hide hb3
    have HBn3 := hide (HBn.out.only ho3 (by omega))
    have HO3' : Hid (Only (fun _ => False) w w3) := HO2.out.trans ho3 (fun k hk e => by omega)
    clear hb3 ho3 HJ
    go_wp2_with fail
    have HJ := join_any (w.heap.size + 2) gn (s.size + 1) cn o nx (by omega) (by omega) (by omega) w3 HB3.out HBn3.out
    rw [hl1, hl2] at HJ
    refine HJ.mono ?_
    rintro e w4 ⟨t4, rfl, hb4, ho4, _⟩
    have HR : Hid (EndsPost w (s.size + 1) s.data.toList (orR S T) f (.returned (.slice (some ⟨w.heap.size + 2, 0, none⟩) (s.size + 1) (s.size + 1))) w4) := ⟨w.heap.size + 2, joinB o nx, s.size + 1, rfl, hb4, HIm.out.or HIn.out, by omega, HO3'.out.trans ho4 (fun k hk e => by omega)⟩
    clear hb4 ho4 HJ
    go_wp2
    go_ret
    exact HR.out
  · have hk' : K = 63 := hk
    subst hk'
    have HS : Hid (PcIs P d A S) := hS
    clear hk hS hx
    go_enter Tryz.func113, Tryz.ntmps113
    go_wp2_with fail
    refine (HD.out P A S _ top s gf cf f _ HS.out (HPW _ _ _).out hPl h6 hf (HBW _ _ _).out).mono ?_
    rintro e w1 ⟨g, o, co, rfl, hb1, him, hgl, ho1⟩
    have hbx1 : w1.heap[w.heap.size]? = some (.cells #[.slice (some ⟨GP, 0, none⟩) P.length cap, .int .i64 top] 66 (0, 0)) := (ho1.block w.heap.size (by simp; omega) (fun e => e)).trans ((Below.heap_alloc _ _ _ (by simp; omega)).trans ((Below.heap_alloc _ _ _ (by simp)).trans (new0 w _)))
    have hbx2 : w1.heap[w.heap.size + 1]? = some (.cells #[.int .u8 (63 : Nat), .int .u8 C, .slice pS nS cS, .int .i64 A, .int .i64 B] 156 (0, 0)) := (ho1.block (w.heap.size + 1) (by simp) (fun e => e)).trans ((Below.heap_alloc _ _ _ (by simp)).trans (newb1 w _ _))
    have hbo : BitsAt w1 (w.heap.size + 2) (List.replicate (s.size + 1) false) := (ho1.block (w.heap.size + 2) (by simp) (fun e => e)).trans (by rw [new2e w]; rw [made_bits])
    have HO1 : Hid (Only (fun _ => False) w w1) := (HO3 _ _ _).out.trans ho1 (fun _ _ e => e)
    have hgl2 : w.heap.size + 3 ≤ g := by simpa using hgl
    have hl1 : o.length = s.size + 1 := by rw [him.1, hf]
    have HIm := hide him
    have HB1 := hide hb1
    have HBo := hide hbo
    have hbl := heap_lt hbo
    clear ho1 him hb1 hbx1 hbx2 hbo hgl g0 g1 g2 g3 g4
    go_wp2_with fail
    have HJ := join_any (w.heap.size + 2) gf (s.size + 1) cf (List.replicate (s.size + 1) false) f (by simp; omega) (by omega) (by simp; omega) w1 HBo.out (HB.out.only HO1.out (fun e => e))
    rw [List.length_replicate, hf] at HJ
    refine HJ.mono ?_
    rintro e w3 ⟨t, rfl, hb3, ho3, _⟩
    rw [joinB_zero hf.symm] at hb3
    have HB3 := hide hb3
    have HB13 := hide (HB1.out.only ho3 (by omega))
    have HO3' : Hid (Only (fun _ => False) w w3) := HO1.out.trans ho3 (fun k hk e => by omega)
    clear hb3 ho3 HJ
    go_wp2_with fail
    have HJ := join_any (w.heap.size + 2) g (s.size + 1) co f o (by omega) (by omega) (by omega) w3 HB3.out HB13.out
    rw [hf, hl1] at HJ
    refine HJ.mono ?_
    rintro e w4 ⟨t4, rfl, hb4, ho4, _⟩
    have HR : Hid (EndsPost w (s.size + 1) s.data.toList (optR S) f (.returned (.slice (some ⟨w.heap.size + 2, 0, none⟩) (s.size + 1) (s.size + 1))) w4) := ⟨w.heap.size + 2, joinB f o, s.size + 1, rfl, hb4, HIm.out.opt, by omega, HO3'.out.trans ho4 (fun k hk e => by omega)⟩
    clear hb4 ho4 HJ
    go_wp2
    go_ret
    exact HR.out
  · have hk' : K = 42 := hk
    subst hk'
    have HS : Hid (PcIs P d A S) := hS
    clear hk hS hx
    go_enter Tryz.func113, Tryz.ntmps113
    go_wp2_with fail
    refine (again_any d HD.out P ⟨42, C, St0, A, B⟩ (by simp) S HS.out pS nS cS _ top s gf cf f _ (HPW _ _ _).out hPl h6 hf (HBW _ _ _).out).mono ?_
    rintro e w1 ⟨g, o, co, rfl, hb1, him, hgl, ho1⟩
    have HR : Hid (EndsPost w (s.size + 1) s.data.toList (starR S) f (.returned (.slice (some ⟨g, 0, none⟩) (s.size + 1) co)) w1) := ⟨g, o, co, rfl, hb1, by simpa using him, by simp at hgl; omega, (HO3 _ _ _).out.trans ho1 (fun _ _ e => e)⟩
    clear hb1 him hgl ho1
    go_wp2
    go_ret
    exact HR.out
  · have hk' : K = 43 := hk
    subst hk'
    have HS : Hid (PcIs P d A S) := hS
    clear hk hS hx
    go_enter Tryz.func113, Tryz.ntmps113
    go_wp2_with fail
    refine (again_any d HD.out P ⟨43, C, St0, A, B⟩ (by simp) S HS.out pS nS cS _ top s gf cf f _ (HPW _ _ _).out hPl h6 hf (HBW _ _ _).out).mono ?_
    rintro e w1 ⟨g, o, co, rfl, hb1, him, hgl, ho1⟩
    have HR : Hid (EndsPost w (s.size + 1) s.data.toList (plusR S) f (.returned (.slice (some ⟨g, 0, none⟩) (s.size + 1) co)) w1) := ⟨g, o, co, rfl, hb1, by simpa using him, by simp at hgl; omega, (HO3 _ _ _).out.trans ho1 (fun _ _ e => e)⟩
    clear hb1 him hgl ho1
    go_wp2
    go_ret
    exact HR.out
theorem ends_all (d : Nat) : EndsOK d := by
  induction d with
  | zero => intro P k R v top s gf cf f w hk; exact hk.elim
  | succ d ih => exact ends_step d ih
end Go.Proofs.YthhiofppbpgipaaGreatDoor
