import Derived.Test.YtdbdbaepmdmnfaaGreatDoorZ10
import Derived.Test.YtdbdbaepmdmnfaaGreatDoorZ17
import Derived.Laws.OwnMore
import Derived.Deep.Slices
import Derived.SliceStrings
import Derived.SizedLaws
import Derived.ProofKit
import Derived.Deep.RegionHeld3
import Derived.Deep.DeepCutAuto
import Derived.Test.YtdbdbaepmdmnfaaGreatDoorZ15
import Derived.Test.YtdbdbaepmdmnfaaGreatDoorZ02
import Derived.Test.YtdbdbaepmdmnfaaGreatDoorZ04
import Derived.Lib.ItoaNum
namespace Go.Proofs.YtdbdbaepmdmnfaaGreatDoor
open Go.RowKit
set_option maxRecDepth 20000 in
set_option maxHeartbeats 4000000 in
theorem ustmt_printL (cb : Nat) (po : Option Addr) (n cap : Nat) (Q : World → Prop) (w : World) (h1 : Calls Tryz.prog 114 #[.pointer (some ⟨cb, 0, none⟩), .slice po n cap] (w.alloc (.cells #[.slice po n cap, .nilIface] 285)) fun en w' => en = .returned (.tuple #[]) ∧ Q w') (hQ : ∀ W, Q W → ∃ a, W.heap[w.heap.size]? = some (.cells #[a, .nilIface] 285 (0, 0))) :
    Calls Tryz.prog 144 #[.pointer (some ⟨cb, 0, none⟩), .iface 285 (.agg #[.slice po n cap, .nilIface])] w fun en w' => en = .returned (.tuple #[]) ∧ Q w' := by
  have q0 := ts419_191 (.agg #[.slice po n cap, .nilIface])
  have q1 := ts419_424 (.agg #[.slice po n cap, .nilIface])
  have q2 := ts419_427 (.agg #[.slice po n cap, .nilIface])
  have q3 := ts419_429 (.agg #[.slice po n cap, .nilIface])
  have q4 := ts419_432 (.agg #[.slice po n cap, .nilIface])
  have q5 := ts419_507 (.agg #[.slice po n cap, .nilIface])
  have q6 := ts419_419 (.agg #[.slice po n cap, .nilIface])
  have H1 := hide h1
  have H2 := hide (uexpr_nil (some ⟨cb, 0, none⟩))
  have HQ := hide hQ
  clear h1 hQ
  go_enter Tryz.func144, Tryz.ntmps144
  go_wp2_with fail
  refine (H1.out).mono ?_
  rintro en w2 ⟨rfl, h3⟩
  obtain ⟨a, hb⟩ := HQ.out _ h3
  have c1 : w2.cell? ⟨w.heap.size, 1, none⟩ = some .nilIface := cell_of hb rfl
  have H3 := hide h3
  clear h3 hb
  go_wp2_with (go_at_call 145; refine (H2.out _).mono ?_; rintro en w' ⟨rfl, h3⟩; subst w')
  go_end0
  exact ⟨rfl, H3.out⟩
set_option maxRecDepth 20000 in
set_option maxHeartbeats 8000000 in
theorem readProgram_okK (T : ByteArray) (hT : T.size ≤ 600) (kd : Nat) (V : Nat → World → Value → Prop) (hV3 : ∀ pb, Stab3 (V pb)) (w : World)
    (hr : ∀ W, Calls Tryz.prog 45 #[.string T] W fun en w' => ∃ pb v, en = .returned (.tuple #[v, .int .i64 0, .bool true]) ∧ ProgT kd (V pb) w' v ∧ Only (fun _ => False) W w')
    (hl : ∀ pb W v, ProgT kd (V pb) W v → Calls Tryz.prog 46 #[v] W fun en w' => en = .returned (.tuple #[.int .i64 0, .bool false]) ∧ Only (fun _ => False) W w') :
    Calls Tryz.prog 34 #[.string T] w fun en w' => ∃ pb v, en = .returned (.tuple #[v, .int .i64 0, .int .i64 0]) ∧ ProgT kd (V pb) w' v ∧ Only (fun _ => False) w w' := by
  have hli : ¬ (600 : Int) < (T.size : Int) := by omega
  have HR := hide (hr (w.alloc (.cells #[.slice none 0 0, .slice none 0 0] 60)))
  have HL := hide hl
  have HV3 := hide hV3
  clear hr hl hV3
  go_enter Tryz.func34, Tryz.ntmps34
  go_wp2_with fail
  refine (HR.out).mono ?_
  rintro en w1 ⟨pb, v, rfl, hp, ho⟩
  have hp0 := hp
  obtain ⟨rs, u, rfl, hrow, hu⟩ := hp
  obtain ⟨pr, cr, rfl⟩ := ownsRow_slice hrow
  have hpA := prog_calm (HV3.out pb) hp0 (onlyA w1 (.cells #[.slice none 0 0, .slice pr 1 cr] 60))
  have HLs := hide (HL.out pb _ _ hpA)
  have HPA := hide hpA
  have HO := hide ho
  have hz1 : w.heap.size + 1 ≤ w1.heap.size := by have := ho.size; simpa using this
  clear hrow hu hp0 hpA ho HR HL
  go_wp2_with fail
  refine (HLs.out).mono ?_
  rintro en w2 ⟨rfl, ho2⟩
  have hb5 := (ho2.block w1.heap.size (by simp) (fun e => e)).trans (new0 w1 (.cells #[.slice none 0 0, .slice pr 1 cr] 60))
  have hb2 := (ho2.block w.heap.size (by simp; omega) (fun e => e)).trans ((Below.heap_alloc _ _ _ (by omega)).trans ((HO.out.block w.heap.size (by simp) (fun e => e)).trans (new0 w (.cells #[.slice none 0 0, .slice none 0 0] 60))))
  have c0 : w2.cell? ⟨w1.heap.size, 0, none⟩ = some (.slice none 0 0) := cell_of hb5 rfl
  have c1 : w2.cell? ⟨w1.heap.size, 1, none⟩ = some (.slice pr 1 cr) := cell_of hb5 rfl
  have d0 : w2.cell? ⟨w.heap.size, 0, none⟩ = some (.slice none 0 0) := cell_of hb2 rfl
  have d1 : w2.cell? ⟨w.heap.size, 1, none⟩ = some (.slice none 0 0) := cell_of hb2 rfl
  have df := free_of hb2
  have HB2 := hide hb2
  have HP2 := hide (prog_calm (HV3.out pb) HPA.out ho2)
  have HO2 := hide ho2
  clear hb5 hb2 ho2 HLs
  go_wp2
  refine bodyPost_ret (v := .tuple #[.agg #[.slice none 0 0, .slice pr 1 cr], .int .i64 0, .int .i64 0]) (by simp [results, Tryz.results34, go_sem, d0, d1]) rfl ⟨pb, _, rfl, ?_, ?_⟩
  · refine prog_only (HV3.out pb) (D := fun k => k = w.heap.size) HP2.out (((Only.refl (fun k => k = w.heap.size) w2).setCell (p := ⟨w.heap.size, 0, none⟩) (fun _ => rfl) _).setCell (p := ⟨w.heap.size, 1, none⟩) (fun _ => rfl) _) ?_
    rintro k rfl
    exact ⟨_, _, HB2.out, by decide, by decide, by decide⟩
  · exact (((((onlyA w _).trans HO.out (fun _ _ e => e)).alloc _).trans HO2.out (fun _ _ e => e)).setCell (p := ⟨w.heap.size, 0, none⟩) (fun h => absurd h (Nat.lt_irrefl _)) _).setCell (p := ⟨w.heap.size, 1, none⟩) (fun h => absurd h (Nat.lt_irrefl _)) _
end Go.Proofs.YtdbdbaepmdmnfaaGreatDoor

namespace Go.Proofs.YtdbdbaepmdmnfaaGreatDoor
open Go.RowKit
theorem lenN (s : ByteArray) : s.data.toList.length = s.size := by rw [Array.length_toList]; rfl
set_option maxRecDepth 20000 in
set_option maxHeartbeats 1000000 in
theorem numLaw (e : Int) (w : World) : Calls Tryz.prog 13 #[.int .i64 e] w fun en w' => en = .returned (.int .i64 e) ∧ w' = w := by
  go_enter Tryz.func13, Tryz.ntmps13
  go_wp2
  go_ret
  exact ⟨rfl, rfl⟩
theorem digit_conv (k : Nat) (w : World) : (convert 54 9 (.slice (some ⟨w.heap.size, 0, none⟩) 1 1)).run Tryz.prog (w.alloc (.cells #[.int .u8 (48 + (k : Int) % 10)] 5)) = .ok (.string (ofB [UInt8.ofNat (48 + k % 10)])) (w.alloc (.cells #[.int .u8 (48 + (k : Int) % 10)] 5)) := by
  have hm : k % 10 < 10 := Nat.mod_lt _ (by omega)
  have hcn : (UInt8.ofNat (48 + k % 10)).toNat = 48 + k % 10 := by
    rw [UInt8.toNat_ofNat']
    exact Nat.mod_eq_of_lt (by omega)
  have hv : (Value.int .u8 (48 + (k : Int) % 10)) = byV (UInt8.ofNat (48 + k % 10)) := by
    unfold byV
    rw [hcn]
    congr 1
  rw [hv]
  have := World.ownsRow_lit (base := 0) (e := 5) (size := 1) w #[byV (UInt8.ofNat (48 + k % 10))] 1 (Nat.zero_le _) (by unfold maxLen; omega) rfl
  exact bytes_conv (M := [UInt8.ofNat (48 + k % 10)]) this
set_option maxRecDepth 20000 in
set_option maxHeartbeats 4000000 in
theorem digits_any (N : Nat) : ∀ (k : Nat), k < N → k ≤ 1000 → ∀ (w : World), Calls Tryz.prog 19 #[.int .i64 k] w fun en w' => en = .returned (.string (ofB (Lib.decDigits k))) ∧ Only (fun _ => False) w w' := by
  induction N with
  | zero =>
    intro k hk hk2 w
    omega
  | succ N ih =>
    intro k hk hk2 w
    have hcv := digit_conv k w
    have hm : k % 10 < 10 := Nat.mod_lt _ (by omega)
    by_cases h10 : k < 10
    · have hki : (k : Int) < 10 := by omega
      have hdd : Lib.decDigits k = [UInt8.ofNat (48 + k % 10)] := by rw [Lib.decDigits_one h10, Nat.mod_eq_of_lt h10]
      rw [hdd]
      generalize UInt8.ofNat (48 + k % 10) = c at hcv
      go_enter Tryz.func19, Tryz.ntmps19
      go_wp2
      go_ret
      exact ⟨rfl, onlyA _ _⟩
    · have hki : ¬ (k : Int) < 10 := by omega
      have hdd : ofB (Lib.decDigits k) = ofB (Lib.decDigits (k / 10)) ++ ofB [UInt8.ofNat (48 + k % 10)] := by rw [Lib.decDigits, dif_neg h10, ofB_appendR]
      rw [hdd]
      have hln : (Lib.decDigits (k / 10)).length ≤ 30 := by
        have := itoa_short (k / 10) (by omega)
        rw [Lib.itoa_nonneg] at this
        exact this
      have hls : (ofB (Lib.decDigits (k / 10))).size ≤ 30 := by rw [ofB_sizeR]; exact hln
      have hl1 : (ofB [UInt8.ofNat (48 + k % 10)]).size = 1 := rfl
      have HI : Hid (∀ W, Calls Tryz.prog 19 #[.int .i64 ((k : Int) / 10)] W fun en w' => en = .returned (.string (ofB (Lib.decDigits (k / 10)))) ∧ Only (fun _ => False) W w') := hide (fun W => ih (k / 10) (by omega) (by omega) W)
      generalize UInt8.ofNat (48 + k % 10) = c at hcv hl1
      clear hln hdd
      generalize ofB (Lib.decDigits (k / 10)) = D at *
      go_enter Tryz.func19, Tryz.ntmps19
      go_wp2_with (go_at_call 19; refine (HI.out _).mono ?_; rintro en w2 ⟨rfl, ho⟩; have HO := hide ho; clear ho)
      go_ret
      exact ⟨rfl, (onlyA w _).trans HO.out (fun _ _ e => e)⟩
end Go.Proofs.YtdbdbaepmdmnfaaGreatDoor

namespace Go.Proofs.YtdbdbaepmdmnfaaGreatDoor
open Go.RowKit
/-- What ran answers: v, or that a line has too many words. -/
def RanTo (w : World) (T : List UInt8) (v : ByteArray) (en : Ending) (w' : World) : Prop :=
  ∃ (g : Nat) (x : ByteArray) (E : Int), en = .returned (.agg #[.slice (some ⟨g, 0, none⟩) 1 1, .int .i64 0, .int .i64 E, .int .i64 0]) ∧ w'.heap[g]? = some (.cells #[.string ⟨#[]⟩, .string x] 41 (0, 0)) ∧ ((AllFew (recs T) ∧ E = 0 ∧ x = v) ∨ (¬ AllFew (recs T) ∧ E = 6)) ∧ Only (fun _ => False) w w'
set_option maxRecDepth 20000 in
set_option maxHeartbeats 4000000 in
theorem ran_of (p T v : ByteArray) (w : World) (h : ∀ W, Only (fun _ => False) w W → Calls Tryz.prog 28 #[.string p, .string T, .int .i64 2000] W fun en w' => ∃ (g : Nat) (x : ByteArray) (E : Int), en = .returned (.tuple #[.slice (some ⟨g, 0, none⟩) 1 1, .int .i64 0, .int .i64 E, .int .i64 0]) ∧ w'.heap[g]? = some (.cells #[.string ⟨#[]⟩, .string x] 41 (0, 0)) ∧ (AllFew (recs T.data.toList) → E = 0 ∧ x = v) ∧ (¬ AllFew (recs T.data.toList) → E = 6) ∧ Only (fun _ => False) W w') :
    Calls Tryz.prog 18 #[.string p, .string T, .int .i64 2000] w (RanTo w T.data.toList v) := by
  have HR := hide h
  clear h
  go_enter Tryz.func18, Tryz.ntmps18
  go_wp2_with fail
  refine (HR.out _ (onlyA w _)).mono ?_
  rintro en w2 ⟨g, x, E, rfl, h1, h2, h3, ho⟩
  have hb := (ho.block w.heap.size (by simp) (fun e => e)).trans (new0 w _)
  have c0 : w2.cell? ⟨w.heap.size, 0, none⟩ = some (.slice none 0 0) := cell_of hb rfl
  have c1 : w2.cell? ⟨w.heap.size, 1, none⟩ = some (.int .i64 0) := cell_of hb rfl
  have c2 : w2.cell? ⟨w.heap.size, 2, none⟩ = some (.int .i64 0) := cell_of hb rfl
  have c3 : w2.cell? ⟨w.heap.size, 3, none⟩ = some (.int .i64 0) := cell_of hb rfl
  have hfr := free_of hb
  have hne : g ≠ w.heap.size := fun e => by
    rw [e, hb] at h1
    cases h1
  have HO := hide ((onlyA w _).trans ho (fun _ _ e => e))
  have H1 := hide h1
  have H2 := hide h2
  have H3 := hide h3
  have HB := hide hb
  clear h1 h2 h3 ho hb
  go_wp2_with (go_at_call 13; refine (numLaw _ _).mono ?_; rintro en w' ⟨rfl, h3⟩; subst w')
  refine bodyPost_ret (v := .agg #[.slice (some ⟨g, 0, none⟩) 1 1, .int .i64 0, .int .i64 E, .int .i64 0]) (by simp [results, Tryz.results18, go_sem, c0, c1, c2, c3]) rfl ?_
  have hst : ∀ (W : World) (o : Nat) (u : Value), W.heap[g]? = some (.cells #[.string ⟨#[]⟩, .string x] 41 (0, 0)) → (W.setCell ⟨w.heap.size, o, none⟩ u).heap[g]? = some (.cells #[.string ⟨#[]⟩, .string x] 41 (0, 0)) := fun W o u h => (Below.heap_setCell _ _ _ _ hne).trans h
  refine ⟨g, x, E, rfl, hst _ _ _ (hst _ _ _ (hst _ _ _ (hst _ _ _ H1.out))), ?_, (((HO.out.setCell (fun h => absurd h (Nat.lt_irrefl _)) _).setCell (fun h => absurd h (Nat.lt_irrefl _)) _).setCell (fun h => absurd h (Nat.lt_irrefl _)) _).setCell (fun h => absurd h (Nat.lt_irrefl _)) _⟩
  by_cases hf : AllFew (recs T.data.toList)
  · exact Or.inl ⟨hf, H2.out hf⟩
  · exact Or.inr ⟨hf, H3.out hf⟩
/-- A step of a script, as it lies in memory. -/
def OpN (w : World) (b o : Nat) : Prop := ∃ (K A B : Int) (s t u : ByteArray) (ao : Option Addr) (n cap : Nat), (t.size ≤ 1125899906842624 ∧ u.size ≤ 1125899906842624) ∧
  w.cell? ⟨b, o, none⟩ = some (.int .i64 K) ∧ w.cell? ⟨b, o + 1, none⟩ = some (.int .i64 A) ∧ w.cell? ⟨b, o + 2, none⟩ = some (.int .i64 B) ∧ w.cell? ⟨b, o + 3, none⟩ = some (.string s) ∧ w.cell? ⟨b, o + 4, none⟩ = some (.string t) ∧ w.cell? ⟨b, o + 5, none⟩ = some (.string u) ∧ w.cell? ⟨b, o + 6, none⟩ = some (.slice ao n cap)
theorem OpN.below {w w' : World} {b o : Nat} (h : OpN w b o) (hb : Below w.heap.size w w') (hB : b < w.heap.size) : OpN w' b o := by
  obtain ⟨K, A, B, s, t, u, ao, n, cap, hz, h0, h1, h2, h3, h4, h5, h6⟩ := h
  refine ⟨K, A, B, s, t, u, ao, n, cap, hz, ?_, ?_, ?_, ?_, ?_, ?_, ?_⟩
  · rw [hb.cell (p := ⟨b, o, none⟩) hB]; exact h0
  · rw [hb.cell (p := ⟨b, o + 1, none⟩) hB]; exact h1
  · rw [hb.cell (p := ⟨b, o + 2, none⟩) hB]; exact h2
  · rw [hb.cell (p := ⟨b, o + 3, none⟩) hB]; exact h3
  · rw [hb.cell (p := ⟨b, o + 4, none⟩) hB]; exact h4
  · rw [hb.cell (p := ⟨b, o + 5, none⟩) hB]; exact h5
  · rw [hb.cell (p := ⟨b, o + 6, none⟩) hB]; exact h6
end Go.Proofs.YtdbdbaepmdmnfaaGreatDoor

namespace Go.Proofs.YtdbdbaepmdmnfaaGreatDoor
open Go.RowKit
theorem OpN.only {w w' : World} {b o : Nat} (h : OpN w b o) (ho : Only (fun _ => False) w w') (hB : b < w.heap.size) : OpN w' b o := h.below (ho.below (Nat.le_refl _) (fun _ _ e => e)) hB
theorem keepC {w w' : World} (ho : Only (fun _ => False) w w') {p : Addr} {v : Value} (h : w.cell? p = some v) : w'.cell? p = some v := (ho.cell (p := p) (World.block_lt_of_cell? w p h) (fun e => e)).trans h
end Go.Proofs.YtdbdbaepmdmnfaaGreatDoor

namespace Go.Proofs.YtdbdbaepmdmnfaaGreatDoor
open Go.RowKit Go.Deep Go.ChangeShapes
theorem cells25 : Tryz.prog.cellsOf 25 = 7 := by kernel_rfl
theorem cells3 : Tryz.prog.cellsOf 3 = 1 := by kernel_rfl
theorem cells9 : Tryz.prog.cellsOf 9 = 1 := by kernel_rfl
theorem cells23 : Tryz.prog.cellsOf 23 = 1 := by kernel_rfl
theorem bytes25 : Tryz.prog.bytesOf 25 = 96 := by kernel_rfl
theorem spot_of_cell {w : World} {a : Addr} {v : Value} (h : w.cell? a = some v) : ∃ b o, a = ⟨b, o, none⟩ := by
  obtain ⟨b, o, sp⟩ := a
  cases sp with
  | none => exact ⟨b, o, rfl⟩
  | some s =>
    exfalso
    unfold World.cell? at h
    split at h <;> simp_all
theorem add_none (b o j : Nat) : (⟨b, o, none⟩ : Addr).add j = ⟨b, o + j, none⟩ := by
  unfold Addr.add; split
  · rename_i h; subst h; rfl
  · rfl
theorem list7 {α : Type} (l : List α) (h : l.length = 7) : ∃ a b c d e f g, l = [a, b, c, d, e, f, g] := by
  match l, h with
  | [a, b, c, d, e, f, g], _ => exact ⟨a, b, c, d, e, f, g, rfl⟩
theorem lt_of_cell {w : World} {b o : Nat} {v : Value} (h : w.cell? ⟨b, o, none⟩ = some v) : b < w.heap.size := World.block_lt_of_cell? w ⟨b, o, none⟩ h
/-- What an element weighs, the whole row weighs. -/
theorem weights_mem_all {H : Type} {P : Program} {e : TypeId} {l : List (DataW H)} {d : DataW H} (hd : d ∈ l) {n : Nat} (hn : n ∈ d.weights P e) : n ∈ DataW.weightsAll P e l := by
  induction l with
  | nil => cases hd
  | cons x r ih =>
    unfold DataW.weightsAll
    rw [List.mem_append]
    cases hd with
    | head => exact Or.inl hn
    | tail _ h => exact Or.inr (ih h)
theorem opn_open {H : Type} {enc : TypeId × Value → H} {W : World} {n b o : Nat} {cs : List Value} {D : DataW H} {Pl : List MemPlace}
    (hc : W.cells? 0 ⟨b, o, none⟩ 7 = some cs) (hf : DataW.trod enc Tryz.prog W 0 (fun _ => true) true n 25 cs = some (D, Pl)) (hw : ∀ x ∈ D.weights Tryz.prog 25, x ≤ reachBytes) : OpN W b o := by
  obtain ⟨_, hlen, hcell⟩ := World.cells?_some hc
  obtain ⟨xs, m, rfl, hx, _, hxl, hfs⟩ := DataW.trod_struct Tryz.underlying25 hf
  obtain ⟨c0, c1, c2, c3, c4, c5, c6, rfl⟩ := list7 cs hlen
  obtain ⟨x0, x1, x2, x3, x4, x5, x6, rfl⟩ := list7 xs hxl
  have f0 := hfs 0 _ rfl
  have f1 := hfs 1 _ rfl
  have f2 := hfs 2 _ rfl
  have f3 := hfs 3 _ rfl
  have f4 := hfs 4 _ rfl
  have f5 := hfs 5 _ rfl
  have f6 := hfs 6 _ rfl
  simp [cells3, cells9, cells23] at f0 f1 f2 f3 f4 f5 f6
  obtain ⟨K, k0, rfl, _⟩ := DataW.trod_int Tryz.underlying3 f0
  obtain ⟨A, k1, rfl, _⟩ := DataW.trod_int Tryz.underlying3 f1
  obtain ⟨B, k2, rfl, _⟩ := DataW.trod_int Tryz.underlying3 f2
  obtain ⟨s, k3, rfl, hs⟩ := DataW.trod_string Tryz.underlying9 f3
  obtain ⟨t, k4, rfl, ht⟩ := DataW.trod_string Tryz.underlying9 f4
  obtain ⟨u, k5, rfl, hu⟩ := DataW.trod_string Tryz.underlying9 f5
  simp only [List.cons.injEq, and_true] at k0 k1 k2 k3 k4 k5
  subst k0 k1 k2 k3 k4 k5
  have e : ∀ j, j < 7 → W.cell? ⟨b, o + j, none⟩ = [Value.int .i64 K, .int .i64 A, .int .i64 B, .string s, .string t, .string u, c6][j]? := fun j hj => by
    have := hcell j hj; rw [add_none] at this; exact this
  have hD := congrArg Prod.fst hx
  simp only [List.map_cons, List.map_nil] at hD
  have ht2 : t.data.toList.length ≤ reachBytes := hw _ (by
    rw [hD]
    unfold DataW.weights
    rw [Tryz.underlying25]
    exact DataW.weights_mem_each (j := 4) (t := 9) rfl rfl _ (by unfold DataW.weights; exact List.mem_singleton.2 rfl))
  have hu2 : u.data.toList.length ≤ reachBytes := hw _ (by
    rw [hD]
    unfold DataW.weights
    rw [Tryz.underlying25]
    exact DataW.weights_mem_each (j := 5) (t := 9) rfl rfl _ (by unfold DataW.weights; exact List.mem_singleton.2 rfl))
  rw [lenN] at ht2 hu2
  unfold reachBytes at ht2 hu2
  rcases open_strings Tryz.underlying23 Tryz.underlying9 cells9 f6 with ⟨h6, h7⟩ | ⟨a, len, cap, ss, h6, _, hl, hm, hz, h7, hsc, hsz⟩
  · simp only [List.cons.injEq, and_true] at h6
    subst h6
    exact ⟨K, A, B, s, t, u, none, 0, 0, ⟨by omega, by omega⟩, e 0 (by omega), e 1 (by omega), e 2 (by omega), e 3 (by omega), e 4 (by omega), e 5 (by omega), e 6 (by omega)⟩
  · simp only [List.cons.injEq, and_true] at h6
    subst h6
    exact ⟨K, A, B, s, t, u, some a, len, cap, ⟨by omega, by omega⟩, e 0 (by omega), e 1 (by omega), e 2 (by omega), e 3 (by omega), e 4 (by omega), e 5 (by omega), e 6 (by omega)⟩
end Go.Proofs.YtdbdbaepmdmnfaaGreatDoor

namespace Go.Proofs.YtdbdbaepmdmnfaaGreatDoor
open Go.RowKit
set_option maxRecDepth 100000 in
set_option maxHeartbeats 4000000 in
theorem cut_blankP (t p : ByteArray) (h6 : (p.toList == [32]) = true) (ht : t.size ≤ 500) (w : World) :
    Calls Tryz.prog 27 #[.string t, .string p] w fun en w' => ∃ v, en = .returned (.tuple #[v, .bool true]) ∧ w'.ownsRow w.heap.size 9 1 v (words [] t.data.toList).length (strsV (words [] t.data.toList)) ∧ Only (fun _ => False) w w' := by
  go_enter Tryz.func27, Tryz.ntmps27
  go_wp2_with (go_at_call 36; refine (blanks_any t ht w).mono ?_; rintro en w1 ⟨v, rfl, hr, ho⟩; have HR := hide hr; have HO := hide ho; clear hr ho)
  go_ret2
  exact ⟨_, rfl, HR.out, HO.out⟩
theorem blank2 : ((⟨#[32]⟩ : ByteArray).toList == [32]) = true := by rw [ByteArray.toList_eq]; rfl
/-- Cutting by a blank. -/
theorem cut_blank (t : ByteArray) (ht : t.size ≤ 500) (w : World) : Calls Tryz.prog 27 #[.string t, .string ⟨#[32]⟩] w fun en w' => ∃ v, en = .returned (.tuple #[v, .bool true]) ∧ w'.ownsRow w.heap.size 9 1 v (words [] t.data.toList).length (strsV (words [] t.data.toList)) ∧ Only (fun _ => False) w w' := cut_blankP t ⟨#[32]⟩ blank2 ht w
set_option maxRecDepth 100000 in
set_option maxHeartbeats 4000000 in
theorem split_blankP (t p : ByteArray) (h1 : ¬ 500 < t.size) (h2 : ¬ 500 < p.size) (w : World) (HC : ∀ W, Calls Tryz.prog 27 #[.string t, .string p] W fun en w' => ∃ v, en = .returned (.tuple #[v, .bool true]) ∧ w'.ownsRow W.heap.size 9 1 v (words [] t.data.toList).length (strsV (words [] t.data.toList)) ∧ Only (fun _ => False) W w') :
    Calls Tryz.prog 10 #[.string t, .string p] w fun en w' => ∃ v, en = .returned (.tuple #[v, .int .i64 0]) ∧ w'.ownsRow w.heap.size 9 1 v (words [] t.data.toList).length (strsV (words [] t.data.toList)) ∧ Only (fun _ => False) w w' := by
  have HCt := hide HC
  clear HC
  go_enter Tryz.func10, Tryz.ntmps10
  go_wp2_with fail
  refine (long_no t h1 _).mono ?_
  rintro e w' ⟨rfl, rfl⟩
  go_wp2_with fail
  refine (long_no p h2 _).mono ?_
  rintro e w' ⟨rfl, rfl⟩
  go_wp2_with fail
  refine (HCt.out _).mono ?_
  rintro e w1 ⟨v, rfl, hr, ho⟩
  have HR := hide hr
  have HO := hide ho
  clear hr ho
  go_wp2
  go_ret2
  exact ⟨_, rfl, HR.out, HO.out⟩
theorem split_blank (t : ByteArray) (ht : t.size ≤ 500) (w : World) : Calls Tryz.prog 10 #[.string t, .string ⟨#[32]⟩] w fun en w' => ∃ v, en = .returned (.tuple #[v, .int .i64 0]) ∧ w'.ownsRow w.heap.size 9 1 v (words [] t.data.toList).length (strsV (words [] t.data.toList)) ∧ Only (fun _ => False) w w' := split_blankP t ⟨#[32]⟩ (by omega) (by decide) w (fun W => cut_blank t ht W)
end Go.Proofs.YtdbdbaepmdmnfaaGreatDoor

namespace Go.Proofs.YtdbdbaepmdmnfaaGreatDoor
open Go.RowKit
/-- What fielded is wanted to answer, of lines. -/
def FieldedOK (a : Addr) : Prop := ∀ (line : ByteArray) (W : World), line.size ≤ 60 → 0 < line.size → (∀ b ∈ line.data.toList, b ≠ 10) → SentF W a → Lib.TabIs Tryz.prog W "internal/strconv.uint64pow10" .u64 Lib.pow10Tab → Calls Tryz.prog 21 #[.string line] W fun en w' => en = .returned (.bool true) ∧ Only (fun _ => False) W w'
theorem empty_yes (L : ByteArray) (h : L.size = 0) : L.toList.isEmpty = true := by
  rw [ByteArray.toList_eq]
  have : L.data.toList = [] := List.eq_nil_of_length_eq_zero (by rw [← h]; rfl)
  rw [this]
  rfl
theorem empty_no (L : ByteArray) (h : 0 < L.size) : L.toList.isEmpty = false := by
  rw [ByteArray.toList_eq]
  have hl : 0 < L.data.toList.length := h
  cases hd : L.data.toList with
  | nil => rw [hd] at hl; simp at hl
  | cons a r => rfl
theorem ext_succ (t : ByteArray) (k : Nat) : t.extract 0 k ++ t.extract k (k + 1) = t.extract 0 (k + 1) := by
  rw [ByteArray.extract_append_extract]
  congr 1 <;> omega
theorem ext_mem (t : ByteArray) (k : Nat) (h : k < t.size) (hk : ∀ b ∈ (t.extract 0 k).data.toList, b ≠ 10) (hc : t[k] ≠ 10) : ∀ b ∈ (t.extract 0 (k + 1)).data.toList, b ≠ 10 := by
  intro b hb
  rw [← ext_succ t k, ByteArray.data_append, Array.toList_append, List.mem_append] at hb
  rcases hb with hb | hb
  · exact hk b hb
  · have : (t.extract k (k + 1)).data.toList = [t[k]] := by
      apply List.ext_getElem
      · simp
        omega
      · intro i h1 h2
        have : i = 0 := by simp at h2; omega
        subst this
        simp
        rfl
    rw [this] at hb
    simp at hb
    rw [hb]
    exact hc
set_option maxRecDepth 100000 in
set_option maxHeartbeats 8000000 in
theorem fieldsL_some (b off n cap : Nat) (hn : n ≤ 140737488355328) (a : Addr) (hF : FieldedOK a) (w : World) (hB : b < w.heap.size) (hO : ∀ i, i < n → OpN w b (off + i * 7)) (hse : SentF w a) (htab : Lib.TabIs Tryz.prog w "internal/strconv.uint64pow10" .u64 Lib.pow10Tab) :
    Calls Tryz.prog 6 #[.slice (some ⟨b, off, none⟩) n cap] w fun e w' => e = .returned (.bool true) ∧ Only (fun _ => False) w w' := by
  have HOp := hide hO
  have HSe := hide hse
  have HTb := hide htab
  have HF := hide hF
  clear hO hse htab hF
  go_enter Tryz.func6, Tryz.ntmps6
  go_wp2
  go_loopw [3] (fun i wr => ∃ k : Nat, k ≤ n ∧ i = .int .i64 k ∧ Only (fun _ => False) w wr) (fun i _ => n - (intOf i).toNat)
  case atStart => exact ⟨0, by omega, rfl, Only.refl _ _⟩
  case round =>
    obtain ⟨k, hk, rfl, hbw⟩ := hrel
    by_cases hlt : k < n
    · obtain ⟨K, A, B, s, t, u, ao, nn, cp, ⟨z1, z2⟩, h0, h1, h2, h3, h4, h5, h6⟩ := (HOp.out k hlt).only hbw hB
      have hk60 : (k : Int) < 1152921504606846976 := by omega
      have HB := hide hbw
      clear hbw h0 h1 h2 h3 h5 h6
      go_wp2_with fail
      go_loopw [4, 6] (fun s4 s6 w2 => ∃ (m : Nat) (L : ByteArray), m ≤ 60 ∧ m ≤ t.size ∧ s4 = .string L ∧ s6 = .int .i64 m ∧ Hid (L = t.extract 0 m ∧ ∀ b ∈ (t.extract 0 m).data.toList, b ≠ 10) ∧ w2 = wr) (fun _ s6 _ => 60 - (intOf s6).toNat)
      case atStart => exact ⟨0, ⟨#[]⟩, by omega, by omega, rfl, rfl, hide ⟨by apply ByteArray.ext; simp, fun b hb => by simp at hb⟩, rfl⟩
      case round =>
        obtain ⟨m, L, hm, hmt, rfl, rfl, HNo, rfl⟩ := hrel
        have hze : (t.extract 0 m).size = m := by rw [ByteArray.size_extract]; omega
        by_cases hgo : m < t.size ∧ m < 60 ∧ t[m]? ≠ some 10
        · obtain ⟨g1, g2, g3⟩ := hgo
          have hc : t[m] ≠ 10 := fun e => g3 (by rw [getElem?_pos t m g1, e])
          have HNo2 : Hid (∀ b ∈ (t.extract 0 (m + 1)).data.toList, b ≠ 10) := hide (ext_mem t m g1 HNo.out.2 hc)
          have hx : ((t[m].toNat : Int) == 10) = false := by
            rw [beq_eq_false_iff_ne]
            intro e
            exact hc (UInt8.toNat_inj.1 (by show _ = 10; omega))
          have hx2 : ((t[m].toNat : Int) != 10) = true := by rw [bne, hx]; rfl
          have hi1 : (m : Int) < (t.size : Int) := by omega
          have hi2 : decide ((m : Int) < 60) = true := by simp; omega
          have hi3 : (m : Int) + 1 ≤ (t.size : Int) := by omega
          obtain ⟨L2, HL2⟩ : ∃ L2, Hid (L2 = t.extract 0 (m + 1)) := ⟨_, rfl⟩
          have hadd : ∀ W, (Op.stringOp .add L (t.extract m (m + 1))).run Tryz.prog W = .ok (.string L2) W := fun W => by
            rw [HNo.out.1, HL2.out, run_string_add_sum W _ _ (by rw [hze, ByteArray.size_extract]; omega), ext_succ]
          have HM1 := hide hm
          have HM2 := hide hmt
          have HLT := hide hlt
          have HK6 := hide hk60
          have HKN := hide hk
          have HN1 := hide hn
          have HG2 := hide g2
          clear g3 hc hze hlt hk60 hk hn z1 z2 g2 hB
          go_wp2_with fail
          go_roundw
          case rel => exact ⟨m + 1, L2, by have := HG2.out; omega, by omega, rfl, by simp, hide ⟨HL2.out, HNo2.out⟩, trivial⟩
          case measure => simp [intOf]; have := HG2.out; omega
        · have HNg := hide hgo
          clear hgo
          by_cases g1 : m < t.size
          · by_cases g2 : m < 60
            · have hc : t[m] = 10 := by
                by_cases e : t[m] = 10
                · exact e
                · exact (HNg.out ⟨g1, g2, fun h => e (by rw [getElem?_pos t m g1] at h; exact Option.some.inj h)⟩).elim
              have hx : ((t[m].toNat : Int) == 10) = true := by rw [hc]; rfl
              have hx2 : ((t[m].toNat : Int) != 10) = false := by rw [hc]; rfl
              have hi1 : (m : Int) < (t.size : Int) := by omega
              have hi2 : decide ((m : Int) < 60) = true := by simp; omega
              clear hc
              have hLs : L.size = m := by rw [HNo.out.1]; exact hze
              have HS := hide hLs
              have HN6 := hide hm
              have HLT := hide hlt
              have HKN := hide hk
              clear hze z1 z2 hm hmt hB
              by_cases h0 : m = 0
              · have hemp := empty_yes L (by rw [HS.out]; exact h0)
                clear hLs h0
                go_wp2_with fail
                go_roundw
                case rel => exact ⟨k + 1, by have := HLT.out; omega, by simp, HB.out⟩
                case measure => simp [intOf]; have := HLT.out; omega
              · have hemp := empty_no L (by rw [HS.out]; omega)
                have HH := hide h0
                clear hLs h0
                go_wp2_with fail
                refine (HF.out L _ (by rw [HS.out]; exact HN6.out) (by rw [HS.out]; have := HH.out; omega) (by rw [HNo.out.1]; exact HNo.out.2) (HSe.out.only HB.out) (tab_only HTb.out HB.out)).mono ?_
                rintro en w3 ⟨rfl, ho3⟩
                have HO3 := hide (HB.out.trans ho3 (fun _ _ e => e))
                clear ho3
                go_wp2_with fail
                go_roundw
                case rel => exact ⟨k + 1, by have := HLT.out; omega, by simp, HO3.out⟩
                case measure => simp [intOf]; have := HLT.out; omega
            · have hi1 : (m : Int) < (t.size : Int) := by omega
              have hi2 : decide ((m : Int) < 60) = false := by simp; omega
              have hLs : L.size = m := by rw [HNo.out.1]; exact hze
              have HS := hide hLs
              have HN6 := hide hm
              have HLT := hide hlt
              have HKN := hide hk
              clear hze z1 z2 hm hmt hB
              by_cases h0 : m = 0
              · have hemp := empty_yes L (by rw [HS.out]; exact h0)
                clear hLs h0
                go_wp2_with fail
                go_roundw
                case rel => exact ⟨k + 1, by have := HLT.out; omega, by simp, HB.out⟩
                case measure => simp [intOf]; have := HLT.out; omega
              · have hemp := empty_no L (by rw [HS.out]; omega)
                have HH := hide h0
                clear hLs h0
                go_wp2_with fail
                refine (HF.out L _ (by rw [HS.out]; exact HN6.out) (by rw [HS.out]; have := HH.out; omega) (by rw [HNo.out.1]; exact HNo.out.2) (HSe.out.only HB.out) (tab_only HTb.out HB.out)).mono ?_
                rintro en w3 ⟨rfl, ho3⟩
                have HO3 := hide (HB.out.trans ho3 (fun _ _ e => e))
                clear ho3
                go_wp2_with fail
                go_roundw
                case rel => exact ⟨k + 1, by have := HLT.out; omega, by simp, HO3.out⟩
                case measure => simp [intOf]; have := HLT.out; omega
          · have hi1 : ¬ (m : Int) < (t.size : Int) := by omega
            have hLs : L.size = m := by rw [HNo.out.1]; exact hze
            have HS := hide hLs
            have HN6 := hide hm
            have HLT := hide hlt
            have HKN := hide hk
            clear hze z1 z2 hm hmt hB
            by_cases h0 : m = 0
            · have hemp := empty_yes L (by rw [HS.out]; exact h0)
              clear hLs h0
              go_wp2_with fail
              go_roundw
              case rel => exact ⟨k + 1, by have := HLT.out; omega, by simp, HB.out⟩
              case measure => simp [intOf]; have := HLT.out; omega
            · have hemp := empty_no L (by rw [HS.out]; omega)
              have HH := hide h0
              clear hLs h0
              go_wp2_with fail
              refine (HF.out L _ (by rw [HS.out]; exact HN6.out) (by rw [HS.out]; have := HH.out; omega) (by rw [HNo.out.1]; exact HNo.out.2) (HSe.out.only HB.out) (tab_only HTb.out HB.out)).mono ?_
              rintro en w3 ⟨rfl, ho3⟩
              have HO3 := hide (HB.out.trans ho3 (fun _ _ e => e))
              clear ho3
              go_wp2_with fail
              go_roundw
              case rel => exact ⟨k + 1, by have := HLT.out; omega, by simp, HO3.out⟩
              case measure => simp [intOf]; have := HLT.out; omega
    · go_wp2
      go_ret
      exact ⟨rfl, hbw⟩
set_option maxHeartbeats 1000000 in
theorem fieldsL_none (ao : Option Addr) (cap : Nat) (w : World) : Calls Tryz.prog 6 #[.slice ao 0 cap] w fun e w' => e = .returned (.bool true) ∧ Only (fun _ => False) w w' := by
  go_enter Tryz.func6, Tryz.ntmps6
  go_wp2
  go_loop [3] (fun i => i = .int .i64 0) (fun _ => 0)
  case atStart => exact rfl
  case round =>
    subst hrel
    go_wp2
    go_ret
    exact ⟨rfl, Only.refl _ _⟩
end Go.Proofs.YtdbdbaepmdmnfaaGreatDoor

namespace Go.Proofs.YtdbdbaepmdmnfaaGreatDoor
open Go.RowKit
/-- The pieces with the separator between them. -/
def joinsL (sep : List UInt8) : List (List UInt8) → List UInt8
  | [] => []
  | l :: L => l ++ (L.map (sep ++ ·)).flatten
theorem joinsL_snoc {sep : List UInt8} {L : List (List UInt8)} {l : List UInt8} : joinsL sep (L ++ [l]) = joinsL sep L ++ (if 0 < L.length then sep else []) ++ l := by
  match L with
  | [] => simp [joinsL]
  | a :: L => simp [joinsL]
theorem jtake_snoc {α : Type} {L : List α} {k : Nat} {l : α} (h : L[k]? = some l) : L.take (k + 1) = L.take k ++ [l] := by
  rw [List.take_add_one, h]; rfl
theorem ofB_appJ (a b : List UInt8) : ofB a ++ ofB b = ofB (a ++ b) := by
  apply ByteArray.ext
  rw [ByteArray.data_append]
  apply Array.toList_inj.1
  simp [ofB]
theorem ofB_sizeJ (l : List UInt8) : (ofB l).size = l.length := by show l.toArray.size = _; simp
theorem joinsL_app (sep : List UInt8) (L M : List (List UInt8)) : (joinsL sep L).length ≤ (joinsL sep (L ++ M)).length := by
  induction M generalizing L with
  | nil => rw [List.append_nil]; exact Nat.le_refl _
  | cons m M ih =>
    have h := ih (L ++ [m])
    rw [List.append_assoc, List.singleton_append] at h
    refine Nat.le_trans ?_ h
    rw [joinsL_snoc, List.length_append, List.length_append]; omega
theorem joinsL_take (sep : List UInt8) (L : List (List UInt8)) (k : Nat) : (joinsL sep (L.take k)).length ≤ (joinsL sep L).length := by
  have h := joinsL_app sep (L.take k) (L.drop k)
  rw [List.take_append_drop] at h
  exact h
set_option maxRecDepth 100000 in
set_option maxHeartbeats 1000000 in
theorem joins_any (g cap : Nat) (L : List (List UInt8)) (p : ByteArray) (hl : L.length ≤ 501) (hp : p.size ≤ 500) (hT : (joinsL p.data.toList L).length ≤ 500) (w : World) (hA : ∀ (i : Nat) l, L[i]? = some l → w.cell? ⟨g, i, none⟩ = some (.string (ofB l))) :
    Calls Tryz.prog 32 #[.slice (some ⟨g, 0, none⟩) L.length cap, .string p] w fun e w' => e = .returned (.string (ofB (joinsL p.data.toList L))) ∧ w' = w := by
  have HA := hide hA
  have HT := hide hT
  clear hA hT
  go_enter Tryz.func32, Tryz.ntmps32
  go_wp2
  go_loop [5, 6] (fun s x => ∃ k : Nat, k ≤ L.length ∧ x = .int .i64 k ∧ s = .string (ofB (joinsL p.data.toList (L.take k)))) (fun s x => L.length - (intOf x).toNat)
  case atStart => exact ⟨0, by omega, rfl, rfl⟩
  case round =>
    obtain ⟨k, hk, rfl, rfl⟩ := hrel
    by_cases hlt : k < L.length
    · obtain ⟨x, hx⟩ : ∃ x, L[k]? = some x := ⟨L[k], List.getElem?_eq_getElem hlt⟩
      have c0 : w.cell? ⟨g, k, none⟩ = some (.string (ofB x)) := HA.out k x hx
      have hki : (k : Int) < (L.length : Int) := by omega
      have HX := hide hx
      have z1 : (joinsL p.data.toList (L.take (k + 1))).length ≤ 500 := Nat.le_trans (joinsL_take _ _ _) HT.out
      rw [jtake_snoc hx, joinsL_snoc, List.length_append, List.length_append] at z1
      have z2 : (ofB (joinsL p.data.toList (L.take k))).size + p.size ≤ 9223372036854775807 := by rw [ofB_sizeJ]; omega
      have z3 : (ofB (joinsL p.data.toList (L.take k)) ++ p).size + (ofB x).size ≤ 9223372036854775807 := by rw [ByteArray.size_append, ofB_sizeJ, ofB_sizeJ]; omega
      clear hx
      by_cases h0 : 0 < k
      · have h0' : (0 : Int) < (k : Int) := by omega
        clear z1
        go_wp2
        go_round
        case rel => exact ⟨k + 1, by omega, by go_num, by
          rw [jtake_snoc HX.out, joinsL_snoc, if_pos (by rw [List.length_take]; omega), ← ofB_appJ, ← ofB_appJ]; rfl⟩
        case measure => simp [intOf]; omega
      · obtain rfl : k = 0 := by omega
        have z4 : (ofB (joinsL p.data.toList [])).size + (ofB x).size ≤ 9223372036854775807 := by rw [ofB_sizeJ, ofB_sizeJ]; show 0 + x.length ≤ _; omega
        clear z1 z2 z3
        go_wp2
        go_round
        case rel => exact ⟨1, by omega, by go_num, by
          rw [jtake_snoc HX.out, joinsL_snoc, if_neg (by simp), List.append_nil, ← ofB_appJ]; rfl⟩
        case measure => simp [intOf]; omega
    · obtain rfl : k = L.length := by omega
      go_wp2
      go_ret
      exact ⟨rfl, rfl⟩
set_option maxHeartbeats 1000000 in
theorem joins_zero (ao : Option Addr) (cap : Nat) (p : ByteArray) (w : World) : Calls Tryz.prog 32 #[.slice ao 0 cap, .string p] w fun e w' => e = .returned (.string ⟨#[]⟩) ∧ w' = w := by
  go_enter Tryz.func32, Tryz.ntmps32
  go_wp2
  go_loop [5, 6] (fun s x => x = .int .i64 0 ∧ s = .string ⟨#[]⟩) (fun s x => 0)
  case atStart => exact ⟨rfl, rfl⟩
  case round =>
    obtain ⟨rfl, rfl⟩ := hrel
    go_wp2
    go_ret
    exact ⟨rfl, rfl⟩
end Go.Proofs.YtdbdbaepmdmnfaaGreatDoor

namespace Go.Proofs.YtdbdbaepmdmnfaaGreatDoor
/-- Each with a newline behind it. -/
def linesOf (L : List (List UInt8)) : List UInt8 := (L.map (· ++ [10])).flatten
/-- What the program puts out of a line with these words. -/
def outL (L : List (List UInt8)) : List UInt8 := Lib.decDigits L.length ++ [10] ++ linesOf L ++ joinsL [32] L ++ [10] ++ (if L = [] then [49] else Lib.decDigits L.length) ++ [10]
theorem linesOf_snoc (L : List (List UInt8)) (l : List UInt8) : linesOf (L ++ [l]) = linesOf L ++ (l ++ [10]) := by simp [linesOf]
theorem linesOf_take (L : List (List UInt8)) (k : Nat) : (linesOf (L.take k)).length ≤ (linesOf L).length := by
  have h : linesOf L = linesOf (L.take k) ++ linesOf (L.drop k) := by
    unfold linesOf
    rw [← List.flatten_append, ← List.map_append, List.take_append_drop]
  rw [h, List.length_append]
  omega
theorem words_lines (cur l : List UInt8) : (linesOf (words cur l)).length ≤ cur.length + l.length + 1 := by
  induction l generalizing cur with
  | nil =>
    unfold words
    split
    · simp [linesOf]
    · simp [linesOf]
  | cons c l ih =>
    unfold words
    split
    · split
      · have := ih []
        simp at this ⊢
        omega
      · have := ih []
        simp [linesOf] at this ⊢
        omega
    · have := ih (cur ++ [c])
      simp at this ⊢
      omega
theorem words_ne (cur l : List UInt8) : ∀ x ∈ words cur l, x ≠ [] := by
  induction l generalizing cur with
  | nil =>
    unfold words
    split
    · simp
    · simp; assumption
  | cons c l ih =>
    unfold words
    split
    · split
      · exact ih []
      · rename_i h
        intro x hx
        simp only [List.mem_cons] at hx
        rcases hx with rfl | hx
        · exact h
        · exact ih [] x hx
    · exact ih _
theorem twice_lines (L : List (List UInt8)) (h : ∀ x ∈ L, x ≠ []) : 2 * L.length ≤ (linesOf L).length := by
  induction L with
  | nil => simp [linesOf]
  | cons a L ih =>
    have h1 := ih (fun x hx => h x (by simp [hx]))
    have h2 : 0 < a.length := by
      have := h a (by simp)
      cases a with
      | nil => exact absurd rfl this
      | cons => simp
    simp [linesOf] at h1 ⊢
    omega
theorem joins_lines (L : List (List UInt8)) : (joinsL [32] L).length ≤ (linesOf L).length := by
  cases L with
  | nil => simp [joinsL]
  | cons a L =>
    have : ∀ M : List (List UInt8), ((M.map (([32] : List UInt8) ++ ·)).flatten).length = (linesOf M).length := fun M => by
      induction M with
      | nil => rfl
      | cons m M ih => simp [linesOf] at ih ⊢; omega
    have h := this L
    simp [joinsL, linesOf] at h ⊢
    omega
/-- The words of a short line are few. -/
theorem words_few {t : List UInt8} (ht : t.length ≤ 60) : (words [] t).length ≤ 30 ∧ (linesOf (words [] t)).length ≤ 61 ∧ (joinsL [32] (words [] t)).length ≤ 61 := by
  have h1 := words_lines [] t
  have h2 := twice_lines _ (words_ne [] t)
  have h3 := joins_lines (words [] t)
  simp at h1
  omega
end Go.Proofs.YtdbdbaepmdmnfaaGreatDoor

