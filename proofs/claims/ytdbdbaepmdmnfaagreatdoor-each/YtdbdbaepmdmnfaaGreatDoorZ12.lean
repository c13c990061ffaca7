import Derived.Test.YtdbdbaepmdmnfaaGreatDoorZ06
import Derived.Test.YtdbdbaepmdmnfaaGreatDoorZ11
import Derived.Laws.OwnMore
import Derived.Deep.Slices
import Derived.SliceStrings
import Derived.SizedLaws
import Derived.ProofKit
import Derived.Deep.RegionHeld3
import Derived.Deep.DeepCutAuto
import Derived.Test.YtdbdbaepmdmnfaaGreatDoorZ01
import Derived.DeepKeys3
import Derived.KernelRfl
import Derived.Test.YtdbdbaepmdmnfaaGreatDoorZ08
import Derived.Deep.RegionLawGrows
import Derived.Deep.AppendLies
namespace Go.Proofs.YtdbdbaepmdmnfaaGreatDoor
open Go.RowKit
set_option maxRecDepth 20000 in
set_option maxHeartbeats 4000000 in
theorem ustmt_printL (cb : Nat) (po : Option Addr) (n cap : Nat) (Q : World → Prop) (w : World) (h1 : Calls Tryz.prog 114 #[.pointer (some ⟨cb, 0, none⟩), .slice po n cap] (w.alloc (.cells #[.slice po n cap, .nilIface] 285)) fun en w' => en = .returned (.tuple #[]) ∧ Q w') (hQ : ∀ W, Q W → ∃ a, W.heap[w.heap.size]? = some (.cells #[a, .nilIface] 285 (0, 0))) :
    Calls Tryz.prog 144 #[.pointer (some ⟨cb, 0, none⟩), .iface 285 (.agg #[.slice po n cap, .nilIface])] w fun en w' => en = .returned (.tuple #[]) ∧ Q w' := by
  have q0 := ts419_191 (.agg #[.slice po n cap, .nilIface])
  have q1 := ts419_424 (.agg #[.slice po n cap, .nilIface])
  have q2 := ts419_427 (.agg #[.slice po n cap, .nilIface])
  have q3 := ts419_429 (.agg #[.slice po n cap, .nilIface])
  have q4 := ts419_432 (.agg #[.slice po n cap, .nilIface])
  have q5 := ts419_507 (.agg #[.slice po n cap, .nilIface])
  have q6 := ts419_419 (.agg #[.slice po n cap, .nilIface])
  have H1 := hide h1
  have H2 := hide (uexpr_nil (some ⟨cb, 0, none⟩))
  have HQ := hide hQ
  clear h1 hQ
  go_enter Tryz.func144, Tryz.ntmps144
  go_wp2_with fail
  refine (H1.out).mono ?_
  rintro en w2 ⟨rfl, h3⟩
  obtain ⟨a, hb⟩ := HQ.out _ h3
  have c1 : w2.cell? ⟨w.heap.size, 1, none⟩ = some .nilIface := cell_of hb rfl
  have H3 := hide h3
  clear h3 hb
  go_wp2_with (go_at_call 145; refine (H2.out _).mono ?_; rintro en w' ⟨rfl, h3⟩; subst w')
  go_end0
  exact ⟨rfl, H3.out⟩
set_option maxRecDepth 20000 in
set_option maxHeartbeats 8000000 in
theorem readProgram_okK (T : ByteArray) (hT : T.size ≤ 600) (kd : Nat) (V : Nat → World → Value → Prop) (hV3 : ∀ pb, Stab3 (V pb)) (w : World)
    (hr : ∀ W, Calls Tryz.prog 45 #[.string T] W fun en w' => ∃ pb v, en = .returned (.tuple #[v, .int .i64 0, .bool true]) ∧ ProgT kd (V pb) w' v ∧ Only (fun _ => False) W w')
    (hl : ∀ pb W v, ProgT kd (V pb) W v → Calls Tryz.prog 46 #[v] W fun en w' => en = .returned (.tuple #[.int .i64 0, .bool false]) ∧ Only (fun _ => False) W w') :
    Calls Tryz.prog 34 #[.string T] w fun en w' => ∃ pb v, en = .returned (.tuple #[v, .int .i64 0, .int .i64 0]) ∧ ProgT kd (V pb) w' v ∧ Only (fun _ => False) w w' := by
  have hli : ¬ (600 : Int) < (T.size : Int) := by omega
  have HR := hide (hr (w.alloc (.cells #[.slice none 0 0, .slice none 0 0] 60)))
  have HL := hide hl
  have HV3 := hide hV3
  clear hr hl hV3
  go_enter Tryz.func34, Tryz.ntmps34
  go_wp2_with fail
  refine (HR.out).mono ?_
  rintro en w1 ⟨pb, v, rfl, hp, ho⟩
  have hp0 := hp
  obtain ⟨rs, u, rfl, hrow, hu⟩ := hp
  obtain ⟨pr, cr, rfl⟩ := ownsRow_slice hrow
  have hpA := prog_calm (HV3.out pb) hp0 (onlyA w1 (.cells #[.slice none 0 0, .slice pr 1 cr] 60))
  have HLs := hide (HL.out pb _ _ hpA)
  have HPA := hide hpA
  have HO := hide ho
  have hz1 : w.heap.size + 1 ≤ w1.heap.size := by have := ho.size; simpa using this
  clear hrow hu hp0 hpA ho HR HL
  go_wp2_with fail
  refine (HLs.out).mono ?_
  rintro en w2 ⟨rfl, ho2⟩
  have hb5 := (ho2.block w1.heap.size (by simp) (fun e => e)).trans (new0 w1 (.cells #[.slice none 0 0, .slice pr 1 cr] 60))
  have hb2 := (ho2.block w.heap.size (by simp; omega) (fun e => e)).trans ((Below.heap_alloc _ _ _ (by omega)).trans ((HO.out.block w.heap.size (by simp) (fun e => e)).trans (new0 w (.cells #[.slice none 0 0, .slice none 0 0] 60))))
  have c0 : w2.cell? ⟨w1.heap.size, 0, none⟩ = some (.slice none 0 0) := cell_of hb5 rfl
  have c1 : w2.cell? ⟨w1.heap.size, 1, none⟩ = some (.slice pr 1 cr) := cell_of hb5 rfl
  have d0 : w2.cell? ⟨w.heap.size, 0, none⟩ = some (.slice none 0 0) := cell_of hb2 rfl
  have d1 : w2.cell? ⟨w.heap.size, 1, none⟩ = some (.slice none 0 0) := cell_of hb2 rfl
  have df := free_of hb2
  have HB2 := hide hb2
  have HP2 := hide (prog_calm (HV3.out pb) HPA.out ho2)
  have HO2 := hide ho2
  clear hb5 hb2 ho2 HLs
  go_wp2
  refine bodyPost_ret (v := .tuple #[.agg #[.slice none 0 0, .slice pr 1 cr], .int .i64 0, .int .i64 0]) (by simp [results, Tryz.results34, go_sem, d0, d1]) rfl ⟨pb, _, rfl, ?_, ?_⟩
  · refine prog_only (HV3.out pb) (D := fun k => k = w.heap.size) HP2.out (((Only.refl (fun k => k = w.heap.size) w2).setCell (p := ⟨w.heap.size, 0, none⟩) (fun _ => rfl) _).setCell (p := ⟨w.heap.size, 1, none⟩) (fun _ => rfl) _) ?_
    rintro k rfl
    exact ⟨_, _, HB2.out, by decide, by decide, by decide⟩
  · exact (((((onlyA w _).trans HO.out (fun _ _ e => e)).alloc _).trans HO2.out (fun _ _ e => e)).setCell (p := ⟨w.heap.size, 0, none⟩) (fun h => absurd h (Nat.lt_irrefl _)) _).setCell (p := ⟨w.heap.size, 1, none⟩) (fun h => absurd h (Nat.lt_irrefl _)) _
end Go.Proofs.YtdbdbaepmdmnfaaGreatDoor

namespace Go.Proofs.YtdbdbaepmdmnfaaGreatDoor
open Go.RowKit
theorem lenN (s : ByteArray) : s.data.toList.length = s.size := by rw [Array.length_toList]; rfl
set_option maxRecDepth 20000 in
set_option maxHeartbeats 1000000 in
theorem numLaw (e : Int) (w : World) : Calls Tryz.prog 13 #[.int .i64 e] w fun en w' => en = .returned (.int .i64 e) ∧ w' = w := by
  go_enter Tryz.func13, Tryz.ntmps13
  go_wp2
  go_ret
  exact ⟨rfl, rfl⟩
theorem digit_conv (k : Nat) (w : World) : (convert 54 9 (.slice (some ⟨w.heap.size, 0, none⟩) 1 1)).run Tryz.prog (w.alloc (.cells #[.int .u8 (48 + (k : Int) % 10)] 5)) = .ok (.string (ofB [UInt8.ofNat (48 + k % 10)])) (w.alloc (.cells #[.int .u8 (48 + (k : Int) % 10)] 5)) := by
  have hm : k % 10 < 10 := Nat.mod_lt _ (by omega)
  have hcn : (UInt8.ofNat (48 + k % 10)).toNat = 48 + k % 10 := by
    rw [UInt8.toNat_ofNat']
    exact Nat.mod_eq_of_lt (by omega)
  have hv : (Value.int .u8 (48 + (k : Int) % 10)) = byV (UInt8.ofNat (48 + k % 10)) := by
    unfold byV
    rw [hcn]
    congr 1
  rw [hv]
  have := World.ownsRow_lit (base := 0) (e := 5) (size := 1) w #[byV (UInt8.ofNat (48 + k % 10))] 1 (Nat.zero_le _) (by unfold maxLen; omega) rfl
  exact bytes_conv (M := [UInt8.ofNat (48 + k % 10)]) this
set_option maxRecDepth 20000 in
set_option maxHeartbeats 4000000 in
theorem digits_any (N : Nat) : ∀ (k : Nat), k < N → k ≤ 1000 → ∀ (w : World), Calls Tryz.prog 19 #[.int .i64 k] w fun en w' => en = .returned (.string (ofB (Lib.decDigits k))) ∧ Only (fun _ => False) w w' := by
  induction N with
  | zero =>
    intro k hk hk2 w
    omega
  | succ N ih =>
    intro k hk hk2 w
    have hcv := digit_conv k w
    have hm : k % 10 < 10 := Nat.mod_lt _ (by omega)
    by_cases h10 : k < 10
    · have hki : (k : Int) < 10 := by omega
      have hdd : Lib.decDigits k = [UInt8.ofNat (48 + k % 10)] := by rw [Lib.decDigits_one h10, Nat.mod_eq_of_lt h10]
      rw [hdd]
      generalize UInt8.ofNat (48 + k % 10) = c at hcv
      go_enter Tryz.func19, Tryz.ntmps19
      go_wp2
      go_ret
      exact ⟨rfl, onlyA _ _⟩
    · have hki : ¬ (k : Int) < 10 := by omega
      have hdd : ofB (Lib.decDigits k) = ofB (Lib.decDigits (k / 10)) ++ ofB [UInt8.ofNat (48 + k % 10)] := by rw [Lib.decDigits, dif_neg h10, ofB_appendR]
      rw [hdd]
      have hln : (Lib.decDigits (k / 10)).length ≤ 30 := by
        have := itoa_short (k / 10) (by omega)
        rw [Lib.itoa_nonneg] at this
        exact this
      have hls : (ofB (Lib.decDigits (k / 10))).size ≤ 30 := by rw [ofB_sizeR]; exact hln
      have hl1 : (ofB [UInt8.ofNat (48 + k % 10)]).size = 1 := rfl
      have HI : Hid (∀ W, Calls Tryz.prog 19 #[.int .i64 ((k : Int) / 10)] W fun en w' => en = .returned (.string (ofB (Lib.decDigits (k / 10)))) ∧ Only (fun _ => False) W w') := hide (fun W => ih (k / 10) (by omega) (by omega) W)
      generalize UInt8.ofNat (48 + k % 10) = c at hcv hl1
      clear hln hdd
      generalize ofB (Lib.decDigits (k / 10)) = D at *
      go_enter Tryz.func19, Tryz.ntmps19
      go_wp2_with (go_at_call 19; refine (HI.out _).mono ?_; rintro en w2 ⟨rfl, ho⟩; have HO := hide ho; clear ho)
      go_ret
      exact ⟨rfl, (onlyA w _).trans HO.out (fun _ _ e => e)⟩
end Go.Proofs.YtdbdbaepmdmnfaaGreatDoor

namespace Go.Proofs.YtdbdbaepmdmnfaaGreatDoor
open Go.RowKit
/-- A step of a script, as it lies in memory. -/
def OpN (w : World) (b o : Nat) : Prop := ∃ (K A B : Int) (s t u : ByteArray) (ao : Option Addr) (n cap : Nat), (t.size ≤ 1125899906842624 ∧ u.size ≤ 1125899906842624) ∧
  w.cell? ⟨b, o, none⟩ = some (.int .i64 K) ∧ w.cell? ⟨b, o + 1, none⟩ = some (.int .i64 A) ∧ w.cell? ⟨b, o + 2, none⟩ = some (.int .i64 B) ∧ w.cell? ⟨b, o + 3, none⟩ = some (.string s) ∧ w.cell? ⟨b, o + 4, none⟩ = some (.string t) ∧ w.cell? ⟨b, o + 5, none⟩ = some (.string u) ∧ w.cell? ⟨b, o + 6, none⟩ = some (.slice ao n cap)
theorem OpN.below {w w' : World} {b o : Nat} (h : OpN w b o) (hb : Below w.heap.size w w') (hB : b < w.heap.size) : OpN w' b o := by
  obtain ⟨K, A, B, s, t, u, ao, n, cap, hz, h0, h1, h2, h3, h4, h5, h6⟩ := h
  refine ⟨K, A, B, s, t, u, ao, n, cap, hz, ?_, ?_, ?_, ?_, ?_, ?_, ?_⟩
  · rw [hb.cell (p := ⟨b, o, none⟩) hB]; exact h0
  · rw [hb.cell (p := ⟨b, o + 1, none⟩) hB]; exact h1
  · rw [hb.cell (p := ⟨b, o + 2, none⟩) hB]; exact h2
  · rw [hb.cell (p := ⟨b, o + 3, none⟩) hB]; exact h3
  · rw [hb.cell (p := ⟨b, o + 4, none⟩) hB]; exact h4
  · rw [hb.cell (p := ⟨b, o + 5, none⟩) hB]; exact h5
  · rw [hb.cell (p := ⟨b, o + 6, none⟩) hB]; exact h6
end Go.Proofs.YtdbdbaepmdmnfaaGreatDoor

namespace Go.Proofs.YtdbdbaepmdmnfaaGreatDoor
open Go.RowKit
theorem OpN.only {w w' : World} {b o : Nat} (h : OpN w b o) (ho : Only (fun _ => False) w w') (hB : b < w.heap.size) : OpN w' b o := h.below (ho.below (Nat.le_refl _) (fun _ _ e => e)) hB
theorem keepC {w w' : World} (ho : Only (fun _ => False) w w') {p : Addr} {v : Value} (h : w.cell? p = some v) : w'.cell? p = some v := (ho.cell (p := p) (World.block_lt_of_cell? w p h) (fun e => e)).trans h
end Go.Proofs.YtdbdbaepmdmnfaaGreatDoor

namespace Go.Proofs.YtdbdbaepmdmnfaaGreatDoor
open Go.RowKit Go.Deep Go.ChangeShapes
theorem cells25 : Tryz.prog.cellsOf 25 = 7 := by kernel_rfl
theorem cells3 : Tryz.prog.cellsOf 3 = 1 := by kernel_rfl
theorem cells9 : Tryz.prog.cellsOf 9 = 1 := by kernel_rfl
theorem cells23 : Tryz.prog.cellsOf 23 = 1 := by kernel_rfl
theorem bytes25 : Tryz.prog.bytesOf 25 = 96 := by kernel_rfl
theorem spot_of_cell {w : World} {a : Addr} {v : Value} (h : w.cell? a = some v) : ∃ b o, a = ⟨b, o, none⟩ := by
  obtain ⟨b, o, sp⟩ := a
  cases sp with
  | none => exact ⟨b, o, rfl⟩
  | some s =>
    exfalso
    unfold World.cell? at h
    split at h <;> simp_all
theorem add_none (b o j : Nat) : (⟨b, o, none⟩ : Addr).add j = ⟨b, o + j, none⟩ := by
  unfold Addr.add; split
  · rename_i h; subst h; rfl
  · rfl
theorem list7 {α : Type} (l : List α) (h : l.length = 7) : ∃ a b c d e f g, l = [a, b, c, d, e, f, g] := by
  match l, h with
  | [a, b, c, d, e, f, g], _ => exact ⟨a, b, c, d, e, f, g, rfl⟩
theorem lt_of_cell {w : World} {b o : Nat} {v : Value} (h : w.cell? ⟨b, o, none⟩ = some v) : b < w.heap.size := World.block_lt_of_cell? w ⟨b, o, none⟩ h
/-- What an element weighs, the whole row weighs. -/
theorem weights_mem_all {H : Type} {P : Program} {e : TypeId} {l : List (DataW H)} {d : DataW H} (hd : d ∈ l) {n : Nat} (hn : n ∈ d.weights P e) : n ∈ DataW.weightsAll P e l := by
  induction l with
  | nil => cases hd
  | cons x r ih =>
    unfold DataW.weightsAll
    rw [List.mem_append]
    cases hd with
    | head => exact Or.inl hn
    | tail _ h => exact Or.inr (ih h)
theorem opn_open {H : Type} {enc : TypeId × Value → H} {W : World} {n b o : Nat} {cs : List Value} {D : DataW H} {Pl : List MemPlace}
    (hc : W.cells? 0 ⟨b, o, none⟩ 7 = some cs) (hf : DataW.trod enc Tryz.prog W 0 (fun _ => true) true n 25 cs = some (D, Pl)) (hw : ∀ x ∈ D.weights Tryz.prog 25, x ≤ reachBytes) : OpN W b o := by
  obtain ⟨_, hlen, hcell⟩ := World.cells?_some hc
  obtain ⟨xs, m, rfl, hx, _, hxl, hfs⟩ := DataW.trod_struct Tryz.underlying25 hf
  obtain ⟨c0, c1, c2, c3, c4, c5, c6, rfl⟩ := list7 cs hlen
  obtain ⟨x0, x1, x2, x3, x4, x5, x6, rfl⟩ := list7 xs hxl
  have f0 := hfs 0 _ rfl
  have f1 := hfs 1 _ rfl
  have f2 := hfs 2 _ rfl
  have f3 := hfs 3 _ rfl
  have f4 := hfs 4 _ rfl
  have f5 := hfs 5 _ rfl
  have f6 := hfs 6 _ rfl
  simp [cells3, cells9, cells23] at f0 f1 f2 f3 f4 f5 f6
  obtain ⟨K, k0, rfl, _⟩ := DataW.trod_int Tryz.underlying3 f0
  obtain ⟨A, k1, rfl, _⟩ := DataW.trod_int Tryz.underlying3 f1
  obtain ⟨B, k2, rfl, _⟩ := DataW.trod_int Tryz.underlying3 f2
  obtain ⟨s, k3, rfl, hs⟩ := DataW.trod_string Tryz.underlying9 f3
  obtain ⟨t, k4, rfl, ht⟩ := DataW.trod_string Tryz.underlying9 f4
  obtain ⟨u, k5, rfl, hu⟩ := DataW.trod_string Tryz.underlying9 f5
  simp only [List.cons.injEq, and_true] at k0 k1 k2 k3 k4 k5
  subst k0 k1 k2 k3 k4 k5
  have e : ∀ j, j < 7 → W.cell? ⟨b, o + j, none⟩ = [Value.int .i64 K, .int .i64 A, .int .i64 B, .string s, .string t, .string u, c6][j]? := fun j hj => by
    have := hcell j hj; rw [add_none] at this; exact this
  have hD := congrArg Prod.fst hx
  simp only [List.map_cons, List.map_nil] at hD
  have ht2 : t.data.toList.length ≤ reachBytes := hw _ (by
    rw [hD]
    unfold DataW.weights
    rw [Tryz.underlying25]
    exact DataW.weights_mem_each (j := 4) (t := 9) rfl rfl _ (by unfold DataW.weights; exact List.mem_singleton.2 rfl))
  have hu2 : u.data.toList.length ≤ reachBytes := hw _ (by
    rw [hD]
    unfold DataW.weights
    rw [Tryz.underlying25]
    exact DataW.weights_mem_each (j := 5) (t := 9) rfl rfl _ (by unfold DataW.weights; exact List.mem_singleton.2 rfl))
  rw [lenN] at ht2 hu2
  unfold reachBytes at ht2 hu2
  rcases open_strings Tryz.underlying23 Tryz.underlying9 cells9 f6 with ⟨h6, h7⟩ | ⟨a, len, cap, ss, h6, _, hl, hm, hz, h7, hsc, hsz⟩
  · simp only [List.cons.injEq, and_true] at h6
    subst h6
    exact ⟨K, A, B, s, t, u, none, 0, 0, ⟨by omega, by omega⟩, e 0 (by omega), e 1 (by omega), e 2 (by omega), e 3 (by omega), e 4 (by omega), e 5 (by omega), e 6 (by omega)⟩
  · simp only [List.cons.injEq, and_true] at h6
    subst h6
    exact ⟨K, A, B, s, t, u, some a, len, cap, ⟨by omega, by omega⟩, e 0 (by omega), e 1 (by omega), e 2 (by omega), e 3 (by omega), e 4 (by omega), e 5 (by omega), e 6 (by omega)⟩
end Go.Proofs.YtdbdbaepmdmnfaaGreatDoor

namespace Go.Proofs.YtdbdbaepmdmnfaaGreatDoor
open Go.RowKit
/-- The key of an element of the one array. -/
def aKey (x : ByteArray) : Value := .agg #[.int .i64 0, .string x]
/-- A value: its kind, its number, its text. -/
abbrev VT3 := Int × Int × ByteArray
def aVal (v : VT3) (i : Nat) : Value := .agg #[.int .i64 v.1, .int .i64 v.2.1, .string v.2.2, .int .i64 i]
theorem keyAt448 : Tryz.prog.keyTypeAt 5 448 = true := by kernel_rfl
theorem tiled448 : Tryz.prog.tiled 5 448 = true := by kernel_rfl
set_option maxRecDepth 20000 in
theorem law448 : WideMaps.KeyLaw Tryz.prog 448 := by
  refine deep_law (m := 5) (by omega) keyAt448 tiled448 ?_
  rw [Tryz.underlying448]
theorem keyType448 : Tryz.prog.keyType 448 = true := by kernel_rfl
theorem cells3k : Tryz.prog.cellsOf 3 = 1 := by kernel_rfl
theorem cells9k : Tryz.prog.cellsOf 9 = 1 := by kernel_rfl
theorem cells448 : Tryz.prog.cellsOf 448 = 2 := by kernel_rfl
theorem types_pos : decide (0 < Tryz.prog.types.size) = true := by kernel_rfl
theorem types_size : ∃ n, Tryz.prog.types.size = n + 1 := Nat.exists_eq_succ_of_ne_zero (Nat.pos_iff_ne_zero.1 (of_decide_eq_true types_pos))
theorem keyOf448 (x : ByteArray) (hx : x.size ≤ maxLen) : ∃ l, keyOf Tryz.prog 448 (aKey x) = some l := by
  have hf : (aKey x).formed Tryz.prog 448 = true := by unfold aKey; kernel_rfl
  have h3 := Tryz.underlying3
  have h9 := Tryz.underlying9
  have h448 := Tryz.underlying448
  obtain ⟨n, hn⟩ := types_size
  have hm : IntKind.i64.min ≤ 0 := by decide
  unfold keyOf
  rw [h448]
  simp only [keyType448, hf, Bool.and_self, if_true, hn]
  unfold Program.keyLits
  simp [h448, cells448, aKey, Value.cells, Program.keyLits, h3, h9, cells3k, cells9k, hx, Lit.wf, hm]
end Go.Proofs.YtdbdbaepmdmnfaaGreatDoor

namespace Go.Proofs.YtdbdbaepmdmnfaaGreatDoor
open Go.RowKit
/-- A map's entries, the times of their births aside. -/
def Ent (es : Array MapEntry) (L : List (Value × Value)) : Prop := es.toList.map (fun e => (e.key, e.val)) = L
/-- All keys are of elements. -/
def Keyed (L : List (Value × Value)) : Prop := ∀ p ∈ L, ∃ y : ByteArray, y.size ≤ maxLen ∧ p.1 = aKey y
theorem Ent.keys {es : Array MapEntry} {L : List (Value × Value)} (h : Ent es L) (hk : Keyed L) : ∀ e ∈ es.toList, ∃ l, keyOf Tryz.prog 448 e.key = some l := fun e he => by
  obtain ⟨y, hy, e1⟩ := hk (e.key, e.val) (by rw [← h]; exact List.mem_map_of_mem (f := fun e : MapEntry => (e.key, e.val)) he)
  obtain ⟨l, hl⟩ := keyOf448 y hy
  refine ⟨l, ?_⟩
  simp only at e1
  rw [e1]
  exact hl
theorem aKey_inj {x y : ByteArray} (h : aKey x = aKey y) : x = y := by
  unfold aKey at h
  simpa using h
theorem find_no {es : Array MapEntry} {L : List (Value × Value)} (h : Ent es L) (hk : Keyed L) {x : ByteArray} (hx : x.size ≤ maxLen) (hno : ∀ p ∈ L, p.1 ≠ aKey x) (w : World) : (Instr.findKey 448 (aKey x) es.toList).run Tryz.prog w = .ok none w := by
  obtain ⟨l, hl⟩ := keyOf448 x hx
  rcases law448.find w hl es.toList (h.keys hk) with ⟨h1, _⟩ | ⟨j, e, _, h2, h3⟩
  · exact h1
  · exact absurd h3 (hno (e.key, e.val) (by rw [← h]; exact List.mem_map_of_mem (f := fun e : MapEntry => (e.key, e.val)) (List.mem_of_getElem? h2)))
theorem find_yes {es : Array MapEntry} {L : List (Value × Value)} (h : Ent es L) (hk : Keyed L) {x : ByteArray} (hx : x.size ≤ maxLen) {i : Nat} {v : Value} (hi : L[i]? = some (aKey x, v)) (hu : ∀ j p, L[j]? = some p → p.1 = aKey x → j = i) (w : World) : (Instr.findKey 448 (aKey x) es.toList).run Tryz.prog w = .ok (some (i, v)) w := by
  obtain ⟨l, hl⟩ := keyOf448 x hx
  rcases law448.find w hl es.toList (h.keys hk) with ⟨_, h1⟩ | ⟨j, e, h1, h2, h3⟩
  · exfalso
    rw [← h, List.getElem?_map] at hi
    cases he : es.toList[i]? with
    | none => rw [he] at hi; cases hi
    | some e =>
      rw [he] at hi
      have e1 : e.key = aKey x := by simp at hi; exact hi.1
      exact h1 e (List.mem_of_getElem? he) e1
  · have hj : L[j]? = some (e.key, e.val) := by rw [← h, List.getElem?_map, h2]; rfl
    have e1 := hu j _ hj h3
    subst e1
    rw [hi] at hj
    have e2 : e.val = v := by simp at hj; exact hj.2.symm
    rw [h1, e2]
theorem check448 {x : ByteArray} (hx : x.size ≤ maxLen) (b : Bool) (w : World) : (Instr.checkKey b 10000 448 (aKey x)).run Tryz.prog w = .ok () w := by
  obtain ⟨l, hl⟩ := keyOf448 x hx
  exact law448.check w b hl
def zeroEl : Value := .agg #[.int .i64 0, .int .i64 0, .string ⟨#[]⟩, .int .i64 0]
theorem look_no {w : World} {M ck : Nat} {es : Array MapEntry} {L : List (Value × Value)} (hb : w.heap[M]? = some (.map es ck)) (h : Ent es L) (hk : Keyed L) {x : ByteArray} (hx : x.size ≤ maxLen) (hno : ∀ p ∈ L, p.1 ≠ aKey x) : (Instr.lookup 256 (.map (some M)) (aKey x) true).run Tryz.prog w = .ok (.tuple #[zeroEl, .bool false]) w := by
  have h1 := MapKept.run_getObj_map (P := Tryz.prog) hb
  have h3 := find_no h hk hx hno w
  simp [Instr.lookup, run_underlying Tryz.underlying256, h1, check448 hx, h3, zeroEl, Result.andThen]
theorem look_yes {w : World} {M ck : Nat} {es : Array MapEntry} {L : List (Value × Value)} (hb : w.heap[M]? = some (.map es ck)) (h : Ent es L) (hk : Keyed L) {x : ByteArray} (hx : x.size ≤ maxLen) {i : Nat} {v : Value} (hi : L[i]? = some (aKey x, v)) (hu : ∀ j p, L[j]? = some p → p.1 = aKey x → j = i) : (Instr.lookup 256 (.map (some M)) (aKey x) true).run Tryz.prog w = .ok (.tuple #[v, .bool true]) w := by
  have h1 := MapKept.run_getObj_map (P := Tryz.prog) hb
  have h3 := find_yes h hk hx hi hu w
  simp [Instr.lookup, run_underlying Tryz.underlying256, h1, check448 hx, h3, Result.andThen]
theorem only_map {w : World} {M : Nat} {o : Obj} : Only (fun k => k = M) w { w with heap := w.heap.setIfInBounds M o } := ⟨rfl, rfl, rfl, by simp, fun k _ hk => by simp [Ne.symm hk]⟩
theorem upd_new {w : World} {M ck : Nat} {es : Array MapEntry} {L : List (Value × Value)} (hb : w.heap[M]? = some (.map es ck)) (h : Ent es L) (hk : Keyed L) {x : ByteArray} (hx : x.size ≤ maxLen) (hno : ∀ p ∈ L, p.1 ≠ aKey x) (v : Value) : ∃ W es', (Instr.mapUpdate 256 (.map (some M)) (aKey x) v).run Tryz.prog w = .ok () W ∧ Only (fun k => k = M) w W ∧ W.heap[M]? = some (.map es' (ck + 1)) ∧ Ent es' (L ++ [(aKey x, v)]) := by
  have h1 := MapKept.run_getObj_map (P := Tryz.prog) hb
  have h3 := find_no h hk hx hno w
  refine ⟨{ w with heap := w.heap.setIfInBounds M (.map (es.push ⟨aKey x, v, ck⟩) (ck + 1)) }, es.push ⟨aKey x, v, ck⟩, ?_, only_map, ?_, ?_⟩
  · simp [Instr.mapUpdate, run_underlying Tryz.underlying256, h1, check448 hx, h3, MapKept.run_setObj_map _ hb, Result.andThen]
  · rw [Array.getElem?_setIfInBounds, if_pos rfl, if_pos (heap_lt hb)]
  · unfold Ent at *
    simp [h]
theorem del_first {w : World} {M ck : Nat} {es : Array MapEntry} {L : List (Value × Value)} {x : ByteArray} {v : Value} (hb : w.heap[M]? = some (.map es ck)) (h : Ent es ((aKey x, v) :: L)) (hk : Keyed ((aKey x, v) :: L)) (hx : x.size ≤ maxLen) (hno : ∀ p ∈ L, p.1 ≠ aKey x) (ty : TypeId) : ∃ W es', (Builtin.delete_ #[256, 448] ty #[.map (some M), aKey x]).run Tryz.prog w = .ok (.tuple #[]) W ∧ Only (fun k => k = M) w W ∧ W.heap[M]? = some (.map es' ck) ∧ Ent es' L := by
  have h1 := MapKept.run_getObj_map (P := Tryz.prog) hb
  have h3 := find_yes h hk hx (i := 0) (v := v) rfl (fun j p hj e => by
    cases j with
    | zero => rfl
    | succ j => exact absurd e (hno p (List.mem_of_getElem? (by simpa using hj)))) w
  refine ⟨{ w with heap := w.heap.setIfInBounds M (.map (es.eraseIdxIfInBounds 0) ck) }, es.eraseIdxIfInBounds 0, ?_, only_map, ?_, ?_⟩
  · simp [Builtin.delete_, run_underlying Tryz.underlying256, h1, check448 hx, h3, MapKept.run_setObj_map _ hb, Result.andThen]
  · rw [Array.getElem?_setIfInBounds, if_pos rfl, if_pos (heap_lt hb)]
  · unfold Ent at *
    have hp : 0 < es.size := by
      have : (es.toList.map (fun e => (e.key, e.val))).length = L.length + 1 := by rw [h]; simp
      simp at this
      omega
    unfold Array.eraseIdxIfInBounds
    rw [dif_pos hp]
    have h2 : es.toList.eraseIdx 0 = es.toList.tail := by cases es.toList <;> rfl
    simp only [Array.toList_eraseIdx, h2, List.map_tail, h, List.tail_cons]
end Go.Proofs.YtdbdbaepmdmnfaaGreatDoor

namespace Go.Proofs.YtdbdbaepmdmnfaaGreatDoor
open Go.RowKit
/-- What the one array holds: keys and values, in the order of the keys' list. -/
abbrev AL := List (ByteArray × VT3)
def entsFrom (i : Nat) (A : AL) : List (Value × Value) := (A.zipIdx i).map (fun p => (aKey p.1.1, aVal p.1.2 p.2))
theorem ents_snoc (A : AL) (p : ByteArray × VT3) : entsFrom 0 (A ++ [p]) = entsFrom 0 A ++ [(aKey p.1, aVal p.2 A.length)] := by simp [entsFrom, List.zipIdx_append]
theorem ents_cons (i : Nat) (p : ByteArray × VT3) (A : AL) : entsFrom i (p :: A) = (aKey p.1, aVal p.2 i) :: entsFrom (i + 1) A := by simp [entsFrom]
theorem ents_mem {i : Nat} {A : AL} {q : Value × Value} (h : q ∈ entsFrom i A) : ∃ p ∈ A, q.1 = aKey p.1 := by
  unfold entsFrom at h
  obtain ⟨⟨p, j⟩, hp, rfl⟩ := List.mem_map.1 h
  exact ⟨p, List.fst_mem_of_mem_zipIdx hp, rfl⟩
theorem ents_get (A : AL) (j : Nat) : (entsFrom 0 A)[j]? = (A[j]?).map (fun p => (aKey p.1, aVal p.2 j)) := by
  unfold entsFrom
  rw [List.getElem?_map, List.getElem?_zipIdx]
  cases A[j]? <;> simp
/-- The keys are apart, and short. -/
def Apart (A : AL) : Prop := (A.map (·.1)).Nodup ∧ ∀ p ∈ A, p.1.size ≤ 1000
theorem Apart.keyed {A : AL} (h : Apart A) (i : Nat) : Keyed (entsFrom i A) := fun q hq => by
  obtain ⟨p, hp, e⟩ := ents_mem hq
  exact ⟨p.1, by have := h.2 p hp; unfold maxLen; omega, e⟩
def keysOf (A : AL) : List Value := A.map (fun p => .string p.1)
/-- The arrays of a run that has one: its places and what it holds. -/
structure ArrAt (W : World) (C ab M kb : Nat) (kv : Value) (A : AL) : Prop where
  a : W.heap[ab]? = some (.cells #[.map (some M), .slice (some ⟨kb, 0, none⟩) 1 1] 259 (0, 0))
  k : W.heap[kb]? = some (.cells #[kv] 23 (0, 0))
  r : W.ownsRow C 9 1 kv A.length (keysOf A)
  m : ∃ es ck, W.heap[M]? = some (.map es ck) ∧ Ent es (entsFrom 0 A)
  p : Apart A
  z : A = [] → kv = .slice none 0 0
end Go.Proofs.YtdbdbaepmdmnfaaGreatDoor

namespace Go.Proofs.YtdbdbaepmdmnfaaGreatDoor
open Go.RowKit
theorem infoS9 : (Tryz.prog.info? 9).map (fun i => (i.zero, i.size, i.bytes)) = some (some (.string ⟨#[]⟩), 1, 16) := by kernel_rfl
theorem ArrAt.calm {W W' : World} {C ab M kb : Nat} {kv : Value} {A : AL} (h : ArrAt W C ab M kb kv A) (ho : Only (fun _ => False) W W') : ArrAt W' C ab M kb kv A := by
  obtain ⟨es, ck, h1, h2⟩ := h.m
  exact ⟨(ho.block _ (heap_lt h.a) (fun e => e)).trans h.a, (ho.block _ (heap_lt h.k) (fun e => e)).trans h.k, ownsRow_of h.r (fun k hk => ho.block k (h.r.lt k hk).2 (fun e => e)), ⟨es, ck, (ho.block _ (heap_lt h1) (fun e => e)).trans h1, h2⟩, h.p, h.z⟩
theorem ArrAt.far {W W' : World} {C ab M kb b : Nat} {kv : Value} {A : AL} (h : ArrAt W C ab M kb kv A) (ho : Only (fun k => k = b) W W') (h1 : ab ≠ b) (h2 : kb ≠ b) (h3 : M ≠ b) (h4 : kv.ownBlock ≠ some b) : ArrAt W' C ab M kb kv A := by
  obtain ⟨es, ck, e1, e2⟩ := h.m
  exact ⟨(ho.block _ (heap_lt h.a) h1).trans h.a, (ho.block _ (heap_lt h.k) h2).trans h.k, ownsRow_of h.r (fun k hk => ho.block k (h.r.lt k hk).2 (fun e => h4 (by rw [hk, e]))), ⟨es, ck, (ho.block _ (heap_lt e1) h3).trans e1, e2⟩, h.p, h.z⟩
theorem ArrAt.ne {W : World} {C ab M kb : Nat} {kv : Value} {A : AL} (h : ArrAt W C ab M kb kv A) : (ab ≠ M ∧ ab ≠ kb) ∧ kb ≠ M ∧ kv.ownBlock ≠ some ab ∧ kv.ownBlock ≠ some kb ∧ kv.ownBlock ≠ some M := by
  obtain ⟨es, ck, e1, _⟩ := h.m
  refine ⟨⟨fun e => ?_, fun e => ?_⟩, fun e => ?_, own_tag h.r h.a (by decide), own_tag h.r h.k (by decide), fun e => ?_⟩
  · have := h.a; rw [e, e1] at this; cases this
  · have := h.a; rw [e, h.k] at this; cases this
  · have := h.k; rw [e, e1] at this; cases this
  · obtain ⟨c, hc⟩ := row_tag h.r M e.symm
    rw [e1] at hc; cases hc
theorem Apart.snoc {A : AL} (h : Apart A) {x : ByteArray} {v : VT3} (hx : x.size ≤ 1000) (hno : ∀ p ∈ A, p.1 ≠ x) : Apart (A ++ [(x, v)]) := by
  refine ⟨?_, fun p hp => ?_⟩
  · rw [List.map_append, List.nodup_append]
    refine ⟨h.1, by simp, fun a ha b hb => ?_⟩
    obtain ⟨p, hp, rfl⟩ := List.mem_map.1 ha
    simp at hb
    subst hb
    exact hno p hp
  · rcases List.mem_append.1 hp with hp | hp
    · exact h.2 p hp
    · simp at hp
      subst hp
      exact hx
theorem ents_no {A : AL} {x : ByteArray} (hno : ∀ p ∈ A, p.1 ≠ x) : ∀ q ∈ entsFrom 0 A, q.1 ≠ aKey x := fun q hq e => by
  obtain ⟨p, hp, e1⟩ := ents_mem hq
  exact hno p hp (aKey_inj (e1.symm.trans e))
set_option linter.unusedSimpArgs false in
set_option maxRecDepth 20000 in
set_option maxHeartbeats 4000000 in
theorem store_new (C ab M kb : Nat) (kv : Value) (A : AL) (x : ByteArray) (v : VT3) (hx : x.size ≤ 1000) (hno : ∀ p ∈ A, p.1 ≠ x) (hA : A.length ≤ 100) (w : World) (hC : C ≤ w.heap.size) (h : ArrAt w C ab M kb kv A) :
    Calls Tryz.prog 316 #[.pointer (some ⟨ab, 0, none⟩), .agg #[.int .i64 0, .string x], .agg #[.int .i64 v.1, .int .i64 v.2.1, .string v.2.2]] w fun en w' => en = .returned (.tuple #[]) ∧ ∃ kv', ArrAt w' C ab M kb kv' (A ++ [(x, v)]) ∧ Only (fun q => q = kb ∨ q = M ∨ kv.ownBlock = some q) w w' ∧ (∀ q, kv'.ownBlock = some q → kv.ownBlock = some q ∨ w.heap.size ≤ q) := by
  obtain ⟨po, cap, rfl⟩ := ownsRow_slice h.r
  have La := heap_lt h.a
  have Lk := heap_lt h.k
  have LM : M < w.heap.size := by obtain ⟨_, _, e, _⟩ := h.m; exact heap_lt e
  have HK : Hid (∀ q, (Value.slice po A.length cap).ownBlock = some q → q < w.heap.size) := hide (fun q hq => (h.r.lt q hq).2)
  have Nab := h.ne.1
  have Nkb := h.ne.2
  obtain ⟨w2, hw2⟩ : ∃ w2, w2 = (w.alloc (.cells #[.int .i64 0, .string x] 448)).alloc (.cells #[.int .i64 v.1, .int .i64 v.2.1, .string v.2.2] 203) := ⟨_, rfl⟩
  have hO2 : Only (fun _ => False) w w2 := by rw [hw2]; exact (onlyA _ _).alloc _
  have hz2 : w2.heap.size = w.heap.size + 2 := by rw [hw2]; simp
  have h2 := h.calm hO2
  have hb1 : w2.heap[w.heap.size]? = some (.cells #[.int .i64 0, .string x] 448 (0, 0)) := by rw [hw2]; exact (Below.heap_alloc _ _ _ (by simp)).trans (new0 w _)
  have hb2 : w2.heap[w.heap.size + 1]? = some (.cells #[.int .i64 v.1, .int .i64 v.2.1, .string v.2.2] 203 (0, 0)) := by rw [hw2]; exact new_at2 (by simp) _
  obtain ⟨es, ck, hm, he⟩ := h2.m
  have a0 : w2.cell? ⟨ab, 0, none⟩ = some (.map (some M)) := cell_of h2.a rfl
  have a1 : w2.cell? ⟨ab, 1, none⟩ = some (.slice (some ⟨kb, 0, none⟩) 1 1) := cell_of h2.a rfl
  have k0 : w2.cell? ⟨kb, 0, none⟩ = some (.slice po A.length cap) := cell_of h2.k rfl
  have kf := free_of h2.k
  have la := heap_lt h2.a
  have lk := heap_lt h2.k
  have x0 : w2.cell? ⟨w.heap.size, 0, none⟩ = some (.int .i64 0) := cell_of hb1 rfl
  have x1 : w2.cell? ⟨w.heap.size, 1, none⟩ = some (.string x) := cell_of hb1 rfl
  have y0 : w2.cell? ⟨w.heap.size + 1, 0, none⟩ = some (.int .i64 v.1) := cell_of hb2 rfl
  have y1 : w2.cell? ⟨w.heap.size + 1, 1, none⟩ = some (.int .i64 v.2.1) := cell_of hb2 rfl
  have y2 : w2.cell? ⟨w.heap.size + 1, 2, none⟩ = some (.string v.2.2) := cell_of hb2 rfl
  have hl : ∀ W : World, W.heap[M]? = some (.map es ck) → (Instr.lookup 256 (.map (some M)) (.agg #[.int .i64 0, .string x]) true).run Tryz.prog W = .ok (.tuple #[.agg #[.int .i64 0, .int .i64 0, .string ⟨#[]⟩, .int .i64 0], .bool false]) W := fun W hW => look_no hW he (h.p.keyed 0) (by unfold maxLen; omega) (ents_no hno)
  have hl0 := hl w2.drew hm
  have hl1 := hl (w2.alloc (.cells #[.int .i64 0, .int .i64 0, .string ⟨#[]⟩, .int .i64 0] 494)).drew ((Below.heap_alloc _ _ _ (heap_lt hm)).trans hm)
  have a0' := Lib.cell?_alloc_some (.cells #[.int .i64 0, .int .i64 0, .string ⟨#[]⟩, .int .i64 0] 494) a0
  have a1' := Lib.cell?_alloc_some (.cells #[.int .i64 0, .int .i64 0, .string ⟨#[]⟩, .int .i64 0] 494) a1
  have k0' := Lib.cell?_alloc_some (.cells #[.int .i64 0, .int .i64 0, .string ⟨#[]⟩, .int .i64 0] 494) k0
  have x0' := Lib.cell?_alloc_some (.cells #[.int .i64 0, .int .i64 0, .string ⟨#[]⟩, .int .i64 0] 494) x0
  have x1' := Lib.cell?_alloc_some (.cells #[.int .i64 0, .int .i64 0, .string ⟨#[]⟩, .int .i64 0] 494) x1
  have HH := hide h2
  have HM := hide hm
  have HB1 := hide hb1
  have HB2 := hide hb2
  have HO2 := hide hO2
  clear h hm he hl h2 hb1 hb2 hO2
  go_enter Tryz.func316, Tryz.ntmps316
  go_upto_region 1 with fail
  rw [← hw2]
  clear hw2
  go_cut [6, 7] (fun s6 s7 w3 => s6 = .pointer (some ⟨w.heap.size + 2, 0, none⟩) ∧ s7 = .bool false ∧ w3.heap.size = w.heap.size + 3 ∧ w3.heap[w.heap.size + 2]? = some (.cells #[.int .i64 0, .int .i64 0, .string ⟨#[]⟩, .int .i64 0] 494 (0, 0)) ∧ Only (fun _ => False) w2 w3)
  case first =>
    go_region
    all_goals
      go_wp2_with fail
      go_meet
      refine ⟨rfl, rfl, ?_, new_at2 (by omega) _, toDrew (onlyA _ _)⟩
      show (w2.alloc _).heap.size = _
      simp
      omega
  case rest =>
  obtain ⟨rfl, rfl, hz3, hb3, hO3⟩ := hcut
  have h3 := HH.out.calm hO3
  have p1 := (hO3.block _ (heap_lt HB1.out) (fun e => e)).trans HB1.out
  have p2 := (hO3.block _ (heap_lt HB2.out) (fun e => e)).trans HB2.out
  have HO3 := hide (HO2.out.trans hO3 (fun _ _ e => e))
  clear a0 a1 k0 kf la lk x0 x1 y0 y1 y2 a0' a1' k0' x0' x1' hl0 hl1 hO3 HB1 HB2 HO2 HH HM hz2
  have a0 : wc.cell? ⟨ab, 0, none⟩ = some (.map (some M)) := cell_of h3.a rfl
  have a1 : wc.cell? ⟨ab, 1, none⟩ = some (.slice (some ⟨kb, 0, none⟩) 1 1) := cell_of h3.a rfl
  have k0 : wc.cell? ⟨kb, 0, none⟩ = some (.slice po A.length cap) := cell_of h3.k rfl
  have kf := free_of h3.k
  have la := heap_lt h3.a
  have lk := heap_lt h3.k
  have x0 : wc.cell? ⟨w.heap.size, 0, none⟩ = some (.int .i64 0) := cell_of p1 rfl
  have x1 : wc.cell? ⟨w.heap.size, 1, none⟩ = some (.string x) := cell_of p1 rfl
  have e0 : wc.cell? ⟨w.heap.size + 2, 0, none⟩ = some (.int .i64 0) := cell_of hb3 rfl
  have e1 : wc.cell? ⟨w.heap.size + 2, 1, none⟩ = some (.int .i64 0) := cell_of hb3 rfl
  have e2 : wc.cell? ⟨w.heap.size + 2, 2, none⟩ = some (.string ⟨#[]⟩) := cell_of hb3 rfl
  have e3 : wc.cell? ⟨w.heap.size + 2, 3, none⟩ = some (.int .i64 0) := cell_of hb3 rfl
  have ef := free_of hb3
  have HP1 := hide p1
  have HP2 := hide p2
  have HB3 := hide hb3
  have H3 := hide h3
  clear p1 p2 hb3 h3
  go_wp2_with fail
  go_region
  go_wp2_with fail
  obtain ⟨w4, hw4⟩ : ∃ w4, w4 = (wc.setCell ⟨w.heap.size + 2, 3, none⟩ (.int .i64 A.length)).drew := ⟨_, rfl⟩
  have hO4 : Only (fun k => k = w.heap.size + 2) wc w4 := by
    have := (Only.refl (fun k => k = w.heap.size + 2) wc).setCell (p := ⟨w.heap.size + 2, 3, none⟩) (fun _ => rfl) (.int .i64 A.length)
    rw [hw4]
    exact toDrew this
  have hz4 : w4.heap.size = w.heap.size + 3 := by rw [hw4]; show (wc.setCell _ _).heap.size = _; simp [hz3]
  have hb4 : w4.heap[w.heap.size + 2]? = some (.cells #[.int .i64 0, .int .i64 0, .string ⟨#[]⟩, .int .i64 A.length] 494 (0, 0)) := by rw [hw4]; exact heap_setCell_same HB3.out _
  rw [← hw4]
  clear hw4
  have h4 := H3.out.far hO4 (by omega) (by omega) (by omega) (fun e => by have := HK.out _ e; omega)
  obtain ⟨i0, hi0, hz0, hz1, hz2⟩ := info_parts infoS9
  have q1 := (hO4.block _ (heap_lt HP1.out) (by omega)).trans HP1.out
  have q2 := (hO4.block _ (heap_lt HP2.out) (by omega)).trans HP2.out
  have HO4 : Hid (Only (fun _ => False) w w4) := hide (HO3.out.trans hO4 (fun i hi e => by omega))
  clear a0 a1 k0 kf la lk x0 x1 e0 e1 e2 e3 ef HP1 HP2 HB3 HO3 H3 hO4 hz3
  have a0 : w4.cell? ⟨ab, 0, none⟩ = some (.map (some M)) := cell_of h4.a rfl
  have a1 : w4.cell? ⟨ab, 1, none⟩ = some (.slice (some ⟨kb, 0, none⟩) 1 1) := cell_of h4.a rfl
  have k0 : w4.cell? ⟨kb, 0, none⟩ = some (.slice po A.length cap) := cell_of h4.k rfl
  have kf := free_of h4.k
  have la := heap_lt h4.a
  have lk := heap_lt h4.k
  have x0 : w4.cell? ⟨w.heap.size, 0, none⟩ = some (.int .i64 0) := cell_of q1 rfl
  have x1 : w4.cell? ⟨w.heap.size, 1, none⟩ = some (.string x) := cell_of q1 rfl
  have a1' := Lib.cell?_alloc_some (.cells #[.string x] 9) a1
  have k0' := Lib.cell?_alloc_some (.cells #[.string x] 9) k0
  have x0' := Lib.cell?_alloc_some (.cells #[.string x] 9) x0
  have x1' := Lib.cell?_alloc_some (.cells #[.string x] 9) x1
  have HQ1 := hide q1
  have HQ2 := hide q2
  have HB4 := hide hb4
  have H4 := hide h4
  clear q1 q2 hb4 h4
  go_cut [6] (fun s6 wd => s6 = .pointer (some ⟨w.heap.size + 2, 0, none⟩) ∧ ∃ gg cap2, wd.heap[kb]? = some (.cells #[.slice (some ⟨gg, 0, none⟩) (A.length + 1) cap2] 23 (0, 0)) ∧ wd.ownsRow C 9 1 (.slice (some ⟨gg, 0, none⟩) (A.length + 1) cap2) (A.length + 1) (keysOf A ++ [.string x]) ∧ ((Value.slice po A.length cap).ownBlock = some gg ∨ w.heap.size ≤ gg) ∧ Only (fun q => q = kb ∨ (Value.slice po A.length cap).ownBlock = some q) w4 wd)
  case first =>
    refine wp_region_held_drew (S := fun W => W.cell? ⟨ab, 1, none⟩ = some (.slice (some ⟨kb, 0, none⟩) 1 1) ∧ W.cell? ⟨w.heap.size, 0, none⟩ = some (.int .i64 0) ∧ W.cell? ⟨w.heap.size, 1, none⟩ = some (.string x)) (by kernel_rfl) ⟨a1, x0, x1⟩ (fun hHeld => ?_)
    refine wpAnyH_take (i := 0) (v := ?_) rfl (by kernel_rfl) (by kernel_rfl) (by kernel_rfl) (fun _ _ _ h => h) (Or.inl ⟨by rfl, ?_⟩) (by assumption) ?_; rotate_left; (focus (intro w hSw; (try dsimp only at hSw); go_simp; (try with_reducible rfl))); (try simp only [Act.put, List.getElem_toArray, List.getElem_cons_zero, List.getElem_cons_succ, List.setIfInBounds_toArray, List.set_cons_zero, List.set_cons_succ])
    refine wpAnyH_take (i := 1) (v := ?_) rfl (by kernel_rfl) (by kernel_rfl) (by kernel_rfl) (fun _ _ _ h => h) (Or.inl ⟨by rfl, ?_⟩) (by assumption) ?_; rotate_left; (focus (intro w hSw; (try dsimp only at hSw); go_simp; (try with_reducible rfl))); (try simp only [Act.put, List.getElem_toArray, List.getElem_cons_zero, List.getElem_cons_succ, List.setIfInBounds_toArray, List.set_cons_zero, List.set_cons_succ])
    refine wpAnyH_take (i := 2) (v := ?_) rfl (by kernel_rfl) (by kernel_rfl) (by kernel_rfl) (fun _ _ _ h => h) (Or.inl ⟨by rfl, ?_⟩) (by assumption) ?_; rotate_left; (focus (intro w hSw; (try dsimp only at hSw); go_simp; (try with_reducible rfl))); (try simp only [Act.put, List.getElem_toArray, List.getElem_cons_zero, List.getElem_cons_succ, List.setIfInBounds_toArray, List.set_cons_zero, List.set_cons_succ])
    refine wpAnyH_take (i := 3) (v := ?_) rfl (by kernel_rfl) (by kernel_rfl) (by kernel_rfl) (fun _ _ _ h => h) (Or.inl ⟨by rfl, ?_⟩) (by assumption) ?_; rotate_left; (focus (intro w hSw; (try dsimp only at hSw); go_simp; (try with_reducible rfl))); (try simp only [Act.put, List.getElem_toArray, List.getElem_cons_zero, List.getElem_cons_succ, List.setIfInBounds_toArray, List.set_cons_zero, List.set_cons_succ])
    refine wpAnyH_take (i := 4) (v := ?_) rfl (by kernel_rfl) (by kernel_rfl) (by kernel_rfl) (fun _ _ _ h => h) (Or.inl ⟨by rfl, ?_⟩) (by assumption) ?_; rotate_left; (focus (intro w hSw; (try dsimp only at hSw); go_simp; (try with_reducible rfl))); (try simp only [Act.put, List.getElem_toArray, List.getElem_cons_zero, List.getElem_cons_succ, List.setIfInBounds_toArray, List.set_cons_zero, List.set_cons_succ])
    refine wpAnyH_take (i := 5) (v := ?_) rfl (by kernel_rfl) (by kernel_rfl) (by kernel_rfl) (fun _ _ _ h => h) (Or.inl ⟨by rfl, ?_⟩) (by assumption) ?_; rotate_left; (focus (intro w hSw; (try dsimp only at hSw); go_simp; (try with_reducible rfl))); (try simp only [Act.put, List.getElem_toArray, List.getElem_cons_zero, List.getElem_cons_succ, List.setIfInBounds_toArray, List.set_cons_zero, List.set_cons_succ])
    refine wpAnyH_take (i := 6) (v := ?_) rfl (by kernel_rfl) (by kernel_rfl) (by kernel_rfl) (fun _ _ _ h => h) (Or.inl ⟨by rfl, ?_⟩) (by assumption) ?_; rotate_left; (focus (intro w hSw; (try dsimp only at hSw); go_simp; (try with_reducible rfl))); (try simp only [Act.put, List.getElem_toArray, List.getElem_cons_zero, List.getElem_cons_succ, List.setIfInBounds_toArray, List.set_cons_zero, List.set_cons_succ])
    refine wpAnyH_take (i := 7) (v := ?_) rfl (by kernel_rfl) (by kernel_rfl) (by kernel_rfl) (fun _ _ _ h => h) (Or.inl ⟨by rfl, ?_⟩) (by assumption) ?_; rotate_left; (focus (intro w hSw; (try dsimp only at hSw); go_simp; (try with_reducible rfl))); (try simp only [Act.put, List.getElem_toArray, List.getElem_cons_zero, List.getElem_cons_succ, List.setIfInBounds_toArray, List.set_cons_zero, List.set_cons_succ])
    refine wpAnyH_take (i := 8) (v := ?_) rfl (by kernel_rfl) (by kernel_rfl) (by kernel_rfl) (fun _ _ _ h => h) (Or.inl ⟨by rfl, ?_⟩) (by assumption) ?_; rotate_left; (focus (intro w hSw; (try dsimp only at hSw); go_simp; (try with_reducible rfl))); (try simp only [Act.put, List.getElem_toArray, List.getElem_cons_zero, List.getElem_cons_succ, List.setIfInBounds_toArray, List.set_cons_zero, List.set_cons_succ])
    refine wpAnyH_take (i := 9) (v := ?_) rfl (by kernel_rfl) (by kernel_rfl) (by kernel_rfl) (fun _ _ _ h => h) (Or.inl ⟨by rfl, ?_⟩) (by assumption) ?_; rotate_left; (focus (intro w hSw; (try dsimp only at hSw); go_simp; (try with_reducible rfl))); (try simp only [Act.put, List.getElem_toArray, List.getElem_cons_zero, List.getElem_cons_succ, List.setIfInBounds_toArray, List.set_cons_zero, List.set_cons_succ])
    refine wpAnyH_take (i := 10) (v := ?_) rfl (by kernel_rfl) (by kernel_rfl) (by kernel_rfl) (fun _ _ _ h => h) (Or.inl ⟨by rfl, ?_⟩) (by assumption) ?_; rotate_left; (focus (intro w hSw; (try dsimp only at hSw); go_simp; (try with_reducible rfl))); (try simp only [Act.put, List.getElem_toArray, List.getElem_cons_zero, List.getElem_cons_succ, List.setIfInBounds_toArray, List.set_cons_zero, List.set_cons_succ])
    refine wpAnyH_take (i := 11) (v := ?_) rfl (by kernel_rfl) (by kernel_rfl) (by kernel_rfl) (fun _ _ _ h => h) (Or.inl ⟨by rfl, ?_⟩) (by assumption) ?_; rotate_left; (focus (intro w hSw; (try dsimp only at hSw); go_simp; (try with_reducible rfl))); (try simp only [Act.put, List.getElem_toArray, List.getElem_cons_zero, List.getElem_cons_succ, List.setIfInBounds_toArray, List.set_cons_zero, List.set_cons_succ])
    refine wpAnyH_take (i := 12) (v := ?_) rfl (by kernel_rfl) (by kernel_rfl) (by kernel_rfl) (fun _ _ _ h => h) (Or.inl ⟨by rfl, ?_⟩) (by assumption) ?_; rotate_left; (focus (intro w hSw; (try dsimp only at hSw); go_simp; (try with_reducible rfl))); (try simp only [Act.put, List.getElem_toArray, List.getElem_cons_zero, List.getElem_cons_succ, List.setIfInBounds_toArray, List.set_cons_zero, List.set_cons_succ])
    refine wpAnyH_take (i := 14) (v := ?_) rfl (by kernel_rfl) (by kernel_rfl) (by kernel_rfl) (fun _ _ _ h => h) (Or.inl ⟨by rfl, ?_⟩) (by assumption) ?_; rotate_left; (focus (intro w hSw; (try dsimp only at hSw); go_simp; (try with_reducible rfl))); (try simp only [Act.put, List.getElem_toArray, List.getElem_cons_zero, List.getElem_cons_succ, List.setIfInBounds_toArray, List.set_cons_zero, List.set_cons_succ])
    refine wpAnyH_take (i := 15) (v := ?_) rfl (by kernel_rfl) (by kernel_rfl) (by kernel_rfl) (fun _ _ _ h => h) (Or.inl ⟨by rfl, ?_⟩) (by assumption) ?_; rotate_left; (focus (intro w hSw; (try dsimp only at hSw); go_simp; (try with_reducible rfl))); (try simp only [Act.put, List.getElem_toArray, List.getElem_cons_zero, List.getElem_cons_succ, List.setIfInBounds_toArray, List.set_cons_zero, List.set_cons_succ])
    have a1e : w4.drew.cell? ⟨ab, 1, none⟩ = some (.slice (some ⟨kb, 0, none⟩) 1 1) := a1
    have k0e : w4.drew.cell? ⟨kb, 0, none⟩ = some (.slice po A.length cap) := k0
    refine wpAnyH_ready (rs := [13, 16]) (by kernel_rfl) (by simp) ?_
    refine AllReadyH.cons rfl (fun K hK => ?_) (AllReadyH.cons rfl (fun K hK => ?_) AllReadyH.nil)
    · go_simp
      refine hK.out _ _ ⟨a1, x0, x1⟩ (fun hHeld => ?_)
      clear hK K
      refine wpAnyH_ready (rs := [16]) (by kernel_rfl) (by simp) (AllReadyH.cons rfl (fun K hK => ?_) AllReadyH.nil)
      go_simp
      refine hK.out _ _ ⟨a1', x0', x1'⟩ (fun hHeld => ?_)
      clear hK K
      refine wpAnyH_ready (rs := [17]) (by kernel_rfl) (by simp) (AllReadyH.cons rfl (fun K hK => ?_) AllReadyH.nil)
      refine step_append_lies _ (by rfl) _ _ _ (by rfl) C 9 i0 _ 1 16 Tryz.underlying23 hi0 hz0 hz1 hz2 rfl (by omega) (.slice po A.length cap) A.length (keysOf A) (by simp [Act.eval]) (H4.out.r.alloc _) ⟨w.heap.size + 3, 0, none⟩ 1 1 [.string x] (by simp [Act.eval]) (by rfl) (World.news_of_block (cs := #[.string x]) (t := 9) (fr := (0, 0)) (new_at2 (by omega) _)) (by intro u hu; simp at hu; subst hu; rfl) (by omega) (by unfold maxLen; omega) (by omega) (by show C ≤ (w4.alloc _).heap.size; simp; omega) _ rfl ?_
      intro gg cap2 w5 hown1 hgrow hat hlt
      have hz4' : (w4.alloc (.cells #[.string x] 9)).drew.heap.size = w.heap.size + 4 := by show (w4.alloc _).heap.size = _; simp; omega
      have hb5 := (hgrow.block kb (by omega) (fun e => Nkb.2.2.1 e.symm)).trans ((Below.heap_alloc _ _ _ (by omega)).trans H4.out.k)
      have ha5 := (hgrow.block ab (by omega) (fun e => Nkb.2.1 e.symm)).trans ((Below.heap_alloc _ _ _ (by omega)).trans H4.out.a)
      have hx5 := (hgrow.block w.heap.size (by omega) (fun e => by have := HK.out _ e.symm; omega)).trans ((Below.heap_alloc _ _ _ (by omega)).trans HQ1.out)
      have t1 : w5.cell? ⟨kb, 0, none⟩ = some (.slice po A.length cap) := cell_of hb5 rfl
      have tf := free_of hb5
      have t2 : w5.cell? ⟨ab, 1, none⟩ = some (.slice (some ⟨kb, 0, none⟩) 1 1) := cell_of ha5 rfl
      have t3 : w5.cell? ⟨w.heap.size, 0, none⟩ = some (.int .i64 0) := cell_of hx5 rfl
      have t4 : w5.cell? ⟨w.heap.size, 1, none⟩ = some (.string x) := cell_of hx5 rfl
      have HB5 := hide hb5
      have HA5 := hide ha5
      have HX5 := hide hx5
      have HOw := hide hown1
      have HGr := hide hgrow
      have HAt := hide hat
      clear hb5 ha5 hx5 hown1 hgrow hat
      refine hK.out _ _ ⟨t2, t3, t4⟩ (fun hHeld => ?_)
      clear hK K
      (try simp only [Act.put, List.getElem_toArray, List.getElem_cons_zero, List.getElem_cons_succ, List.setIfInBounds_toArray, List.set_cons_zero, List.set_cons_succ])
      refine wpAnyH_ready (rs := [18]) (by kernel_rfl) (by simp) (AllReadyH.cons rfl (fun K hK => ?_) AllReadyH.nil)
      go_simp
      refine hK.out _ _ ⟨t2, t3, t4⟩ (fun hHeld => ?_)
      clear hK K
      refine wpAnyH_ready (rs := [19]) (by kernel_rfl) (by simp) (AllReadyH.cons rfl (fun K hK => ?_) AllReadyH.nil)
      go_simp
      refine hK.out _ _ ⟨farC t2 (by show kb ≠ ab; omega), farC t3 (by show kb ≠ w.heap.size; omega), farC t4 (by show kb ≠ w.heap.size; omega)⟩ (fun hHeld => ?_)
      clear hK K
      refine wpAnyH_done (by kernel_rfl) ?_ _
      go_wp2_with fail
      go_meet
      refine ⟨rfl, gg, cap2, heap_setCell_same HB5.out _, ownsRow_of HOw.out (fun k hk => Below.heap_setCell _ _ _ _ (fun e => own_tag HOw.out HB5.out (by decide) (by rw [hk, e]))), ?_, ?_⟩
      · rcases HAt.out with e | e
        · exact Or.inl e
        · exact Or.inr (by omega)
      · exact ((toDrew ((onlyA w4 _).mono (E := fun q => q = kb ∨ (Value.slice po A.length cap).ownBlock = some q) (fun _ _ e => e.elim))).grown HGr.out (fun q hq _ => Or.inr hq)).setCell (p := ⟨kb, 0, none⟩) (fun _ => Or.inl rfl) _
    · go_simp
      refine hK.out _ _ ⟨a1', x0', x1'⟩ (fun hHeld => ?_)
      clear hK K
      refine wpAnyH_ready (rs := [13]) (by kernel_rfl) (by simp) (AllReadyH.cons rfl (fun K hK => ?_) AllReadyH.nil)
      go_simp
      refine hK.out _ _ ⟨a1', x0', x1'⟩ (fun hHeld => ?_)
      clear hK K
      refine wpAnyH_ready (rs := [17]) (by kernel_rfl) (by simp) (AllReadyH.cons rfl (fun K hK => ?_) AllReadyH.nil)
      refine step_append_lies _ (by rfl) _ _ _ (by rfl) C 9 i0 _ 1 16 Tryz.underlying23 hi0 hz0 hz1 hz2 rfl (by omega) (.slice po A.length cap) A.length (keysOf A) (by simp [Act.eval]) (H4.out.r.alloc _) ⟨w.heap.size + 3, 0, none⟩ 1 1 [.string x] (by simp [Act.eval]) (by rfl) (World.news_of_block (cs := #[.string x]) (t := 9) (fr := (0, 0)) (new_at2 (by omega) _)) (by intro u hu; simp at hu; subst hu; rfl) (by omega) (by unfold maxLen; omega) (by omega) (by show C ≤ (w4.alloc _).heap.size; simp; omega) _ rfl ?_
      intro gg cap2 w5 hown1 hgrow hat hlt
      have hz4' : (w4.alloc (.cells #[.string x] 9)).drew.heap.size = w.heap.size + 4 := by show (w4.alloc _).heap.size = _; simp; omega
      have hb5 := (hgrow.block kb (by omega) (fun e => Nkb.2.2.1 e.symm)).trans ((Below.heap_alloc _ _ _ (by omega)).trans H4.out.k)
      have ha5 := (hgrow.block ab (by omega) (fun e => Nkb.2.1 e.symm)).trans ((Below.heap_alloc _ _ _ (by omega)).trans H4.out.a)
      have hx5 := (hgrow.block w.heap.size (by omega) (fun e => by have := HK.out _ e.symm; omega)).trans ((Below.heap_alloc _ _ _ (by omega)).trans HQ1.out)
      have t1 : w5.cell? ⟨kb, 0, none⟩ = some (.slice po A.length cap) := cell_of hb5 rfl
      have tf := free_of hb5
      have t2 : w5.cell? ⟨ab, 1, none⟩ = some (.slice (some ⟨kb, 0, none⟩) 1 1) := cell_of ha5 rfl
      have t3 : w5.cell? ⟨w.heap.size, 0, none⟩ = some (.int .i64 0) := cell_of hx5 rfl
      have t4 : w5.cell? ⟨w.heap.size, 1, none⟩ = some (.string x) := cell_of hx5 rfl
      have HB5 := hide hb5
      have HA5 := hide ha5
      have HX5 := hide hx5
      have HOw := hide hown1
      have HGr := hide hgrow
      have HAt := hide hat
      clear hb5 ha5 hx5 hown1 hgrow hat
      refine hK.out _ _ ⟨t2, t3, t4⟩ (fun hHeld => ?_)
      clear hK K
      (try simp only [Act.put, List.getElem_toArray, List.getElem_cons_zero, List.getElem_cons_succ, List.setIfInBounds_toArray, List.set_cons_zero, List.set_cons_succ])
      refine wpAnyH_ready (rs := [18]) (by kernel_rfl) (by simp) (AllReadyH.cons rfl (fun K hK => ?_) AllReadyH.nil)
      go_simp
      refine hK.out _ _ ⟨t2, t3, t4⟩ (fun hHeld => ?_)
      clear hK K
      refine wpAnyH_ready (rs := [19]) (by kernel_rfl) (by simp) (AllReadyH.cons rfl (fun K hK => ?_) AllReadyH.nil)
      go_simp
      refine hK.out _ _ ⟨farC t2 (by show kb ≠ ab; omega), farC t3 (by show kb ≠ w.heap.size; omega), farC t4 (by show kb ≠ w.heap.size; omega)⟩ (fun hHeld => ?_)
      clear hK K
      refine wpAnyH_done (by kernel_rfl) ?_ _
      go_wp2_with fail
      go_meet
      refine ⟨rfl, gg, cap2, heap_setCell_same HB5.out _, ownsRow_of HOw.out (fun k hk => Below.heap_setCell _ _ _ _ (fun e => own_tag HOw.out HB5.out (by decide) (by rw [hk, e]))), ?_, ?_⟩
      · rcases HAt.out with e | e
        · exact Or.inl e
        · exact Or.inr (by omega)
      · exact ((toDrew ((onlyA w4 _).mono (E := fun q => q = kb ∨ (Value.slice po A.length cap).ownBlock = some q) (fun _ _ e => e.elim))).grown HGr.out (fun q hq _ => Or.inr hq)).setCell (p := ⟨kb, 0, none⟩) (fun _ => Or.inl rfl) _
  case rest =>
  obtain ⟨rfl, gg, cap2, hk5, hr5, hat, hO5⟩ := hcut
  have hz5 := hO5.size
  have hne : ∀ q, w.heap.size ≤ q → ¬ (q = kb ∨ (Value.slice po A.length cap).ownBlock = some q) := fun q hq e => by
    rcases e with e | e
    · omega
    · have := HK.out _ e; omega
  have r1 := (hO5.block _ (heap_lt HQ1.out) (hne _ (by omega))).trans HQ1.out
  have r2 := (hO5.block _ (heap_lt HQ2.out) (hne _ (by omega))).trans HQ2.out
  have r3 := (hO5.block _ (heap_lt HB4.out) (hne _ (by omega))).trans HB4.out
  have r4 := (hO5.block _ (heap_lt H4.out.a) (fun e => by rcases e with e | e; omega; exact Nkb.2.1 e)).trans H4.out.a
  obtain ⟨es4, ck4, m4, he4⟩ := H4.out.m
  have r5 := (hO5.block _ (heap_lt m4) (fun e => by rcases e with e | e; omega; exact Nkb.2.2.2 e)).trans m4
  have HO5 : Hid (Only (fun q => q = kb ∨ q = M ∨ (Value.slice po A.length cap).ownBlock = some q) w wc) := hide ((HO4.out.mono (E := fun q => q = kb ∨ q = M ∨ (Value.slice po A.length cap).ownBlock = some q) (fun _ _ e => e.elim)).trans hO5 (fun _ _ e => by rcases e with e | e; exact Or.inl e; exact Or.inr (Or.inr e)))
  have HPa := hide H4.out.p
  clear a0 a1 k0 kf la lk x0 x1 a1' k0' x0' x1' hO5 m4 HQ1 HQ2 HB4 H4 HO4
  have x0 : wc.cell? ⟨w.heap.size, 0, none⟩ = some (.int .i64 0) := cell_of r1 rfl
  have x1 : wc.cell? ⟨w.heap.size, 1, none⟩ = some (.string x) := cell_of r1 rfl
  have y0 : wc.cell? ⟨w.heap.size + 1, 0, none⟩ = some (.int .i64 v.1) := cell_of r2 rfl
  have y1 : wc.cell? ⟨w.heap.size + 1, 1, none⟩ = some (.int .i64 v.2.1) := cell_of r2 rfl
  have y2 : wc.cell? ⟨w.heap.size + 1, 2, none⟩ = some (.string v.2.2) := cell_of r2 rfl
  have e0 : wc.cell? ⟨w.heap.size + 2, 0, none⟩ = some (.int .i64 0) := cell_of r3 rfl
  have e1 : wc.cell? ⟨w.heap.size + 2, 1, none⟩ = some (.int .i64 0) := cell_of r3 rfl
  have e2 : wc.cell? ⟨w.heap.size + 2, 2, none⟩ = some (.string ⟨#[]⟩) := cell_of r3 rfl
  have e3 : wc.cell? ⟨w.heap.size + 2, 3, none⟩ = some (.int .i64 A.length) := cell_of r3 rfl
  have ef := free_of r3
  have a0 : wc.cell? ⟨ab, 0, none⟩ = some (.map (some M)) := cell_of r4 rfl
  have la := heap_lt r4
  have HR1 := hide r1
  have HR2 := hide r2
  have HR3 := hide r3
  have HR4 := hide r4
  have HR5 := hide r5
  clear r1 r2 r3 r4 r5 hne
  go_wp2_with fail
  obtain ⟨w6, hw6⟩ : ∃ w6, w6 = ((wc.setCell ⟨w.heap.size + 2, 0, none⟩ (.int .i64 v.1)).setCell ⟨w.heap.size + 2, 1, none⟩ (.int .i64 v.2.1)).setCell ⟨w.heap.size + 2, 2, none⟩ (.string v.2.2) := ⟨_, rfl⟩
  have hO6 : Only (fun k => k = w.heap.size + 2) wc w6 := by
    have := (((Only.refl (fun k => k = w.heap.size + 2) wc).setCell (p := ⟨w.heap.size + 2, 0, none⟩) (fun _ => rfl) (.int .i64 v.1)).setCell (p := ⟨w.heap.size + 2, 1, none⟩) (fun _ => rfl) (.int .i64 v.2.1)).setCell (p := ⟨w.heap.size + 2, 2, none⟩) (fun _ => rfl) (.string v.2.2)
    rw [hw6]
    exact this
  have b6 : w6.heap[w.heap.size + 2]? = some (.cells #[.int .i64 v.1, .int .i64 v.2.1, .string v.2.2, .int .i64 A.length] 494 (0, 0)) := by rw [hw6]; exact heap_setCell_same (heap_setCell_same (heap_setCell_same HR3.out _) _) _
  rw [← hw6]
  clear hw6
  have s1 := (hO6.block _ (heap_lt HR1.out) (by omega)).trans HR1.out
  have s4 := (hO6.block _ (heap_lt HR4.out) (by omega)).trans HR4.out
  have s5 := (hO6.block _ (heap_lt HR5.out) (by omega)).trans HR5.out
  obtain ⟨W, es6, hrun, hOW, hMW, hEW⟩ := upd_new (w := w6.drew) s5 he4 (HPa.out.keyed 0) (x := x) (by unfold maxLen; omega) (ents_no hno) (aVal v A.length)
  unfold aKey aVal at hrun
  clear x0 x1 y0 y1 y2 e0 e1 e2 e3 ef a0 la
  have x0 : w6.cell? ⟨w.heap.size, 0, none⟩ = some (.int .i64 0) := cell_of s1 rfl
  have x1 : w6.cell? ⟨w.heap.size, 1, none⟩ = some (.string x) := cell_of s1 rfl
  have e0 : w6.cell? ⟨w.heap.size + 2, 0, none⟩ = some (.int .i64 v.1) := cell_of b6 rfl
  have e1 : w6.cell? ⟨w.heap.size + 2, 1, none⟩ = some (.int .i64 v.2.1) := cell_of b6 rfl
  have e2 : w6.cell? ⟨w.heap.size + 2, 2, none⟩ = some (.string v.2.2) := cell_of b6 rfl
  have e3 : w6.cell? ⟨w.heap.size + 2, 3, none⟩ = some (.int .i64 A.length) := cell_of b6 rfl
  have a0 : w6.cell? ⟨ab, 0, none⟩ = some (.map (some M)) := cell_of s4 rfl
  have HS4 := hide s4
  have HOW := hide hOW
  have HMW := hide hMW
  have HEW := hide hEW
  have HO6 := hide hO6
  have HK5 := hide hk5
  have HR := hide hr5
  clear s1 s4 s5 b6 hOW hMW hEW hO6 hk5 hr5
  go_region
  all_goals
    go_wp2
    go_end0
    have ho : Only (fun q => q = w.heap.size + 2 ∨ q = M) wc W := (HO6.out.mono (E := fun q => q = w.heap.size + 2 ∨ q = M) (fun _ _ e => Or.inl e)).trans (fromDrew HOW.out) (fun _ _ e => Or.inr e)
    have hgl : gg < wc.heap.size := (HR.out.lt gg rfl).2
    have hgM : gg ≠ M := fun e => by
      obtain ⟨c, hc⟩ := row_tag HR.out gg rfl
      rw [e, HR5.out] at hc
      cases hc
    have hg2 : gg ≠ w.heap.size + 2 := fun e => by
      obtain ⟨c, hc⟩ := row_tag HR.out gg rfl
      rw [e, HR3.out] at hc
      cases hc
    refine ⟨rfl, .slice (some ⟨gg, 0, none⟩) (A.length + 1) cap2, ⟨(ho.block ab (heap_lt HR4.out) (by omega)).trans HR4.out, (ho.block kb (heap_lt HK5.out) (by omega)).trans HK5.out, ?_, ⟨es6, ck4 + 1, HMW.out, by rw [ents_snoc]; exact HEW.out⟩, HPa.out.snoc hx hno, fun e => absurd e (by simp)⟩, ?_, ?_⟩
    · have := ownsRow_of (w' := W) HR.out (fun k hk => ho.block k (HR.out.lt k hk).2 (fun e => by
        have e1 : gg = k := Option.some.inj hk
        omega))
      simpa [keysOf] using this
    · exact HO5.out.trans ho (fun i hi e => by rcases e with e | e; omega; exact Or.inr (Or.inl e))
    · intro q hq
      have e1 : gg = q := Option.some.inj hq
      rw [← e1]
      exact hat
end Go.Proofs.YtdbdbaepmdmnfaaGreatDoor

