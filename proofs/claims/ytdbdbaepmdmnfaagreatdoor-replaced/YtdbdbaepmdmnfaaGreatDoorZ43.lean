import Derived.Test.YtdbdbaepmdmnfaaGreatDoorZ42
namespace Go.Proofs.YtdbdbaepmdmnfaaGreatDoor
open Go.RowKit
/-- A step of a script, as it lies in memory. -/
def OpR (w : World) (b o : Nat) : Prop := ∃ (K A B : Int) (s t u : ByteArray) (ao : Option Addr) (n cap : Nat), (s.size ≤ 1125899906842624 ∧ t.size ≤ 1125899906842624) ∧
  w.cell? ⟨b, o, none⟩ = some (.int .i64 K) ∧ w.cell? ⟨b, o + 1, none⟩ = some (.int .i64 A) ∧ w.cell? ⟨b, o + 2, none⟩ = some (.int .i64 B) ∧ w.cell? ⟨b, o + 3, none⟩ = some (.string s) ∧ w.cell? ⟨b, o + 4, none⟩ = some (.string t) ∧ w.cell? ⟨b, o + 5, none⟩ = some (.string u) ∧ w.cell? ⟨b, o + 6, none⟩ = some (.slice ao n cap)
theorem OpR.only {w w' : World} {b o : Nat} (h : OpR w b o) (ho : Only (fun _ => False) w w') : OpR w' b o := by
  obtain ⟨K, A, B, s, t, u, ao, n, cap, hz, h0, h1, h2, h3, h4, h5, h6⟩ := h
  exact ⟨K, A, B, s, t, u, ao, n, cap, hz, keepC ho h0, keepC ho h1, keepC ho h2, keepC ho h3, keepC ho h4, keepC ho h5, keepC ho h6⟩
set_option maxRecDepth 100000 in
set_option maxHeartbeats 4000000 in
theorem replacedL_some (b off n cap : Nat) (hn : n ≤ 140737488355328) (a : Addr) (w : World) (_hB : b < w.heap.size) (hO : ∀ i, i < n → OpR w b (off + i * 7)) (hse : SentF w a) (htab : Lib.TabIs Tryz.prog w "internal/strconv.uint64pow10" .u64 Lib.pow10Tab) :
    Calls Tryz.prog 8 #[.slice (some ⟨b, off, none⟩) n cap] w fun e w' => e = .returned (.bool true) ∧ Only (fun _ => False) w w' := by
  have HOp := hide hO
  have HSe := hide hse
  have HTb := hide htab
  clear hO hse htab
  go_enter Tryz.func8, Tryz.ntmps8
  go_wp2
  go_loopw [3] (fun i wr => ∃ k : Nat, k ≤ n ∧ i = .int .i64 k ∧ Only (fun _ => False) w wr) (fun i _ => n - (intOf i).toNat)
  case atStart => exact ⟨0, by omega, rfl, Only.refl _ _⟩
  case round =>
    obtain ⟨k, hk, rfl, hbw⟩ := hrel
    by_cases hlt : k < n
    · obtain ⟨K, A, B, s, t, u, ao, nn, cp, ⟨z1, z2⟩, h0, h1, h2, h3, h4, h5, h6⟩ := (HOp.out k hlt).only hbw
      have hk60 : (k : Int) < 1152921504606846976 := by omega
      have HB := hide hbw
      have HR := hide (fun W (hW : Only (fun _ => False) w W) => replaced_any a K A B s t u z1 z2 ao nn cp W (HSe.out.only hW) (tab_only HTb.out hW))
      clear hbw z1 z2
      go_wp2_with fail
      refine (HR.out _ HB.out).mono ?_
      rintro e w1 ⟨rfl, hb1⟩
      have hw1 := HB.out.trans hb1 (fun _ _ e => e)
      clear hb1
      go_wp2
      go_roundw
      case rel => exact ⟨k + 1, by omega, by go_num, hw1⟩
      case measure => simp [intOf]; omega
    · go_wp2
      go_ret
      exact ⟨rfl, hbw⟩
set_option maxHeartbeats 1000000 in
theorem replacedL_none (ao : Option Addr) (cap : Nat) (w : World) : Calls Tryz.prog 8 #[.slice ao 0 cap] w fun e w' => e = .returned (.bool true) ∧ Only (fun _ => False) w w' := by
  go_enter Tryz.func8, Tryz.ntmps8
  go_wp2
  go_loop [3] (fun i => i = .int .i64 0) (fun _ => 0)
  case atStart => exact rfl
  case round =>
    subst hrel
    go_wp2
    go_ret
    exact ⟨rfl, Only.refl _ _⟩
end Go.Proofs.YtdbdbaepmdmnfaaGreatDoor

namespace Go.Proofs.YtdbdbaepmdmnfaaGreatDoor
open Go.RowKit Go.Deep Go.ChangeShapes
theorem cells25 : Tryz.prog.cellsOf 25 = 7 := by kernel_rfl
theorem cells3 : Tryz.prog.cellsOf 3 = 1 := by kernel_rfl
theorem cells9 : Tryz.prog.cellsOf 9 = 1 := by kernel_rfl
theorem cells23 : Tryz.prog.cellsOf 23 = 1 := by kernel_rfl
theorem bytes25 : Tryz.prog.bytesOf 25 = 96 := by kernel_rfl
theorem spot_of_cell {w : World} {a : Addr} {v : Value} (h : w.cell? a = some v) : ∃ b o, a = ⟨b, o, none⟩ := by
  obtain ⟨b, o, sp⟩ := a
  cases sp with
  | none => exact ⟨b, o, rfl⟩
  | some s =>
    exfalso
    unfold World.cell? at h
    split at h <;> simp_all
theorem add_none (b o j : Nat) : (⟨b, o, none⟩ : Addr).add j = ⟨b, o + j, none⟩ := by
  unfold Addr.add; split
  · rename_i h; subst h; rfl
  · rfl
theorem list7 {α : Type} (l : List α) (h : l.length = 7) : ∃ a b c d e f g, l = [a, b, c, d, e, f, g] := by
  match l, h with
  | [a, b, c, d, e, f, g], _ => exact ⟨a, b, c, d, e, f, g, rfl⟩
theorem lt_of_cell {w : World} {b o : Nat} {v : Value} (h : w.cell? ⟨b, o, none⟩ = some v) : b < w.heap.size := World.block_lt_of_cell? w ⟨b, o, none⟩ h
/-- What an element weighs, the whole row weighs. -/
theorem weights_mem_all {H : Type} {P : Program} {e : TypeId} {l : List (DataW H)} {d : DataW H} (hd : d ∈ l) {n : Nat} (hn : n ∈ d.weights P e) : n ∈ DataW.weightsAll P e l := by
  induction l with
  | nil => cases hd
  | cons x r ih =>
    unfold DataW.weightsAll
    rw [List.mem_append]
    cases hd with
    | head => exact Or.inl hn
    | tail _ h => exact Or.inr (ih h)
theorem opr_open {H : Type} {enc : TypeId × Value → H} {W : World} {n b o : Nat} {cs : List Value} {D : DataW H} {Pl : List MemPlace}
    (hc : W.cells? 0 ⟨b, o, none⟩ 7 = some cs) (hf : DataW.trod enc Tryz.prog W 0 (fun _ => true) true n 25 cs = some (D, Pl)) (hw : ∀ x ∈ D.weights Tryz.prog 25, x ≤ reachBytes) : OpR W b o := by
  obtain ⟨_, hlen, hcell⟩ := World.cells?_some hc
  obtain ⟨xs, m, rfl, hx, _, hxl, hfs⟩ := DataW.trod_struct Tryz.underlying25 hf
  obtain ⟨c0, c1, c2, c3, c4, c5, c6, rfl⟩ := list7 cs hlen
  obtain ⟨x0, x1, x2, x3, x4, x5, x6, rfl⟩ := list7 xs hxl
  have f0 := hfs 0 _ rfl
  have f1 := hfs 1 _ rfl
  have f2 := hfs 2 _ rfl
  have f3 := hfs 3 _ rfl
  have f4 := hfs 4 _ rfl
  have f5 := hfs 5 _ rfl
  have f6 := hfs 6 _ rfl
  simp [cells3, cells9, cells23] at f0 f1 f2 f3 f4 f5 f6
  obtain ⟨K, k0, rfl, _⟩ := DataW.trod_int Tryz.underlying3 f0
  obtain ⟨A, k1, rfl, _⟩ := DataW.trod_int Tryz.underlying3 f1
  obtain ⟨B, k2, rfl, _⟩ := DataW.trod_int Tryz.underlying3 f2
  obtain ⟨s, k3, rfl, hs⟩ := DataW.trod_string Tryz.underlying9 f3
  obtain ⟨t, k4, rfl, ht⟩ := DataW.trod_string Tryz.underlying9 f4
  obtain ⟨u, k5, rfl, hu⟩ := DataW.trod_string Tryz.underlying9 f5
  simp only [List.cons.injEq, and_true] at k0 k1 k2 k3 k4 k5
  subst k0 k1 k2 k3 k4 k5
  have e : ∀ j, j < 7 → W.cell? ⟨b, o + j, none⟩ = [Value.int .i64 K, .int .i64 A, .int .i64 B, .string s, .string t, .string u, c6][j]? := fun j hj => by
    have := hcell j hj; rw [add_none] at this; exact this
  have hD := congrArg Prod.fst hx
  simp only [List.map_cons, List.map_nil] at hD
  have ht2 : t.data.toList.length ≤ reachBytes := hw _ (by
    rw [hD]
    unfold DataW.weights
    rw [Tryz.underlying25]
    exact DataW.weights_mem_each (j := 4) (t := 9) rfl rfl _ (by unfold DataW.weights; exact List.mem_singleton.2 rfl))
  have hu2 : s.data.toList.length ≤ reachBytes := hw _ (by
    rw [hD]
    unfold DataW.weights
    rw [Tryz.underlying25]
    exact DataW.weights_mem_each (j := 3) (t := 9) rfl rfl _ (by unfold DataW.weights; exact List.mem_singleton.2 rfl))
  rw [lenN] at ht2 hu2
  unfold reachBytes at ht2 hu2
  rcases open_strings Tryz.underlying23 Tryz.underlying9 cells9 f6 with ⟨h6, h7⟩ | ⟨a, len, cap, ss, h6, _, hl, hm, hz, h7, hsc, hsz⟩
  · simp only [List.cons.injEq, and_true] at h6
    subst h6
    exact ⟨K, A, B, s, t, u, none, 0, 0, ⟨by omega, by omega⟩, e 0 (by omega), e 1 (by omega), e 2 (by omega), e 3 (by omega), e 4 (by omega), e 5 (by omega), e 6 (by omega)⟩
  · simp only [List.cons.injEq, and_true] at h6
    subst h6
    exact ⟨K, A, B, s, t, u, some a, len, cap, ⟨by omega, by omega⟩, e 0 (by omega), e 1 (by omega), e 2 (by omega), e 3 (by omega), e 4 (by omega), e 5 (by omega), e 6 (by omega)⟩
end Go.Proofs.YtdbdbaepmdmnfaaGreatDoor

