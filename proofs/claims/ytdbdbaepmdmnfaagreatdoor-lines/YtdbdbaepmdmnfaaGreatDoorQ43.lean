import Derived.Test.YtdbdbaepmdmnfaaGreatDoorQ42
namespace Go.Proofs.YtdbdbaepmdmnfaaGreatDoor
open Go.RowKit Go.Deep Go.ChangeShapes
theorem cells25 : Tryz.prog.cellsOf 25 = 7 := by kernel_rfl
theorem cells3 : Tryz.prog.cellsOf 3 = 1 := by kernel_rfl
theorem cells9 : Tryz.prog.cellsOf 9 = 1 := by kernel_rfl
theorem cells23 : Tryz.prog.cellsOf 23 = 1 := by kernel_rfl
theorem bytes25 : Tryz.prog.bytesOf 25 = 96 := by kernel_rfl
theorem spot_of_cell {w : World} {a : Addr} {v : Value} (h : w.cell? a = some v) : ∃ b o, a = ⟨b, o, none⟩ := by
  obtain ⟨b, o, sp⟩ := a
  cases sp with
  | none => exact ⟨b, o, rfl⟩
  | some s =>
    exfalso
    unfold World.cell? at h
    split at h <;> simp_all
theorem add_none (b o j : Nat) : (⟨b, o, none⟩ : Addr).add j = ⟨b, o + j, none⟩ := by
  unfold Addr.add; split
  · rename_i h; subst h; rfl
  · rfl
theorem list7 {α : Type} (l : List α) (h : l.length = 7) : ∃ a b c d e f g, l = [a, b, c, d, e, f, g] := by
  match l, h with
  | [a, b, c, d, e, f, g], _ => exact ⟨a, b, c, d, e, f, g, rfl⟩
theorem lt_of_cell {w : World} {b o : Nat} {v : Value} (h : w.cell? ⟨b, o, none⟩ = some v) : b < w.heap.size := World.block_lt_of_cell? w ⟨b, o, none⟩ h
/-- What an element weighs, the whole row weighs. -/
theorem weights_mem_all {H : Type} {P : Program} {e : TypeId} {l : List (DataW H)} {d : DataW H} (hd : d ∈ l) {n : Nat} (hn : n ∈ d.weights P e) : n ∈ DataW.weightsAll P e l := by
  induction l with
  | nil => cases hd
  | cons x r ih =>
    unfold DataW.weightsAll
    rw [List.mem_append]
    cases hd with
    | head => exact Or.inl hn
    | tail _ h => exact Or.inr (ih h)
theorem opn_open {H : Type} {enc : TypeId × Value → H} {W : World} {n b o : Nat} {cs : List Value} {D : DataW H} {Pl : List MemPlace}
    (hc : W.cells? 0 ⟨b, o, none⟩ 7 = some cs) (hf : DataW.trod enc Tryz.prog W 0 (fun _ => true) true n 25 cs = some (D, Pl)) (hw : ∀ x ∈ D.weights Tryz.prog 25, x ≤ reachBytes) : OpN W b o := by
  obtain ⟨_, hlen, hcell⟩ := World.cells?_some hc
  obtain ⟨xs, m, rfl, hx, _, hxl, hfs⟩ := DataW.trod_struct Tryz.underlying25 hf
  obtain ⟨c0, c1, c2, c3, c4, c5, c6, rfl⟩ := list7 cs hlen
  obtain ⟨x0, x1, x2, x3, x4, x5, x6, rfl⟩ := list7 xs hxl
  have f0 := hfs 0 _ rfl
  have f1 := hfs 1 _ rfl
  have f2 := hfs 2 _ rfl
  have f3 := hfs 3 _ rfl
  have f4 := hfs 4 _ rfl
  have f5 := hfs 5 _ rfl
  have f6 := hfs 6 _ rfl
  simp [cells3, cells9, cells23] at f0 f1 f2 f3 f4 f5 f6
  obtain ⟨K, k0, rfl, _⟩ := DataW.trod_int Tryz.underlying3 f0
  obtain ⟨A, k1, rfl, _⟩ := DataW.trod_int Tryz.underlying3 f1
  obtain ⟨B, k2, rfl, _⟩ := DataW.trod_int Tryz.underlying3 f2
  obtain ⟨s, k3, rfl, hs⟩ := DataW.trod_string Tryz.underlying9 f3
  obtain ⟨t, k4, rfl, ht⟩ := DataW.trod_string Tryz.underlying9 f4
  obtain ⟨u, k5, rfl, hu⟩ := DataW.trod_string Tryz.underlying9 f5
  simp only [List.cons.injEq, and_true] at k0 k1 k2 k3 k4 k5
  subst k0 k1 k2 k3 k4 k5
  have e : ∀ j, j < 7 → W.cell? ⟨b, o + j, none⟩ = [Value.int .i64 K, .int .i64 A, .int .i64 B, .string s, .string t, .string u, c6][j]? := fun j hj => by
    have := hcell j hj; rw [add_none] at this; exact this
  have hD := congrArg Prod.fst hx
  simp only [List.map_cons, List.map_nil] at hD
  have ht2 : t.data.toList.length ≤ reachBytes := hw _ (by
    rw [hD]
    unfold DataW.weights
    rw [Tryz.underlying25]
    exact DataW.weights_mem_each (j := 4) (t := 9) rfl rfl _ (by unfold DataW.weights; exact List.mem_singleton.2 rfl))
  have hu2 : u.data.toList.length ≤ reachBytes := hw _ (by
    rw [hD]
    unfold DataW.weights
    rw [Tryz.underlying25]
    exact DataW.weights_mem_each (j := 5) (t := 9) rfl rfl _ (by unfold DataW.weights; exact List.mem_singleton.2 rfl))
  rw [lenN] at ht2 hu2
  unfold reachBytes at ht2 hu2
  rcases open_strings Tryz.underlying23 Tryz.underlying9 cells9 f6 with ⟨h6, h7⟩ | ⟨a, len, cap, ss, h6, _, hl, hm, hz, h7, hsc, hsz⟩
  · simp only [List.cons.injEq, and_true] at h6
    subst h6
    exact ⟨K, A, B, s, t, u, none, 0, 0, ⟨by omega, by omega⟩, e 0 (by omega), e 1 (by omega), e 2 (by omega), e 3 (by omega), e 4 (by omega), e 5 (by omega), e 6 (by omega)⟩
  · simp only [List.cons.injEq, and_true] at h6
    subst h6
    exact ⟨K, A, B, s, t, u, some a, len, cap, ⟨by omega, by omega⟩, e 0 (by omega), e 1 (by omega), e 2 (by omega), e 3 (by omega), e 4 (by omega), e 5 (by omega), e 6 (by omega)⟩
end Go.Proofs.YtdbdbaepmdmnfaaGreatDoor
