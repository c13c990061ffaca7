import Derived.Test.YthhiofppbpgipaaGreatDoorMPlays
import Derived.Test.YthhiofppbpgipaaGreatDoorMRClass
import Derived.Deep.Slices
import Derived.SliceStrings
import Derived.SizedLaws
import Derived.ProofKit
namespace Go.Proofs.YthhiofppbpgipaaGreatDoor
open Go.RowKit
theorem class_ok : ClassOK := fun b s h5 i hi v P hP w h => rclass_any b s h5 i hi v P hP w h
/-- A step of a script, as it lies in memory. -/
def OpM (w : World) (b o : Nat) : Prop := ∃ (K A B : Int) (s t u : ByteArray) (ao : Option Addr) (n cap : Nat),
  w.cell? ⟨b, o, none⟩ = some (.int .i64 K) ∧ w.cell? ⟨b, o + 1, none⟩ = some (.int .i64 A) ∧ w.cell? ⟨b, o + 2, none⟩ = some (.int .i64 B) ∧ w.cell? ⟨b, o + 3, none⟩ = some (.string s) ∧ w.cell? ⟨b, o + 4, none⟩ = some (.string t) ∧ w.cell? ⟨b, o + 5, none⟩ = some (.string u) ∧ w.cell? ⟨b, o + 6, none⟩ = some (.slice ao n cap)
theorem OpM.below {w w' : World} {b o : Nat} (h : OpM w b o) (hb : Below w.heap.size w w') (hB : b < w.heap.size) : OpM w' b o := by
  obtain ⟨K, A, B, s, t, u, ao, n, cap, h0, h1, h2, h3, h4, h5, h6⟩ := h
  refine ⟨K, A, B, s, t, u, ao, n, cap, ?_, ?_, ?_, ?_, ?_, ?_, ?_⟩
  · rw [hb.cell (p := ⟨b, o, none⟩) hB]; exact h0
  · rw [hb.cell (p := ⟨b, o + 1, none⟩) hB]; exact h1
  · rw [hb.cell (p := ⟨b, o + 2, none⟩) hB]; exact h2
  · rw [hb.cell (p := ⟨b, o + 3, none⟩) hB]; exact h3
  · rw [hb.cell (p := ⟨b, o + 4, none⟩) hB]; exact h4
  · rw [hb.cell (p := ⟨b, o + 5, none⟩) hB]; exact h5
  · rw [hb.cell (p := ⟨b, o + 6, none⟩) hB]; exact h6
theorem mbox_below {w w' : World} {o : Obj} (h : Below (w.alloc o).heap.size (w.alloc o) w') : Below w.heap.size w w' := ((Below.refl w.heap.size w).alloc (Nat.le_refl _) o).trans (h.mono (by simp))
set_option maxRecDepth 100000 in
set_option maxHeartbeats 4000000 in
theorem upto_match (b off n cap : Nat) (hn : n ≤ 140737488355328) (w : World) (hB : b < w.heap.size) (hO : ∀ i, i < n → OpM w b (off + i * 7)) :
    Calls Tryz.prog 6 #[.slice (some ⟨b, off, none⟩) n cap, .int .i64 1, .int .i64 1] w fun e w' => e = .returned (.int .i64 (-1)) ∧ Below w.heap.size w w' := by
  have HOp := hide hO
  clear hO
  go_enter Tryz.func6, Tryz.ntmps6
  go_wp2
  go_loopw [7] (fun i wr => ∃ k : Nat, k ≤ n ∧ i = .int .i64 k ∧ Below w.heap.size w wr) (fun i _ => n - (intOf i).toNat)
  case atStart => exact ⟨0, by omega, rfl, Below.refl _ _⟩
  case round =>
    obtain ⟨k, hk, rfl, hbw⟩ := hrel
    have hzw := hbw.size
    by_cases hlt : k < n
    · obtain ⟨K, A, B, s, t, u, ao, nn, cp, h0, h1, h2, h3, h4, h5, h6⟩ := (HOp.out k hlt).below hbw hB
      have hk60 : (k : Int) < 1152921504606846976 := by omega
      have HB := hide hbw
      clear hbw
      by_cases hK : K = 1
      · subst hK
        go_wp2_with fail
        refine (plays_match class_ok A B s t u ao nn cp _).mono ?_
        rintro e w1 ⟨rfl, hb1⟩
        have hw1 := HB.out.trans ((mbox_below hb1).mono hzw)
        clear hb1
        go_wp2
        go_roundw
        case rel => exact ⟨k + 1, by omega, by go_num, hw1⟩
        case measure => simp [intOf]; omega
      · by_cases hge : 1 ≤ K
        · have hle : ¬ K ≤ 1 := by omega
          clear hK
          go_wp2
          go_roundw
          case rel => exact ⟨k + 1, by omega, by go_num, HB.out.alloc hzw _⟩
          case measure => simp [intOf]; omega
        · clear hK
          go_wp2
          go_roundw
          case rel => exact ⟨k + 1, by omega, by go_num, HB.out.alloc hzw _⟩
          case measure => simp [intOf]; omega
    · go_wp2
      go_ret
      exact ⟨rfl, hbw⟩
set_option maxHeartbeats 1000000 in
theorem uptom_none (lo hi : Int) (ao : Option Addr) (cap : Nat) (w : World) :
    Calls Tryz.prog 6 #[.slice ao 0 cap, .int .i64 lo, .int .i64 hi] w fun e w' => e = .returned (.int .i64 (-1)) ∧ w' = w := by
  go_enter Tryz.func6, Tryz.ntmps6
  go_wp2
  go_loop [7] (fun i => i = .int .i64 0) (fun _ => 0)
  case atStart => exact rfl
  case round =>
    subst hrel
    go_wp2
    go_ret
    exact ⟨rfl, rfl⟩
set_option maxHeartbeats 1000000 in
theorem matches_some (b off n cap : Nat) (hn : n ≤ 140737488355328) (w : World) (hB : b < w.heap.size) (hO : ∀ i, i < n → OpM w b (off + i * 7)) :
    Calls Tryz.prog 3 #[.slice (some ⟨b, off, none⟩) n cap] w fun e w' => e = .returned (.bool true) ∧ Below w.heap.size w w' := by
  have HU := hide (upto_match b off n cap hn w hB hO)
  clear hO
  go_enter Tryz.func3, Tryz.ntmps3
  go_wp2_with (go_at_call 6; refine (HU.out).mono ?_; rintro e w' ⟨rfl, hb⟩)
  go_ret
  exact ⟨rfl, hb⟩
set_option maxHeartbeats 1000000 in
theorem matches_none (ao : Option Addr) (cap : Nat) (w : World) :
    Calls Tryz.prog 3 #[.slice ao 0 cap] w fun e w' => e = .returned (.bool true) ∧ Below w.heap.size w w' := by
  go_enter Tryz.func3, Tryz.ntmps3
  go_wp2_with (go_at_call 6; refine (uptom_none 1 1 ao cap _).mono ?_; rintro e w' ⟨rfl, rfl⟩)
  go_ret
  exact ⟨rfl, Below.refl _ _⟩
end Go.Proofs.YthhiofppbpgipaaGreatDoor

namespace Go.Proofs.YthhiofppbpgipaaGreatDoor
open Go.RowKit Go.Deep Go.ChangeShapes

theorem cells27 : Tryz.prog.cellsOf 27 = 7 := by kernel_rfl
theorem cells3 : Tryz.prog.cellsOf 3 = 1 := by kernel_rfl
theorem cells9 : Tryz.prog.cellsOf 9 = 1 := by kernel_rfl
theorem cells25 : Tryz.prog.cellsOf 25 = 1 := by kernel_rfl
theorem bytes9 : Tryz.prog.bytesOf 9 = 16 := by kernel_rfl
theorem bytes27 : Tryz.prog.bytesOf 27 = 96 := by kernel_rfl
theorem spot_of_cell {w : World} {a : Addr} {v : Value} (h : w.cell? a = some v) : ∃ b o, a = ⟨b, o, none⟩ := by
  obtain ⟨b, o, sp⟩ := a
  cases sp with
  | none => exact ⟨b, o, rfl⟩
  | some s =>
    exfalso
    unfold World.cell? at h
    split at h <;> simp_all
theorem add_none (b o j : Nat) : (⟨b, o, none⟩ : Addr).add j = ⟨b, o + j, none⟩ := by
  unfold Addr.add; split
  · rename_i h; subst h; rfl
  · rfl
theorem list7 {α : Type} (l : List α) (h : l.length = 7) : ∃ a b c d e f g, l = [a, b, c, d, e, f, g] := by
  match l, h with
  | [a, b, c, d, e, f, g], _ => exact ⟨a, b, c, d, e, f, g, rfl⟩
theorem lt_of_cell {w : World} {b o : Nat} {v : Value} (h : w.cell? ⟨b, o, none⟩ = some v) : b < w.heap.size := World.block_lt_of_cell? w ⟨b, o, none⟩ h
theorem opm_open {H : Type} {enc : TypeId × Value → H} {W : World} {n b o : Nat} {cs : List Value} {D : DataW H} {Pl : List MemPlace}
    (hc : W.cells? 0 ⟨b, o, none⟩ 7 = some cs) (hf : DataW.trod enc Tryz.prog W 0 (fun _ => true) true n 27 cs = some (D, Pl)) : OpM W b o := by
  obtain ⟨_, hlen, hcell⟩ := World.cells?_some hc
  obtain ⟨xs, m, rfl, hx, _, hxl, hfs⟩ := DataW.trod_struct Tryz.underlying27 hf
  obtain ⟨c0, c1, c2, c3, c4, c5, c6, rfl⟩ := list7 cs hlen
  obtain ⟨x0, x1, x2, x3, x4, x5, x6, rfl⟩ := list7 xs hxl
  have f0 := hfs 0 _ rfl
  have f1 := hfs 1 _ rfl
  have f2 := hfs 2 _ rfl
  have f3 := hfs 3 _ rfl
  have f4 := hfs 4 _ rfl
  have f5 := hfs 5 _ rfl
  have f6 := hfs 6 _ rfl
  simp [cells3, cells9, cells25] at f0 f1 f2 f3 f4 f5 f6
  obtain ⟨K, k0, rfl, _⟩ := DataW.trod_int Tryz.underlying3 f0
  obtain ⟨A, k1, rfl, _⟩ := DataW.trod_int Tryz.underlying3 f1
  obtain ⟨B, k2, rfl, _⟩ := DataW.trod_int Tryz.underlying3 f2
  obtain ⟨s, k3, rfl, hs⟩ := DataW.trod_string Tryz.underlying9 f3
  obtain ⟨t, k4, rfl, ht⟩ := DataW.trod_string Tryz.underlying9 f4
  obtain ⟨u, k5, rfl, hu⟩ := DataW.trod_string Tryz.underlying9 f5
  simp only [List.cons.injEq, and_true] at k0 k1 k2 k3 k4 k5
  subst k0 k1 k2 k3 k4 k5
  have e : ∀ j, j < 7 → W.cell? ⟨b, o + j, none⟩ = [Value.int .i64 K, .int .i64 A, .int .i64 B, .string s, .string t, .string u, c6][j]? := fun j hj => by
    have := hcell j hj; rw [add_none] at this; exact this
  rcases open_strings Tryz.underlying25 Tryz.underlying9 cells9 f6 with ⟨h6, h7⟩ | ⟨a, len, cap, ss, h6, _, hl, hm, hz, h7, hsc, hsz⟩
  · simp only [List.cons.injEq, and_true] at h6
    subst h6
    exact ⟨K, A, B, s, t, u, none, 0, 0, e 0 (by omega), e 1 (by omega), e 2 (by omega), e 3 (by omega), e 4 (by omega), e 5 (by omega), e 6 (by omega)⟩
  · simp only [List.cons.injEq, and_true] at h6
    subst h6
    exact ⟨K, A, B, s, t, u, some a, len, cap, e 0 (by omega), e 1 (by omega), e 2 (by omega), e 3 (by omega), e 4 (by omega), e 5 (by omega), e 6 (by omega)⟩
end Go.Proofs.YthhiofppbpgipaaGreatDoor

