import Derived.Test.YthhiofppbpgipaaGreatDoorRFmtB
import Derived.Lib.BufSteps
namespace Go.Proofs.YthhiofppbpgipaaGreatDoor
open Go.RowKit

def bV (c : UInt8) : Value := .int .u8 c.toNat
theorem strCells_bV (l : List UInt8) : Lib.strCells ⟨l.toArray⟩ = l.map bV := rfl
theorem info5 : (Tryz.prog.info? 5).map (fun i => (i.zero, i.size, i.bytes)) = some (some (.int .u8 0), 1, 1) := by kernel_rfl
/-- What the call has made so far: the bytes M, in a row of its own. -/
def Made (B : Nat) (v : Value) (M : List UInt8) (W0 w : World) : Prop := Lib.OwnBuf B 5 v M.length (M.map bV) W0 w
theorem Made.shape {B : Nat} {v : Value} {M : List UInt8} {W0 w : World} (h : Made B v M W0 w) : ∃ ao cap, v = .slice ao M.length cap := by
  rcases h.1.2 with ⟨hv, hn⟩ | ⟨g, cap, cur, fz, hv, _⟩
  · exact ⟨none, 0, by rw [hv, hn]⟩
  · exact ⟨_, cap, hv⟩
theorem Made.below {B : Nat} {v : Value} {M : List UInt8} {W0 w w1 : World} (h : Made B v M W0 w) (hb : Below w.heap.size w w1) : Made B v M W0 w1 := by
  obtain ⟨h1, h2, h3⟩ := h
  refine ⟨⟨h1.1, ?_⟩, h2.trans (hb.mono h3), Nat.le_trans h3 hb.size⟩
  rcases h1.2 with hn | ⟨g, cap, cur, fz, hv, hg, hh, rest⟩
  · exact Or.inl hn
  · refine Or.inr ⟨g, cap, cur, fz, hv, hg, ?_, rest⟩
    have hlt : g < w.heap.size := (Array.getElem?_eq_some_iff.1 hh).1
    rw [hb.block g hlt]; exact hh
theorem Made.empty (w : World) : Made w.heap.size (.slice (some ⟨w.heap.size, 0, none⟩) 0 0) [] w (w.alloc (.cells #[] 5)) :=
  ⟨⟨by simp, Or.inr ⟨w.heap.size, 0, #[], (0, 0), rfl, Nat.le_refl _, heap_alloc_new w _, by simp, by simp, by unfold maxLen; omega, by simp, by simp⟩⟩, (Below.refl _ _).alloc (Nat.le_refl _) _, by simp⟩
/-- 'string(made)'. -/
theorem Made.conv {B : Nat} {ao : Option Addr} {cap : Nat} {M : List UInt8} {W0 w : World} (h : Made B (.slice ao M.length cap) M W0 w) : (convert 166 9 (.slice ao M.length cap)).run Tryz.prog w = .ok (.string ⟨M.toArray⟩) w := by
  rcases h.1.2 with ⟨hv, hn⟩ | ⟨g, cp, cur, fz, hv, hg, hh, _, _, _, hsz, htk⟩
  · have : M = [] := List.eq_nil_of_length_eq_zero hn
    subst this
    simp at hv
    obtain ⟨rfl, rfl⟩ := hv
    exact run_convert_bytes_nil w 166 5 Tryz.underlying166 Tryz.underlying5 _ _ 9 Tryz.underlying9
  · cases hv
    rw [run_convert_bytes_arg w 166 5 Tryz.underlying166 Tryz.underlying5 g 0 M.length cap (M.map fun b => (b.toNat : Int)) (by simp) ?_ 9 Tryz.underlying9]
    · congr 2
      unfold strOfNums
      simp [Function.comp_def]
    · intro i hi
      have h1 : cur[i]? = some (.int .u8 ((M.map fun b => (b.toNat : Int)).getD i 0)) := by
        have h2 : (cur.toList.take (M.length * 1))[i]? = (M.map bV)[i]? := by rw [htk]
        rw [List.getElem?_take_of_lt (by omega), Array.getElem?_toList, List.getElem?_map, List.getElem?_eq_getElem hi] at h2
        rw [h2, List.getD_eq_getElem?_getD, List.getElem?_map, List.getElem?_eq_getElem hi]; rfl
      simp [World.cell?, hh, h1]
/-- The arguments of a format, read, as the code holds them in memory. -/
def CellsAt (w : World) (b off : Nat) (ar : List (List UInt8)) : Prop :=
  ∀ i a, ar[i]? = some a → w.cell? ⟨b, off + i * 3, none⟩ = some (.int .i64 (codeKind (some a))) ∧ w.cell? ⟨b, off + i * 3 + 1, none⟩ = some (.int .i64 (codeNum (some a))) ∧ w.cell? ⟨b, off + i * 3 + 2, none⟩ = some (.string ⟨a.toArray⟩)
theorem CellsAt.below {w w' : World} {b off B : Nat} {ar : List (List UInt8)} (h : CellsAt w b off ar) (hb : Below B w w') (hB : b < B) : CellsAt w' b off ar := fun i a ha => by
  obtain ⟨h1, h2, h3⟩ := h i a ha
  exact ⟨by rw [hb.cell (p := ⟨b, off + i * 3, none⟩) hB]; exact h1, by rw [hb.cell (p := ⟨b, off + i * 3 + 1, none⟩) hB]; exact h2, by rw [hb.cell (p := ⟨b, off + i * 3 + 2, none⟩) hB]; exact h3⟩
theorem CellsAt.tail {w : World} {b off : Nat} {a : List UInt8} {r : List (List UInt8)} (h : CellsAt w b off (a :: r)) : CellsAt w b (off + 3) r := fun i x hx => by
  obtain ⟨h1, h2, h3⟩ := h (i + 1) x (by simpa using hx)
  rw [show off + (i + 1) * 3 = off + 3 + i * 3 by omega] at h1 h2 h3
  exact ⟨h1, h2, h3⟩
theorem prefix_pct (s : ByteArray) (p : Nat) (hp : p < s.size) (h : isAt s.data.toList p 37 = true) : Lib.hasPrefix (s.extract p s.size).data.toList [37, 37] = isAt s.data.toList (p + 1) 37 := by
  have e : (s.extract p s.size).data.toList = s.data.toList.drop p := by
    rw [ByteArray.data_extract, Array.toList_extract, List.extract_eq_take_drop, List.take_of_length_le]
    rw [List.length_drop, len_eq]; omega
  rw [e]
  have hp' : p < s.data.toList.length := by rw [len_eq]; exact hp
  rw [List.drop_eq_getElem_cons hp']
  obtain ⟨x, hx, hc⟩ := isAt_some h
  have hx' : s.data.toList[p] = x := by rw [List.getElem?_eq_getElem hp'] at hx; exact Option.some.inj hx
  rw [hx']
  have x37 : x = 37 := by
    have : x.toNat = 37 := by omega
    exact UInt8.toNat_inj.1 (by rw [this]; rfl)
  subst x37
  cases hd : s.data.toList.drop (p + 1) with
  | nil =>
    have hl : s.data.toList.length ≤ p + 1 := by simpa using hd
    unfold isAt; rw [List.getElem?_eq_none hl]
    simp [Lib.hasPrefix, List.isPrefixOf]
  | cons y r =>
    have hy : s.data.toList[p + 1]? = some y := by
      have := congrArg (fun x => x[0]?) hd
      simpa using this
    unfold isAt; rw [hy]
    simp only [Lib.hasPrefix, List.isPrefixOf, Bool.and_true, beq_self_eq_true, Bool.true_and]
    rw [Bool.eq_iff_iff]
    simp only [beq_iff_eq]
    constructor
    · intro e; rw [← e]; rfl
    · intro e
      exact UInt8.toNat_inj.1 (by have : y.toNat = 37 := by omega
                                  rw [this]; rfl)
def errVal (rc : Nat) (a0 a1 : Addr) : Value := if rc = 10 then .iface 532 (.pointer (some a0)) else if rc = 8 then .iface 532 (.pointer (some a1)) else .nilIface
end Go.Proofs.YthhiofppbpgipaaGreatDoor
