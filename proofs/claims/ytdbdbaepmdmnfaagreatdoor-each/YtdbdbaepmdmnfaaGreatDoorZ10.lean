import Derived.Test.YtdbdbaepmdmnfaaGreatDoorZ09
import Derived.Deep.RegionWith
import Derived.Test.YtdbdbaepmdmnfaaGreatDoorZ08
import Derived.LaidEql
import Derived.Test.YtdbdbaepmdmnfaaGreatDoorZ06
import Derived.Test.YtdbdbaepmdmnfaaGreatDoorZ03
import Derived.Lib.Bytealg
namespace Go.Proofs.YtdbdbaepmdmnfaaGreatDoor
open Go.RowKit
theorem Cutter.own {B : Nat} {X : Nat → Prop} {w : World} {cb gb : Nat} {s : ByteArray} {frm : Nat} {xs : List (List UInt8)} (h : Cutter B X w cb gb s frm xs) : ∃ v cap, w.cell? ⟨cb, 0, none⟩ = some (.slice (some ⟨gb, 0, none⟩) s.size cap) ∧ w.cell? ⟨cb, 1, none⟩ = some (.int .i64 frm) ∧ w.cell? ⟨cb, 2, none⟩ = some v ∧ w.ownsRow B 9 1 v xs.length (strsV xs) := by
  obtain ⟨v, cap, _, hcb, _, _, hown, _⟩ := h
  exact ⟨v, cap, cell_of hcb rfl, cell_of hcb rfl, cell_of hcb rfl, hown⟩
theorem Cutter.drewN {B : Nat} {X : Nat → Prop} {w : World} {cb gb : Nat} {s : ByteArray} {frm : Nat} {xs : List (List UInt8)} (h : Cutter B X w cb gb s frm xs) (n : Nat) : Cutter B X (w.drewN n) cb gb s frm xs := h
set_option maxHeartbeats 4000000 in
theorem filled_yes (B : Nat) (X : Nat → Prop) (cb gb : Nat) (s : ByteArray) (frm e : Nat) (xs : List (List UInt8)) (hfe : frm < e) (hes : e ≤ s.size) (hx : xs.length ≤ 1000000) (w : World) (h : Cutter B X w cb gb s frm xs) :
    Calls Tryz.prog 52 #[.pointer (some ⟨cb, 0, none⟩), .int .i64 e] w fun en w' => en = .returned (.tuple #[]) ∧ Cutter B X w' cb gb s e (xs ++ [cutL s.data.toList frm e]) ∧ Only (fun k => B ≤ k ∧ ¬ X k) w w' := by
  obtain ⟨v, cap, c0, c1, c2, _⟩ := h.own
  have HC := hide (cut_any B X cb gb s frm e e xs (by omega) hes hx w h)
  have hlt : (frm : Int) < (e : Int) := by omega
  clear h
  go_enter Tryz.func52, Tryz.ntmps52
  go_wp2_with (go_at_call 53; refine (HC.out).mono ?_; rintro en w' ⟨rfl, h1, h2⟩)
  go_end0
  exact ⟨rfl, h1, h2⟩
set_option maxHeartbeats 4000000 in
theorem filled_no (B : Nat) (X : Nat → Prop) (cb gb : Nat) (s : ByteArray) (frm e : Nat) (xs : List (List UInt8)) (hfe : ¬ frm < e) (w : World) (h : Cutter B X w cb gb s frm xs) :
    Calls Tryz.prog 52 #[.pointer (some ⟨cb, 0, none⟩), .int .i64 e] w fun en w' => en = .returned (.tuple #[]) ∧ w' = w := by
  obtain ⟨v, cap, c0, c1, c2, _⟩ := h.own
  have hlt : ¬ (frm : Int) < (e : Int) := by omega
  clear h
  go_enter Tryz.func52, Tryz.ntmps52
  go_wp2
  go_end0
  exact ⟨rfl, rfl⟩
end Go.Proofs.YtdbdbaepmdmnfaaGreatDoor

namespace Go.Proofs.YtdbdbaepmdmnfaaGreatDoor
open Go.RowKit
/-- A cutter that was just made. -/
theorem cutter_new {X : Nat → Prop} {w w1 : World} {s : ByteArray} {cap : Nat} (hcap : s.size ≤ cap) (hby : BytesAt w1 (w.heap.size + 1) s) (hrow : w1.heap[w.heap.size + 2]? = some (.cells #[] 9 (0, 0))) (hz : w1.heap.size = w.heap.size + 3) (hX : ∀ k, X k → k < w.heap.size) :
    Cutter w.heap.size X (w1.alloc (.cells #[.slice (some ⟨w.heap.size + 1, 0, none⟩) s.size cap, .int .i64 0, .slice (some ⟨w.heap.size + 2, 0, none⟩) 0 0] 106)) (w.heap.size + 3) (w.heap.size + 1) s 0 [] := by
  refine ⟨_, cap, hcap, new_at hz _, hby.block (Below.heap_alloc _ _ _ (by omega)), by simp; omega, ⟨rfl, Or.inr ⟨w.heap.size + 2, 0, #[], rfl, by omega, (Below.heap_alloc _ _ _ (by omega)).trans hrow, Nat.le_refl _, by unfold maxLen; omega, rfl, rfl⟩⟩, by omega, fun e => ?_, fun e => ?_, by omega, by omega, fun k hk => ?_⟩
  · have := Option.some.inj e
    simp at this
  · have := Option.some.inj e
    simp at this
  · have := hX k hk
    refine ⟨by simp; omega, by omega, fun e => ?_⟩
    have := Option.some.inj e
    simp at this; omega
end Go.Proofs.YtdbdbaepmdmnfaaGreatDoor

namespace Go.Proofs.YtdbdbaepmdmnfaaGreatDoor
open Go.RowKit
theorem strs_eq {w : World} {B : Nat} {v : Value} {L M : List (List UInt8)} {n : Nat} (h : w.ownsRow B 9 1 v n (strsV L)) (e : L = M) (hn : n = M.length) : w.ownsRow B 9 1 v M.length (strsV M) := by subst e; subst hn; exact h
end Go.Proofs.YtdbdbaepmdmnfaaGreatDoor

namespace Go.Proofs.YtdbdbaepmdmnfaaGreatDoor
open Go.RowKit
theorem Cutter.setFrom {B : Nat} {X : Nat → Prop} {w : World} {cb gb : Nat} {s : ByteArray} {frm : Nat} {xs : List (List UInt8)} (h : Cutter B X w cb gb s frm xs) (f2 : Nat) : Cutter B X (w.setCell ⟨cb, 1, none⟩ (.int .i64 f2)) cb gb s f2 xs := by
  obtain ⟨v, cap, h1, h2, h3, h4, h5, h6, h7, h8, h9, h10, h11⟩ := h
  refine ⟨v, cap, h1, heap_setCell_same h2 _, h3.block (Below.heap_setCell _ _ _ _ (fun e => h6 e.symm)), by simp [World.setCell]; exact h4, ownsRow_of h5 (fun k hk => Below.heap_setCell _ _ _ _ (fun e => h7 (by rw [hk]; exact congrArg some e))), h6, h7, h8, h9, h10, fun k hk => ⟨by simp [World.setCell]; exact (h11 k hk).1, (h11 k hk).2⟩⟩
theorem Cutter.free {B : Nat} {X : Nat → Prop} {w : World} {cb gb : Nat} {s : ByteArray} {frm : Nat} {xs : List (List UInt8)} (h : Cutter B X w cb gb s frm xs) (o : Nat) : w.frozen? ⟨cb, o, none⟩ = false := by
  obtain ⟨v, cap, h1, h2, _⟩ := h
  exact free_of h2 o
set_option maxRecDepth 100000 in
set_option maxHeartbeats 4000000 in
theorem blanks_any (s : ByteArray) (h5 : s.size ≤ 500) (w : World) :
    Calls Tryz.prog 36 #[.string s] w fun en w' => ∃ v, en = .returned v ∧ w'.ownsRow w.heap.size 9 1 v (words [] s.data.toList).length (strsV (words [] s.data.toList)) ∧ Only (fun _ => False) w w' := by
  have hlen : s.data.toList.length = s.size := len_eq s
  obtain ⟨L, HL⟩ : ∃ L, Hid (L = words [] s.data.toList) := ⟨_, rfl⟩
  rw [← HL.out]
  go_enter Tryz.func36, Tryz.ntmps36
  go_wp2_with fail
  refine (start_any s w).mono ?_
  rintro en w1 ⟨cap, hcap, rfl, hby, hrow, hz, ho⟩
  have HC0 := hide (cutter_new (X := fun _ => False) hcap hby hrow hz (fun _ h => h.elim))
  have HO0 := hide (ho.alloc (.cells #[.slice (some ⟨w.heap.size + 1, 0, none⟩) s.size cap, .int .i64 0, .slice (some ⟨w.heap.size + 2, 0, none⟩) 0 0] 106))
  clear hby hrow ho
  go_wp2
  go_loopw [9] (fun i wr => ∃ k frm xs, k ≤ s.size ∧ frm ≤ k ∧ i = .int .i64 (k : Nat) ∧ xs.length ≤ k ∧ words [] s.data.toList = xs ++ words (cutL s.data.toList frm k) (s.data.toList.drop k) ∧ Cutter w.heap.size (fun _ => False) wr (w.heap.size + 3) (w.heap.size + 1) s frm xs ∧ Only (fun _ => False) w wr) (fun i _ => s.size - (intOf i).toNat)
  case atStart => exact ⟨0, 0, [], Nat.zero_le _, Nat.le_refl _, rfl, Nat.le_refl _, rfl, HC0.out, HO0.out⟩
  case round =>
    obtain ⟨k, frm, xs, hk, hfk, rfl, hxl, hsp, hc, ho⟩ := hrel
    have HS := hide hsp
    have HO := hide ho
    by_cases hlt : k < s.size
    · have hli : (k : Int) < (s.size : Int) := by omega
      have hget := get_of_lt s k hlt
      cases hbl : blankB s[k]
      · have HBl := hide (isBlank_any s[k])
        have HS2 : Hid (words [] s.data.toList = xs ++ words (cutL s.data.toList frm (k + 1)) (s.data.toList.drop (k + 1))) := by
          show _ = _
          rw [HS.out, words_in hfk hget hbl]
        have HC := hide hc
        clear hc ho hsp hget
        go_wp2_with (go_at_call 51; refine (HBl.out _).mono ?_; rintro en w2 ⟨rfl, rfl⟩; rw [hbl])
        go_roundw
        case rel => exact ⟨k + 1, frm, xs, by omega, by omega, by go_num, by omega, HS2.out, HC.out, HO.out⟩
        case measure => simp [intOf]; omega
      · have HBl := hide (isBlank_any s[k])
        by_cases hf : frm < k
        · have HS2 : Hid (words [] s.data.toList = (xs ++ [cutL s.data.toList frm k]) ++ words (cutL s.data.toList (k + 1) (k + 1)) (s.data.toList.drop (k + 1))) := by
            show _ = _
            rw [HS.out, words_blank hget hbl, if_neg (by omega), cutL_same]; simp
          have HC := hide (filled_yes w.heap.size (fun _ => False) (w.heap.size + 3) (w.heap.size + 1) s frm k xs hf hk (by omega) wr hc)
          clear hc ho hsp hget
          go_wp2_with (first | (go_at_call 51; refine (HBl.out _).mono ?_; rintro en w2 ⟨rfl, rfl⟩; rw [hbl]) | (go_at_call 52; refine (HC.out).mono ?_; rintro en w2 ⟨rfl, h1, h2⟩; obtain ⟨v, cap2, d0, d1, d2, ho2⟩ := h1.own; have df := h1.free 1; have H1 := hide h1; have H2 := hide h2; clear h1 h2 ho2))
          go_roundw
          case rel => exact ⟨k + 1, k + 1, _, by omega, by omega, by go_num, by simp; omega, HS2.out, H1.out.setFrom (k + 1), (HO.out.trans H2.out (fun i hi hB => by have := hB.1; omega)).setCell (p := ⟨w.heap.size + 3, 1, none⟩) (fun h => absurd h (by simp)) _⟩
          case measure => simp [intOf]; omega
        · have HS2 : Hid (words [] s.data.toList = xs ++ words (cutL s.data.toList (k + 1) (k + 1)) (s.data.toList.drop (k + 1))) := by
            show _ = _
            rw [HS.out, words_blank hget hbl, if_pos (by omega), cutL_same]; simp
          have HF := hide (filled_no w.heap.size (fun _ => False) (w.heap.size + 3) (w.heap.size + 1) s frm k xs hf wr hc)
          obtain ⟨v, cap2, d0, d1, d2, ho2⟩ := hc.own
          have df := hc.free 1
          have HC := hide hc
          clear hc ho hsp hget ho2
          go_wp2_with (first | (go_at_call 51; refine (HBl.out _).mono ?_; rintro en w2 ⟨rfl, rfl⟩; rw [hbl]) | (go_at_call 52; refine (HF.out).mono ?_; rintro en w2 ⟨rfl, rfl⟩))
          go_roundw
          case rel => exact ⟨k + 1, k + 1, _, by omega, by omega, by go_num, by omega, HS2.out, HC.out.setFrom (k + 1), HO.out.setCell (p := ⟨w.heap.size + 3, 1, none⟩) (fun h => absurd h (by simp)) _⟩
          case measure => simp [intOf]; omega
    · have hli : ¬ (k : Int) < (s.size : Int) := by omega
      obtain rfl : k = s.size := by omega
      have HE0 : Hid (L = xs ++ if s.size ≤ frm then [] else [cutL s.data.toList frm s.size]) := by
        show L = _
        rw [HL.out, HS.out, ← hlen, words_end]
      by_cases hf : frm < s.size
      · have HE : Hid (xs ++ [cutL s.data.toList frm s.size] = L) := by
          show _ = L
          rw [HE0.out, if_neg (by omega)]
        have HC := hide (filled_yes w.heap.size (fun _ => False) (w.heap.size + 3) (w.heap.size + 1) s frm s.size xs hf (Nat.le_refl _) (by omega) wr hc)
        clear hc ho hsp
        go_wp2_with (go_at_call 52; refine (HC.out).mono ?_; rintro en w2 ⟨rfl, h1, h2⟩; obtain ⟨v, cap2, d0, d1, d2, ho2⟩ := h1.own; have H1 := hide ho2; have H2 := hide h2; clear h1 h2 ho2)
        go_ret
        exact ⟨_, rfl, strs_eq H1.out HE.out (by rw [HE.out]), HO.out.trans H2.out (fun i hi hB => by have := hB.1; omega)⟩
      · have HE : Hid (xs = L) := by
          show _ = L
          rw [HE0.out, if_pos (by omega), List.append_nil]
        have HF := hide (filled_no w.heap.size (fun _ => False) (w.heap.size + 3) (w.heap.size + 1) s frm s.size xs hf wr hc)
        obtain ⟨v, cap2, d0, d1, d2, ho2⟩ := hc.own
        have H1 := hide ho2
        clear hc ho hsp ho2
        go_wp2_with (go_at_call 52; refine (HF.out).mono ?_; rintro en w2 ⟨rfl, rfl⟩)
        go_ret
        exact ⟨_, rfl, strs_eq H1.out HE.out (by rw [HE.out]), HO.out⟩
end Go.Proofs.YtdbdbaepmdmnfaaGreatDoor

namespace Go.Proofs.YtdbdbaepmdmnfaaGreatDoor
open Go.RowKit
theorem own_base {w : World} {B C : Nat} {e : TypeId} {z : Nat} {v : Value} {n : Nat} {xs : List Value} (h : w.ownsRow B e z v n xs) (hC : C ≤ B) : w.ownsRow C e z v n xs := by
  refine ⟨h.1, ?_⟩
  rcases h.2 with h1 | ⟨g, cap, cur, h1, h2, h3⟩
  · exact Or.inl h1
  · exact Or.inr ⟨g, cap, cur, h1, by omega, h3⟩
/-- A cutter stands where nothing old is turned; blocks that were not there may be kept apart from now on. -/
theorem Cutter.kept {B : Nat} {X : Nat → Prop} {w w' : World} {cb gb : Nat} {s : ByteArray} {frm : Nat} {xs : List (List UInt8)} (h : Cutter B (fun _ => False) w cb gb s frm xs) (ho : Only (fun _ => False) w w') (hX : ∀ k, X k → w.heap.size ≤ k ∧ k < w'.heap.size) : Cutter B X w' cb gb s frm xs := by
  obtain ⟨v, cap, h1, h2, h3, h4, h5, h6, h7, h8, h9, h10, _⟩ := h
  have hz := ho.size
  have hcl := heap_lt h2
  refine ⟨v, cap, h1, (ho.block cb hcl (fun e => e)).trans h2, h3.block (ho.block gb h4 (fun e => e)), by omega, ownsRow_of h5 (fun k hk => ho.block k (h5.lt k hk).2 (fun e => e)), h6, h7, h8, h9, h10, fun k hk => ?_⟩
  have := hX k hk
  exact ⟨this.2, by omega, fun e => by have := (h5.lt k e).2; omega⟩
end Go.Proofs.YtdbdbaepmdmnfaaGreatDoor

namespace Go.Proofs.YtdbdbaepmdmnfaaGreatDoor
open Go.RowKit
set_option maxRecDepth 20000 in
set_option maxHeartbeats 1000000 in
theorem check_number (n : Nat) (hn : n ≤ 40) (w : World) : Calls Tryz.prog 234 #[.int .i64 n] w fun en w' => en = .returned .nilIface ∧ w' = w := by
  have h1 : ((n : Int) < 0) = False := by simp
  have h2 : ((n : Int) > 40) = False := by simp; omega
  go_enter Tryz.func234, Tryz.ntmps234
  go_wp2
  go_ret
  exact ⟨rfl, rfl⟩
theorem VAt.only {w w' : World} {vb : Nat} {cs : List Value} {D : Nat → Prop} (h : VAt w vb cs) (ho : Only D w w') (hd : ¬ D vb) : VAt w' vb cs := (ho.block vb (heap_lt h) hd).trans h
theorem VAt.set {w : World} {vb : Nat} {cs : List Value} (h : VAt w vb cs) (o : Nat) (a : Value) : VAt (w.setCell ⟨vb, o, none⟩ a) vb (cs.set o a) := by
  have := heap_setCell_same (o := o) h a
  unfold VAt
  simpa using this
theorem VAt.cell {w : World} {vb : Nat} {cs : List Value} (h : VAt w vb cs) {o : Nat} {a : Value} (ha : cs[o]? = some a) : w.cell? ⟨vb, o, none⟩ = some a := cell_of h (by simpa using ha)
theorem setNe {l : List Value} {i j : Nat} {a b : Value} (h : l[j]? = some b) (hij : i ≠ j) : (l.set i a)[j]? = some b := by rw [List.getElem?_set_ne hij]; exact h
end Go.Proofs.YtdbdbaepmdmnfaaGreatDoor

namespace Go.Proofs.YtdbdbaepmdmnfaaGreatDoor
open Go.RowKit
set_option maxRecDepth 20000 in
set_option maxHeartbeats 1000000 in
theorem of_count (n : Int) (w : World) : Calls Tryz.prog 396 #[.int .i64 n] w fun en w' => en = .returned (.agg #[.int .i64 1, .int .i64 n, .string ⟨#[]⟩]) ∧ w' = (w.alloc (.cells #[.int .i64 1, .int .i64 n, .string ⟨#[]⟩] 203)).alloc (.cells #[.int .i64 1, .int .i64 n, .string ⟨#[]⟩] 203) := by
  have HN := hide (ofNumber n)
  go_enter Tryz.func396, Tryz.ntmps396
  go_wp2_with (go_at_call 95; refine (HN.out _).mono ?_; rintro en w2 ⟨rfl, hw2⟩; subst hw2)
  exact bodyPost_ret (v := .agg #[.int .i64 1, .int .i64 n, .string ⟨#[]⟩]) (by simp [results, Tryz.results396, go_sem]) rfl ⟨rfl, rfl⟩
end Go.Proofs.YtdbdbaepmdmnfaaGreatDoor

namespace Go.Proofs.YtdbdbaepmdmnfaaGreatDoor
open Go.RowKit
/-- The lengths at the places of abc. -/
def LensOK (w : World) (v : Value) (first : Nat) : Prop := ∀ W, Only (fun _ => False) w W → Calls Tryz.prog 58 #[.agg #[v, .int .i64 first], .string ⟨#[97, 98, 99]⟩] W fun en w' => ∃ lb, en = .returned (.slice (some ⟨lb, 0, none⟩) 4 4) ∧ w'.heap[lb]? = some (.cells #[.int .i64 0, .int .i64 1, .int .i64 0, .int .i64 0] 3 (0, 0)) ∧ Only (fun _ => False) W w'
end Go.Proofs.YtdbdbaepmdmnfaaGreatDoor

namespace Go.Proofs.YtdbdbaepmdmnfaaGreatDoor
open Go.RowKit
theorem LensOK.only {w w' : World} {v : Value} {f : Nat} (h : LensOK w v f) (ho : Only (fun _ => False) w w') : LensOK w' v f := fun W hW => h W (ho.trans hW (fun _ _ e => e))
end Go.Proofs.YtdbdbaepmdmnfaaGreatDoor

namespace Go.Proofs.YtdbdbaepmdmnfaaGreatDoor
open Go.RowKit
/-- A run under way: what was there when the program was ready stands; the machine's three blocks are younger. -/
structure Under (wN wS W : World) (m ab vb sb : Nat) (txt : ByteArray) (size n : Nat) (sv : Value) (cs : List Value) : Prop where
  hm : wN.heap.size ≤ m
  hv : wN.heap.size ≤ vb
  hs : wN.heap.size ≤ sb
  nmv : m ≠ vb
  nms : m ≠ sb
  nvs : vb ≠ sb
  hM : ∃ po pn pc, MAt W m ab vb txt (.slice po pn pc) (.slice (some ⟨sb, 0, none⟩) 1 1) size n 0
  hV : VAt W vb cs
  hS : W.heap[sb]? = some (.cells #[.string ⟨#[]⟩, sv] 142 (0, 0))
  hO : Only (fun _ => False) wN W
  hT : Only (fun k => k = m ∨ k = vb ∨ k = sb) wS W
theorem Under.calm {wN wS W W' m ab vb sb txt size n sv cs} (h : Under wN wS W m ab vb sb txt size n sv cs) (ho : Only (fun _ => False) W W') : Under wN wS W' m ab vb sb txt size n sv cs := by
  obtain ⟨po, pn, pc, hM⟩ := h.hM
  exact ⟨h.hm, h.hv, h.hs, h.nmv, h.nms, h.nvs, ⟨po, pn, pc, hM.only ho (fun e => e)⟩, h.hV.only ho (fun e => e), (ho.block sb (heap_lt h.hS) (fun e => e)).trans h.hS, h.hO.trans ho (fun _ _ e => e), h.hT.trans ho (fun _ _ e => e.elim)⟩
theorem Under.step {wN wS W m ab vb sb txt size n sv cs} (h : Under wN wS W m ab vb sb txt size (n + 1) sv cs) : Under wN wS (W.setCell ⟨m, 7, none⟩ (.int .i64 n)) m ab vb sb txt size n sv cs := by
  obtain ⟨po, pn, pc, hM⟩ := h.hM
  have ho : Only (fun k => k = m) W (W.setCell ⟨m, 7, none⟩ (.int .i64 n)) := (Only.refl (fun k => k = m) W).setCell (p := ⟨m, 7, none⟩) (fun _ => rfl) _
  have hm := h.hm
  exact ⟨h.hm, h.hv, h.hs, h.nmv, h.nms, h.nvs, ⟨po, pn, pc, hM.setFuel n⟩, h.hV.only ho (fun e => h.nmv e.symm), (ho.block sb (heap_lt h.hS) (fun e => h.nms e.symm)).trans h.hS, h.hO.trans ho (fun q hq e => by omega), h.hT.trans ho (fun _ _ e => Or.inl e)⟩
end Go.Proofs.YtdbdbaepmdmnfaaGreatDoor

namespace Go.Proofs.YtdbdbaepmdmnfaaGreatDoor
open Go.RowKit
/-- The eight errors of package fault are there. -/
def Sent (w : World) : Prop := ∀ k, k ≤ 7 → ∃ a, w.cell? ⟨k, 0, none⟩ = some (.iface 558 (.pointer (some a)))
theorem Sent.only {w w' : World} (h : Sent w) (ho : Only (fun _ => False) w w') : Sent w' := fun k hk => by
  obtain ⟨a, ha⟩ := h k hk
  exact ⟨a, (ho.cell (p := ⟨k, 0, none⟩) (World.block_lt_of_cell? w _ ha) (fun e => e)).trans ha⟩
set_option maxRecDepth 100000 in
set_option maxHeartbeats 1000000 in
theorem is_nilA (b : Addr) (w : World) :
    Calls Tryz.prog 68 #[.nilIface, .iface 558 (.pointer (some b))] w fun e w' => e = .returned (.bool false) ∧ w' = w := by
  have hn := run_eql_iface_nil_left (P := Tryz.prog) w 558 (.pointer (some b)) Tryz.underlying74
  go_enter Tryz.func68, Tryz.ntmps68
  go_wp2
  go_ret
  exact ⟨rfl, rfl⟩
set_option maxRecDepth 100000 in
set_option maxHeartbeats 4000000 in
theorem errno_nil (w : World) (h : Sent w) : Calls Tryz.prog 43 #[.nilIface] w fun e w' => e = .returned (.int .i64 0) ∧ w' = w := by
  obtain ⟨b0, c0⟩ := h 0 (by decide)
  obtain ⟨b1, c1⟩ := h 1 (by decide)
  obtain ⟨b2, c2⟩ := h 2 (by decide)
  obtain ⟨b3, c3⟩ := h 3 (by decide)
  obtain ⟨b4, c4⟩ := h 4 (by decide)
  obtain ⟨b5, c5⟩ := h 5 (by decide)
  obtain ⟨b6, c6⟩ := h 6 (by decide)
  obtain ⟨b7, c7⟩ := h 7 (by decide)
  clear h
  have HN := hide is_nilA
  go_enter Tryz.func43, Tryz.ntmps43
  go_wp2_with (go_at_call 68; refine (HN.out _ _).mono ?_; rintro en w' ⟨rfl, h3⟩; subst w')
  go_ret
  exact ⟨rfl, rfl⟩
set_option maxRecDepth 100000 in
theorem mk49 (w : World) : (Instr.makeSlice 36 (.int .i64 1) (.int .i64 1)).run Tryz.prog w = .ok (.slice (some ⟨w.heap.size, 0, none⟩) 1 1) (w.alloc (.cells #[.string ⟨#[]⟩, .string ⟨#[]⟩] 41)) := by kernel_rfl
end Go.Proofs.YtdbdbaepmdmnfaaGreatDoor

namespace Go.Proofs.YtdbdbaepmdmnfaaGreatDoor
open Go.RowKit
/-- The tree of the program's one block. -/
def V1 (pb : Nat) : World → Value → Prop := BlockT pb 1 (fun _ => Is printV)
end Go.Proofs.YtdbdbaepmdmnfaaGreatDoor

namespace Go.Proofs.YtdbdbaepmdmnfaaGreatDoor
open Go.RowKit
theorem Under.only {wN wS W W' m ab vb sb txt size n sv cs} {D : Nat → Prop} (h : Under wN wS W m ab vb sb txt size n sv cs) (ho : Only D W W') (dm : ¬ D m) (dv : ¬ D vb) (ds : ¬ D sb) (hD : ∀ k, D k → wN.heap.size ≤ k) : Under wN W' W' m ab vb sb txt size n sv cs := by
  obtain ⟨po, pn, pc, hM⟩ := h.hM
  exact ⟨h.hm, h.hv, h.hs, h.nmv, h.nms, h.nvs, ⟨po, pn, pc, hM.only ho dm⟩, h.hV.only ho dv, (ho.block sb (heap_lt h.hS) ds).trans h.hS, h.hO.trans ho (fun q hq e => by have := hD q e; omega), Only.refl _ _⟩
theorem farCD {W : World} {p a : Addr} {v x : Value} (h : W.cell? a = some v) (hn : p.block ≠ a.block) : (W.setCell p x).drew.cell? a = some v := farC h hn
theorem cf91 (args : Array Value) (w : World) : (callFunc 62 args).run Tryz.prog w = .ok (.enter 62 args) w := callFunc_in Tryz.func62 (by kernel_rfl) rfl args w
theorem cf94 (args : Array Value) (w : World) : (callFunc 65 args).run Tryz.prog w = .ok (.enter 65 args) w := callFunc_in Tryz.func65 (by kernel_rfl) rfl args w
end Go.Proofs.YtdbdbaepmdmnfaaGreatDoor

namespace Go.Proofs.YtdbdbaepmdmnfaaGreatDoor
/-- The first line of a text, and what is behind its end. -/
def lineOf : List UInt8 → List UInt8
  | [] => []
  | c :: l => if c = 10 then [] else c :: lineOf l
def restOf : List UInt8 → List UInt8
  | [] => []
  | c :: l => if c = 10 then l else restOf l
def hasNl (l : List UInt8) : Bool := l.contains 10
/-- Where the first newline stands. -/
theorem index_line (l : List UInt8) : (hasNl l = false ∧ Lib.indexByte l 10 = -1 ∧ lineOf l = l ∧ restOf l = []) ∨
    (hasNl l = true ∧ Lib.indexByte l 10 = ((lineOf l).length : Int) ∧ lineOf l = l.take (lineOf l).length ∧ restOf l = l.drop ((lineOf l).length + 1) ∧ (lineOf l).length < l.length) := by
  induction l with
  | nil => exact Or.inl ⟨rfl, rfl, rfl, rfl⟩
  | cons c l ih =>
    by_cases hc : c = 10
    · subst hc
      refine Or.inr ⟨by simp [hasNl], ?_, by simp [lineOf], by simp [lineOf, restOf], by simp [lineOf]⟩
      simp [Lib.indexByte, lineOf]
    · have hcb : (c == 10) = false := by rw [beq_eq_false_iff_ne]; exact hc
      have h1 : lineOf (c :: l) = c :: lineOf l := by rw [lineOf, if_neg hc]
      have h2 : restOf (c :: l) = restOf l := by rw [restOf, if_neg hc]
      have h3 : hasNl (c :: l) = hasNl l := by
        unfold hasNl
        rw [List.contains_cons]
        have : ((10 : UInt8) == c) = false := by rw [beq_eq_false_iff_ne]; exact Ne.symm hc
        rw [this, Bool.false_or]
      rw [h1, h2, h3, Lib.indexByte, hcb]
      rcases ih with ⟨g1, g2, g3, g4⟩ | ⟨g1, g2, g3, g4, g5⟩
      · exact Or.inl ⟨g1, by rw [g2]; rfl, by rw [g3], g4⟩
      · refine Or.inr ⟨g1, ?_, by simp; exact g3, by simp; exact g4, by simp; exact g5⟩
        rw [g2]
        have : (((lineOf l).length : Int) == -1) = false := by rw [beq_eq_false_iff_ne]; omega
        rw [this]
        simp
end Go.Proofs.YtdbdbaepmdmnfaaGreatDoor

