import Derived.Test.YtdbdbaepmdmnfaaGreatDoorZ14
import Derived.Deep.RegionWith
import Derived.Test.YtdbdbaepmdmnfaaGreatDoorZ13
namespace Go.Proofs.YtdbdbaepmdmnfaaGreatDoor
open Go.RowKit
theorem Cutter.own {B : Nat} {X : Nat → Prop} {w : World} {cb gb : Nat} {s : ByteArray} {frm : Nat} {xs : List (List UInt8)} (h : Cutter B X w cb gb s frm xs) : ∃ v cap, w.cell? ⟨cb, 0, none⟩ = some (.slice (some ⟨gb, 0, none⟩) s.size cap) ∧ w.cell? ⟨cb, 1, none⟩ = some (.int .i64 frm) ∧ w.cell? ⟨cb, 2, none⟩ = some v ∧ w.ownsRow B 9 1 v xs.length (strsV xs) := by
  obtain ⟨v, cap, _, hcb, _, _, hown, _⟩ := h
  exact ⟨v, cap, cell_of hcb rfl, cell_of hcb rfl, cell_of hcb rfl, hown⟩
theorem Cutter.drewN {B : Nat} {X : Nat → Prop} {w : World} {cb gb : Nat} {s : ByteArray} {frm : Nat} {xs : List (List UInt8)} (h : Cutter B X w cb gb s frm xs) (n : Nat) : Cutter B X (w.drewN n) cb gb s frm xs := h
set_option maxHeartbeats 4000000 in
theorem filled_yes (B : Nat) (X : Nat → Prop) (cb gb : Nat) (s : ByteArray) (frm e : Nat) (xs : List (List UInt8)) (hfe : frm < e) (hes : e ≤ s.size) (hx : xs.length ≤ 1000000) (w : World) (h : Cutter B X w cb gb s frm xs) :
    Calls Tryz.prog 52 #[.pointer (some ⟨cb, 0, none⟩), .int .i64 e] w fun en w' => en = .returned (.tuple #[]) ∧ Cutter B X w' cb gb s e (xs ++ [cutL s.data.toList frm e]) ∧ Only (fun k => B ≤ k ∧ ¬ X k) w w' := by
  obtain ⟨v, cap, c0, c1, c2, _⟩ := h.own
  have HC := hide (cut_any B X cb gb s frm e e xs (by omega) hes hx w h)
  have hlt : (frm : Int) < (e : Int) := by omega
  clear h
  go_enter Tryz.func52, Tryz.ntmps52
  go_wp2_with (go_at_call 53; refine (HC.out).mono ?_; rintro en w' ⟨rfl, h1, h2⟩)
  go_end0
  exact ⟨rfl, h1, h2⟩
set_option maxHeartbeats 4000000 in
theorem filled_no (B : Nat) (X : Nat → Prop) (cb gb : Nat) (s : ByteArray) (frm e : Nat) (xs : List (List UInt8)) (hfe : ¬ frm < e) (w : World) (h : Cutter B X w cb gb s frm xs) :
    Calls Tryz.prog 52 #[.pointer (some ⟨cb, 0, none⟩), .int .i64 e] w fun en w' => en = .returned (.tuple #[]) ∧ w' = w := by
  obtain ⟨v, cap, c0, c1, c2, _⟩ := h.own
  have hlt : ¬ (frm : Int) < (e : Int) := by omega
  clear h
  go_enter Tryz.func52, Tryz.ntmps52
  go_wp2
  go_end0
  exact ⟨rfl, rfl⟩
end Go.Proofs.YtdbdbaepmdmnfaaGreatDoor

namespace Go.Proofs.YtdbdbaepmdmnfaaGreatDoor
open Go.RowKit
/-- A cutter that was just made. -/
theorem cutter_new {X : Nat → Prop} {w w1 : World} {s : ByteArray} {cap : Nat} (hcap : s.size ≤ cap) (hby : BytesAt w1 (w.heap.size + 1) s) (hrow : w1.heap[w.heap.size + 2]? = some (.cells #[] 9 (0, 0))) (hz : w1.heap.size = w.heap.size + 3) (hX : ∀ k, X k → k < w.heap.size) :
    Cutter w.heap.size X (w1.alloc (.cells #[.slice (some ⟨w.heap.size + 1, 0, none⟩) s.size cap, .int .i64 0, .slice (some ⟨w.heap.size + 2, 0, none⟩) 0 0] 106)) (w.heap.size + 3) (w.heap.size + 1) s 0 [] := by
  refine ⟨_, cap, hcap, new_at hz _, hby.block (Below.heap_alloc _ _ _ (by omega)), by simp; omega, ⟨rfl, Or.inr ⟨w.heap.size + 2, 0, #[], rfl, by omega, (Below.heap_alloc _ _ _ (by omega)).trans hrow, Nat.le_refl _, by unfold maxLen; omega, rfl, rfl⟩⟩, by omega, fun e => ?_, fun e => ?_, by omega, by omega, fun k hk => ?_⟩
  · have := Option.some.inj e
    simp at this
  · have := Option.some.inj e
    simp at this
  · have := hX k hk
    refine ⟨by simp; omega, by omega, fun e => ?_⟩
    have := Option.some.inj e
    simp at this; omega
end Go.Proofs.YtdbdbaepmdmnfaaGreatDoor

namespace Go.Proofs.YtdbdbaepmdmnfaaGreatDoor
open Go.RowKit
theorem strs_eq {w : World} {B : Nat} {v : Value} {L M : List (List UInt8)} {n : Nat} (h : w.ownsRow B 9 1 v n (strsV L)) (e : L = M) (hn : n = M.length) : w.ownsRow B 9 1 v M.length (strsV M) := by subst e; subst hn; exact h
end Go.Proofs.YtdbdbaepmdmnfaaGreatDoor

namespace Go.Proofs.YtdbdbaepmdmnfaaGreatDoor
open Go.RowKit
theorem Cutter.setFrom {B : Nat} {X : Nat → Prop} {w : World} {cb gb : Nat} {s : ByteArray} {frm : Nat} {xs : List (List UInt8)} (h : Cutter B X w cb gb s frm xs) (f2 : Nat) : Cutter B X (w.setCell ⟨cb, 1, none⟩ (.int .i64 f2)) cb gb s f2 xs := by
  obtain ⟨v, cap, h1, h2, h3, h4, h5, h6, h7, h8, h9, h10, h11⟩ := h
  refine ⟨v, cap, h1, heap_setCell_same h2 _, h3.block (Below.heap_setCell _ _ _ _ (fun e => h6 e.symm)), by simp [World.setCell]; exact h4, ownsRow_of h5 (fun k hk => Below.heap_setCell _ _ _ _ (fun e => h7 (by rw [hk]; exact congrArg some e))), h6, h7, h8, h9, h10, fun k hk => ⟨by simp [World.setCell]; exact (h11 k hk).1, (h11 k hk).2⟩⟩
theorem Cutter.free {B : Nat} {X : Nat → Prop} {w : World} {cb gb : Nat} {s : ByteArray} {frm : Nat} {xs : List (List UInt8)} (h : Cutter B X w cb gb s frm xs) (o : Nat) : w.frozen? ⟨cb, o, none⟩ = false := by
  obtain ⟨v, cap, h1, h2, _⟩ := h
  exact free_of h2 o
set_option maxRecDepth 100000 in
set_option maxHeartbeats 4000000 in
theorem blanks_any (s : ByteArray) (h5 : s.size ≤ 500) (w : World) :
    Calls Tryz.prog 36 #[.string s] w fun en w' => ∃ v, en = .returned v ∧ w'.ownsRow w.heap.size 9 1 v (words [] s.data.toList).length (strsV (words [] s.data.toList)) ∧ Only (fun _ => False) w w' := by
  have hlen : s.data.toList.length = s.size := len_eq s
  obtain ⟨L, HL⟩ : ∃ L, Hid (L = words [] s.data.toList) := ⟨_, rfl⟩
  rw [← HL.out]
  go_enter Tryz.func36, Tryz.ntmps36
  go_wp2_with fail
  refine (start_any s w).mono ?_
  rintro en w1 ⟨cap, hcap, rfl, hby, hrow, hz, ho⟩
  have HC0 := hide (cutter_new (X := fun _ => False) hcap hby hrow hz (fun _ h => h.elim))
  have HO0 := hide (ho.alloc (.cells #[.slice (some ⟨w.heap.size + 1, 0, none⟩) s.size cap, .int .i64 0, .slice (some ⟨w.heap.size + 2, 0, none⟩) 0 0] 106))
  clear hby hrow ho
  go_wp2
  go_loopw [9] (fun i wr => ∃ k frm xs, k ≤ s.size ∧ frm ≤ k ∧ i = .int .i64 (k : Nat) ∧ xs.length ≤ k ∧ words [] s.data.toList = xs ++ words (cutL s.data.toList frm k) (s.data.toList.drop k) ∧ Cutter w.heap.size (fun _ => False) wr (w.heap.size + 3) (w.heap.size + 1) s frm xs ∧ Only (fun _ => False) w wr) (fun i _ => s.size - (intOf i).toNat)
  case atStart => exact ⟨0, 0, [], Nat.zero_le _, Nat.le_refl _, rfl, Nat.le_refl _, rfl, HC0.out, HO0.out⟩
  case round =>
    obtain ⟨k, frm, xs, hk, hfk, rfl, hxl, hsp, hc, ho⟩ := hrel
    have HS := hide hsp
    have HO := hide ho
    by_cases hlt : k < s.size
    · have hli : (k : Int) < (s.size : Int) := by omega
      have hget := get_of_lt s k hlt
      cases hbl : blankB s[k]
      · have HBl := hide (isBlank_any s[k])
        have HS2 : Hid (words [] s.data.toList = xs ++ words (cutL s.data.toList frm (k + 1)) (s.data.toList.drop (k + 1))) := by
          show _ = _
          rw [HS.out, words_in hfk hget hbl]
        have HC := hide hc
        clear hc ho hsp hget
        go_wp2_with (go_at_call 51; refine (HBl.out _).mono ?_; rintro en w2 ⟨rfl, rfl⟩; rw [hbl])
        go_roundw
        case rel => exact ⟨k + 1, frm, xs, by omega, by omega, by go_num, by omega, HS2.out, HC.out, HO.out⟩
        case measure => simp [intOf]; omega
      · have HBl := hide (isBlank_any s[k])
        by_cases hf : frm < k
        · have HS2 : Hid (words [] s.data.toList = (xs ++ [cutL s.data.toList frm k]) ++ words (cutL s.data.toList (k + 1) (k + 1)) (s.data.toList.drop (k + 1))) := by
            show _ = _
            rw [HS.out, words_blank hget hbl, if_neg (by omega), cutL_same]; simp
          have HC := hide (filled_yes w.heap.size (fun _ => False) (w.heap.size + 3) (w.heap.size + 1) s frm k xs hf hk (by omega) wr hc)
          clear hc ho hsp hget
          go_wp2_with (first | (go_at_call 51; refine (HBl.out _).mono ?_; rintro en w2 ⟨rfl, rfl⟩; rw [hbl]) | (go_at_call 52; refine (HC.out).mono ?_; rintro en w2 ⟨rfl, h1, h2⟩; obtain ⟨v, cap2, d0, d1, d2, ho2⟩ := h1.own; have df := h1.free 1; have H1 := hide h1; have H2 := hide h2; clear h1 h2 ho2))
          go_roundw
          case rel => exact ⟨k + 1, k + 1, _, by omega, by omega, by go_num, by simp; omega, HS2.out, H1.out.setFrom (k + 1), (HO.out.trans H2.out (fun i hi hB => by have := hB.1; omega)).setCell (p := ⟨w.heap.size + 3, 1, none⟩) (fun h => absurd h (by simp)) _⟩
          case measure => simp [intOf]; omega
        · have HS2 : Hid (words [] s.data.toList = xs ++ words (cutL s.data.toList (k + 1) (k + 1)) (s.data.toList.drop (k + 1))) := by
            show _ = _
            rw [HS.out, words_blank hget hbl, if_pos (by omega), cutL_same]; simp
          have HF := hide (filled_no w.heap.size (fun _ => False) (w.heap.size + 3) (w.heap.size + 1) s frm k xs hf wr hc)
          obtain ⟨v, cap2, d0, d1, d2, ho2⟩ := hc.own
          have df := hc.free 1
          have HC := hide hc
          clear hc ho hsp hget ho2
          go_wp2_with (first | (go_at_call 51; refine (HBl.out _).mono ?_; rintro en w2 ⟨rfl, rfl⟩; rw [hbl]) | (go_at_call 52; refine (HF.out).mono ?_; rintro en w2 ⟨rfl, rfl⟩))
          go_roundw
          case rel => exact ⟨k + 1, k + 1, _, by omega, by omega, by go_num, by omega, HS2.out, HC.out.setFrom (k + 1), HO.out.setCell (p := ⟨w.heap.size + 3, 1, none⟩) (fun h => absurd h (by simp)) _⟩
          case measure => simp [intOf]; omega
    · have hli : ¬ (k : Int) < (s.size : Int) := by omega
      obtain rfl : k = s.size := by omega
      have HE0 : Hid (L = xs ++ if s.size ≤ frm then [] else [cutL s.data.toList frm s.size]) := by
        show L = _
        rw [HL.out, HS.out, ← hlen, words_end]
      by_cases hf : frm < s.size
      · have HE : Hid (xs ++ [cutL s.data.toList frm s.size] = L) := by
          show _ = L
          rw [HE0.out, if_neg (by omega)]
        have HC := hide (filled_yes w.heap.size (fun _ => False) (w.heap.size + 3) (w.heap.size + 1) s frm s.size xs hf (Nat.le_refl _) (by omega) wr hc)
        clear hc ho hsp
        go_wp2_with (go_at_call 52; refine (HC.out).mono ?_; rintro en w2 ⟨rfl, h1, h2⟩; obtain ⟨v, cap2, d0, d1, d2, ho2⟩ := h1.own; have H1 := hide ho2; have H2 := hide h2; clear h1 h2 ho2)
        go_ret
        exact ⟨_, rfl, strs_eq H1.out HE.out (by rw [HE.out]), HO.out.trans H2.out (fun i hi hB => by have := hB.1; omega)⟩
      · have HE : Hid (xs = L) := by
          show _ = L
          rw [HE0.out, if_pos (by omega), List.append_nil]
        have HF := hide (filled_no w.heap.size (fun _ => False) (w.heap.size + 3) (w.heap.size + 1) s frm s.size xs hf wr hc)
        obtain ⟨v, cap2, d0, d1, d2, ho2⟩ := hc.own
        have H1 := hide ho2
        clear hc ho hsp ho2
        go_wp2_with (go_at_call 52; refine (HF.out).mono ?_; rintro en w2 ⟨rfl, rfl⟩)
        go_ret
        exact ⟨_, rfl, strs_eq H1.out HE.out (by rw [HE.out]), HO.out⟩
end Go.Proofs.YtdbdbaepmdmnfaaGreatDoor

namespace Go.Proofs.YtdbdbaepmdmnfaaGreatDoor
open Go.RowKit
theorem own_base {w : World} {B C : Nat} {e : TypeId} {z : Nat} {v : Value} {n : Nat} {xs : List Value} (h : w.ownsRow B e z v n xs) (hC : C ≤ B) : w.ownsRow C e z v n xs := by
  refine ⟨h.1, ?_⟩
  rcases h.2 with h1 | ⟨g, cap, cur, h1, h2, h3⟩
  · exact Or.inl h1
  · exact Or.inr ⟨g, cap, cur, h1, by omega, h3⟩
end Go.Proofs.YtdbdbaepmdmnfaaGreatDoor

namespace Go.Proofs.YtdbdbaepmdmnfaaGreatDoor
open Go.RowKit
set_option maxRecDepth 20000 in
set_option maxHeartbeats 1000000 in
theorem check_number (n : Nat) (hn : n ≤ 40) (w : World) : Calls Tryz.prog 234 #[.int .i64 n] w fun en w' => en = .returned .nilIface ∧ w' = w := by
  have h1 : ((n : Int) < 0) = False := by simp
  have h2 : ((n : Int) > 40) = False := by simp; omega
  go_enter Tryz.func234, Tryz.ntmps234
  go_wp2
  go_ret
  exact ⟨rfl, rfl⟩
theorem VAt.only {w w' : World} {vb : Nat} {cs : List Value} {D : Nat → Prop} (h : VAt w vb cs) (ho : Only D w w') (hd : ¬ D vb) : VAt w' vb cs := (ho.block vb (heap_lt h) hd).trans h
theorem VAt.set {w : World} {vb : Nat} {cs : List Value} (h : VAt w vb cs) (o : Nat) (a : Value) : VAt (w.setCell ⟨vb, o, none⟩ a) vb (cs.set o a) := by
  have := heap_setCell_same (o := o) h a
  unfold VAt
  simpa using this
theorem VAt.cell {w : World} {vb : Nat} {cs : List Value} (h : VAt w vb cs) {o : Nat} {a : Value} (ha : cs[o]? = some a) : w.cell? ⟨vb, o, none⟩ = some a := cell_of h (by simpa using ha)
theorem setNe {l : List Value} {i j : Nat} {a b : Value} (h : l[j]? = some b) (hij : i ≠ j) : (l.set i a)[j]? = some b := by rw [List.getElem?_set_ne hij]; exact h
end Go.Proofs.YtdbdbaepmdmnfaaGreatDoor

