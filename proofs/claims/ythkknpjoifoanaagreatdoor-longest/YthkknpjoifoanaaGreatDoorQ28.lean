import Derived.Test.YthkknpjoifoanaaGreatDoorQ27
import Derived.Test.YthkknpjoifoanaaGreatDoorQ12
namespace Go.Proofs.YthkknpjoifoanaaGreatDoor
open Go.RowKit
/-- What the lengths of all places say: the longest match at each. -/
theorem lens_are {Q : List St} {t : List UInt8} {last : Nat} {L : List Int} {R : Pat} (h : AllLen Q t last L) (hR : ∀ t i e, Acc Q t last e i ↔ R t i e) {len : Nat → Nat} (hLn : IsLen R t len) (k : Nat) (hk : k ≤ t.length) :
    ∃ z, L[k]? = some z ∧ ((0 < z ∧ z = (len k : Int)) ∨ (¬ 0 < z ∧ len k = 0)) := by
  obtain ⟨b, h1, h2⟩ := h.2 k hk
  refine ⟨_, h2, ?_⟩
  have key : ∀ m, k + m ≤ t.length → (0 < m → R t k (k + m)) → (∀ e, k < e → e ≤ t.length → R t k e → e ≤ k + m) → len k = m := fun m a b c => hLn.is ⟨a, b, c⟩
  cases b with
  | none =>
    right
    refine ⟨by show ¬ (0 : Int) < -1; omega, key 0 (by omega) (fun h => absurd h (Nat.lt_irrefl _)) (fun e he1 he2 hr => ?_)⟩
    obtain ⟨B, h3, _⟩ := h1.2 e he2 ((hR t k e).2 hr)
    cases h3
  | some B =>
    obtain ⟨h3, h4, h5⟩ := h1.1 B rfl
    have hl : len k = B - k := by
      refine key (B - k) (by omega) (fun _ => ?_) (fun e he1 he2 hr => ?_)
      · rw [show k + (B - k) = B by omega]; exact (hR t k B).1 h5
      · obtain ⟨B', h6, h7⟩ := h1.2 e he2 ((hR t k e).2 hr)
        cases h6; omega
    by_cases hB : k < B
    · left
      refine ⟨by show (0 : Int) < (B : Int) - k; omega, ?_⟩
      show (B : Int) - k = _
      rw [hl]; omega
    · right
      refine ⟨by show ¬ (0 : Int) < (B : Int) - k; omega, by omega⟩
theorem own_base {w : World} {B C : Nat} {e : TypeId} {z : Nat} {v : Value} {n : Nat} {xs : List Value} (h : w.ownsRow B e z v n xs) (hC : C ≤ B) : w.ownsRow C e z v n xs := by
  refine ⟨h.1, ?_⟩
  rcases h.2 with h1 | ⟨g, cap, cur, h1, h2, h3⟩
  · exact Or.inl h1
  · exact Or.inr ⟨g, cap, cur, h1, by omega, h3⟩
/-- A cutter stands where nothing old is turned; blocks that were not there may be kept apart from now on. -/
theorem Cutter.kept {B : Nat} {X : Nat → Prop} {w w' : World} {cb gb : Nat} {s : ByteArray} {frm : Nat} {xs : List (List UInt8)} (h : Cutter B (fun _ => False) w cb gb s frm xs) (ho : Only (fun _ => False) w w') (hX : ∀ k, X k → w.heap.size ≤ k ∧ k < w'.heap.size) : Cutter B X w' cb gb s frm xs := by
  obtain ⟨v, cap, h1, h2, h3, h4, h5, h6, h7, h8, h9, h10, _⟩ := h
  have hz := ho.size
  have hcl := heap_lt h2
  refine ⟨v, cap, h1, (ho.block cb hcl (fun e => e)).trans h2, h3.block (ho.block gb h4 (fun e => e)), by omega, ownsRow_of h5 (fun k hk => ho.block k (h5.lt k hk).2 (fun e => e)), h6, h7, h8, h9, h10, fun k hk => ?_⟩
  have := hX k hk
  exact ⟨this.2, by omega, fun e => by have := (h5.lt k e).2; omega⟩
set_option maxRecDepth 100000 in
set_option maxHeartbeats 8000000 in
theorem between_any (vS : Value) (last : Nat) (Q : List St) (R : Pat) (s : ByteArray) (hwf : WfQ Q) (hu : OneDone Q) (hR : ∀ t i e, Acc Q t last e i ↔ R t i e) (hfst : last < Q.length) (h5 : s.size ≤ 500) (hQ : Q.length ≤ 1000000) {len : Nat → Nat} (hLn : IsLen R s.data.toList len) (w : World) (hp : PatAt w vS Q) :
    Calls Tryz.prog 49 #[.string s, .agg #[vS, .int .i64 last]] w fun en w' => ∃ v, en = .returned v ∧ w'.ownsRow w.heap.size 9 1 v (patPieces len s.data.toList).length (strsV (patPieces len s.data.toList)) ∧ Only (fun _ => False) w w' := by
  have hlen : s.data.toList.length = s.size := len_eq s
  obtain ⟨G, capS, rfl⟩ := hp.form (by omega)
  obtain ⟨P, HP⟩ : ∃ P, Hid (P = patPieces len s.data.toList) := ⟨_, rfl⟩
  rw [← HP.out]
  have HPa : ∀ W, Only (fun _ => False) w W → Hid (PatAt W (.slice (some ⟨G, 0, none⟩) Q.length capS) Q) := fun W ho => by
    obtain ⟨xs, h1, h2⟩ := hp
    exact ⟨xs, ownsRow_of h1 (fun k hk => ho.block k (h1.lt k hk).2 (fun e => e)), h2⟩
  have HW := hide hwf
  have HU := hide hu
  have HR := hide hR
  have HLn := hide hLn
  have hbx := new0 w (.cells #[.slice (some ⟨G, 0, none⟩) Q.length capS, .int .i64 last] 47)
  have HBx := hide hbx
  clear hp hR hwf hu hbx hLn
  go_enter Tryz.func49, Tryz.ntmps49
  go_wp2_with fail
  refine (start_any s _).mono ?_
  rintro en w1 ⟨cap, hcap, rfl, hby, hrow, hz, ho⟩
  have hz0 : (w.alloc (.cells #[.slice (some ⟨G, 0, none⟩) Q.length capS, .int .i64 last] 47)).heap.size = w.heap.size + 1 := by simp
  have hc0 := cutter_new (X := fun _ => False) hcap hby hrow hz (fun _ h => h.elim)
  rw [hz0] at hc0 hz
  have hw1 : w1.heap[w.heap.size]? = some (.cells #[.slice (some ⟨G, 0, none⟩) Q.length capS, .int .i64 last] 47 (0, 0)) := (ho.block w.heap.size (by simp) (fun e => e)).trans HBx.out
  have p0 : w1.cell? ⟨w.heap.size, 0, none⟩ = some (.slice (some ⟨G, 0, none⟩) Q.length capS) := cell_of hw1 rfl
  have p1 : w1.cell? ⟨w.heap.size, 1, none⟩ = some (.int .i64 last) := cell_of hw1 rfl
  have HC0 := hide hc0
  have HO0 : Hid (Only (fun _ => False) w w1) := ((Only.refl _ w).alloc _).trans ho (fun _ _ e => e)
  clear hby hrow ho hw1 hc0 hz0
  go_wp2_with fail
  refine (Longest_any _ last Q s HW.out HU.out hfst (by omega) hQ _ (HPa _ (HO0.out.alloc _)).out).mono ?_
  rintro en w2 ⟨ho2, lb, L, hlb, hall, hrow2, rfl⟩
  have hz2 := ho2.size
  have hlb2 := heap_lt hrow2
  have hLl : L.length = s.size + 1 := by rw [hall.1, hlen]
  have HC1 : Hid (Cutter (w.heap.size + 1) (fun k => k = lb) w2 (w.heap.size + 1 + 3) (w.heap.size + 1 + 1) s 0 []) := HC0.out.kept ho2 (fun k hk => by subst hk; exact ⟨hlb, hlb2⟩)
  have HO1 : Hid (Only (fun _ => False) w w2) := (HO0.out.alloc _).trans ho2 (fun _ _ e => e)
  have HRow := hide hrow2
  have HLen := hide (lens_are hall HR.out HLn.out)
  have hlbw : w.heap.size + 1 ≤ lb := by simp at hlb; omega
  clear ho2 hall hrow2 HC0 HO0 HBx HPa HW HU p0 p1 hz2 hlb hz hlb2
  go_wp2
  go_loopw [14] (fun i wr => ∃ k frm xs, k ≤ s.size + 1 ∧ frm ≤ s.size ∧ i = .int .i64 (k : Nat) ∧ xs.length ≤ frm ∧ patC s.data.toList len 0 0 = xs ++ patC s.data.toList len frm (max frm k) ∧ Cutter (w.heap.size + 1) (fun k => k = lb) wr (w.heap.size + 1 + 3) (w.heap.size + 1 + 1) s frm xs ∧ wr.heap[lb]? = some (.cells (zints L).toArray 3 (0, 0)) ∧ Only (fun _ => False) w wr) (fun i _ => s.size + 1 - (intOf i).toNat)
  case atStart => exact ⟨0, 0, [], by omega, by omega, rfl, Nat.le_refl _, by simp, HC1.out, HRow.out, HO1.out⟩
  case round =>
    obtain ⟨k, frm, xs, hk, hfs, rfl, hxl, hsp, hc, hrw, ho⟩ := hrel
    have HS := hide hsp
    have HO := hide ho
    have HRw := hide hrw
    by_cases hlt : k ≤ s.size
    · have hli : (k : Int) < (L.length : Int) := by omega
      obtain ⟨z, hz1, hz2⟩ := HLen.out k (by omega)
      have cz : wr.cell? ⟨lb, k, none⟩ = some (.int .i64 z) := cell_of hrw (by rw [List.getElem?_toArray]; exact zints_get _ _ _ hz1)
      obtain ⟨v, cap2, d0, d1, d2, hown⟩ := hc.own
      by_cases hfk : frm ≤ k
      · have hfi : (frm : Int) ≤ (k : Int) := by omega
        rcases hz2 with ⟨hz2, hz3⟩ | ⟨hz2, hz3⟩
        · have hle := HLn.out.le k (by omega)
          obtain ⟨m, hm⟩ : ∃ m, len k = m := ⟨_, rfl⟩
          rw [hm] at hz3 hle
          subst hz3
          have hm0 : 0 < m := by omega
          have HS2 : Hid (patC s.data.toList len 0 0 = (xs ++ [cutL s.data.toList frm k]) ++ patC s.data.toList len (k + m) (max (k + m) (k + 1))) := by
            show _ = _
            rw [HS.out, show max frm k = k by omega, patC_hit (by omega) (by rw [hm]; exact hm0), hm, show max (k + m) (k + 1) = k + m by omega]; simp
          have hcut := cut_any (w.heap.size + 1) (fun k => k = lb) (w.heap.size + 1 + 3) (w.heap.size + 1 + 1) s frm k (k + m) xs hfk hlt (by omega) wr hc
          rw [Int.natCast_add] at hcut
          have HC := hide hcut
          clear hc ho hsp hrw hown hcut hm hz1
          go_wp2_with (go_at_call 87; refine (HC.out).mono ?_; rintro en w3 ⟨rfl, h1, h2⟩)
          go_roundw
          case rel => exact ⟨k + 1, k + m, _, by omega, by omega, by go_num, by simp; omega, HS2.out, h1, (h2.block lb (heap_lt HRw.out) (fun h => h.2 rfl)).trans HRw.out, HO.out.trans h2 (fun i hi hB => by have := hB.1; omega)⟩
          case measure => simp [intOf]; omega
        · have HS2 : Hid (patC s.data.toList len 0 0 = xs ++ patC s.data.toList len frm (max frm (k + 1))) := by
            show _ = _
            rw [HS.out, show max frm k = k by omega, show max frm (k + 1) = k + 1 by omega]
            by_cases hks : k < s.size
            · rw [patC_pass (by omega) (by omega)]
            · rw [patC_end (by omega), patC_end (by omega)]
          have HC := hide hc
          clear hc ho hsp hrw hown hz1 hz3
          go_wp2
          go_roundw
          case rel => exact ⟨k + 1, frm, xs, by omega, by omega, by go_num, hxl, HS2.out, HC.out, HRw.out, HO.out⟩
          case measure => simp [intOf]; omega
      · have hfi : ¬ (frm : Int) ≤ (k : Int) := by omega
        have HS2 : Hid (patC s.data.toList len 0 0 = xs ++ patC s.data.toList len frm (max frm (k + 1))) := by
          show _ = _
          rw [HS.out, show max frm k = frm by omega, show max frm (k + 1) = frm by omega]
        have HC := hide hc
        clear hc ho hsp hrw hown hz1 hz2
        go_wp2
        go_roundw
        case rel => exact ⟨k + 1, frm, xs, by omega, by omega, by go_num, hxl, HS2.out, HC.out, HRw.out, HO.out⟩
        case measure => simp [intOf]; omega
    · have hli : ¬ (k : Int) < (L.length : Int) := by omega
      by_cases hs0 : s.size = 0
      · have he : s.data.toList = [] := List.eq_nil_of_length_eq_zero (by omega)
        have hx0 : xs = [] := List.eq_nil_of_length_eq_zero (by omega)
        have HE : Hid (xs = P) := by show xs = P; rw [HP.out, hx0]; unfold patPieces; rw [if_pos he]
        have HRs := hide (rest_none (w.heap.size + 1) (fun k => k = lb) (w.heap.size + 1 + 3) (w.heap.size + 1 + 1) s frm xs hs0 wr hc)
        clear hc ho hsp he hx0 hrw
        go_wp2_with (go_at_call 88; refine (HRs.out).mono ?_; rintro en w3 ⟨v, rfl, h1, rfl⟩)
        go_ret
        exact ⟨_, rfl, own_base (strs_eq h1 HE.out (by rw [HE.out])) (by omega), HO.out⟩
      · have he : s.data.toList ≠ [] := fun e => by rw [e] at hlen; simp at hlen; omega
        have HE : Hid (xs ++ [cutL s.data.toList frm s.size] = P) := by
          show _ = P
          rw [HP.out]
          unfold patPieces
          rw [if_neg he, HS.out, patC_end (by omega), hlen]
        have HRs := hide (rest_some (w.heap.size + 1) (fun k => k = lb) (w.heap.size + 1 + 3) (w.heap.size + 1 + 1) s frm xs (by omega) hfs (by omega) wr hc)
        clear hc ho hsp he hrw
        go_wp2_with (go_at_call 88; refine (HRs.out).mono ?_; rintro en w3 ⟨v, rfl, h1, h2⟩)
        go_ret
        exact ⟨_, rfl, own_base (strs_eq h1 HE.out (by rw [← HE.out]; simp)) (by omega), HO.out.trans h2 (fun i hi hB => by have := hB.1; omega)⟩
end Go.Proofs.YthkknpjoifoanaaGreatDoor

namespace Go.Proofs.YthkknpjoifoanaaGreatDoor
open Go.RowKit
theorem made_none (w : World) : (w.alloc (.cells #[] 9)).ownsRow w.heap.size 9 1 (.slice (some ⟨w.heap.size, 0, none⟩) 0 0) ([] : List (List UInt8)).length (strsV []) := World.ownsRow_made w #[] 0 (Nat.le_refl _) (by unfold maxLen; omega) rfl
theorem made_at {w : World} {n B : Nat} (hn : w.heap.size = n) (hB : B ≤ n) : (w.alloc (.cells #[] 9)).ownsRow B 9 1 (.slice (some ⟨n, 0, none⟩) 0 0) ([] : List (List UInt8)).length (strsV []) := by subst hn; exact own_base (made_none w) hB
/-- What cutting answers. -/
def CutPost (t p : ByteArray) (w : World) (en : Ending) (w' : World) : Prop :=
  ∃ v L ok, en = .returned (.tuple #[v, .bool ok]) ∧ w'.ownsRow w.heap.size 9 1 v L.length (strsV L) ∧ SplitIs t.data.toList p.data.toList L (if ok then 0 else 7) ∧ Only (fun _ => False) w w'
theorem splitIs_blank {t p : List UInt8} (ht : t.length ≤ 500) (hp : p = [32]) : SplitIs t p (words [] t) 0 := by
  subst hp
  exact ⟨fun h => absurd h (by simp; omega), fun _ => ⟨fun _ => ⟨rfl, rfl⟩, fun h => by simp at h, fun c h hc => by simp at h; exact absurd h.symm hc, fun h => by simp at h⟩⟩
theorem splitIs_each {t p : List UInt8} (ht : t.length ≤ 500) (hp : p = []) : SplitIs t p (eachB t) 0 := by
  subst hp
  exact ⟨fun h => absurd h (by simp; omega), fun _ => ⟨fun h => by simp at h, fun _ => ⟨rfl, rfl⟩, fun c h => by simp at h, fun h => by simp at h⟩⟩
theorem splitIs_byte {t p : List UInt8} {c : UInt8} (ht : t.length ≤ 500) (hp : p = [c]) (hc : c ≠ 32) : SplitIs t p (if t = [] then [] else splitB c [] t) 0 := by
  subst hp
  refine ⟨fun h => absurd h (by simp; omega), fun _ => ⟨fun h => ?_, fun h => by simp at h, fun d h _ => ?_, fun h => by simp at h⟩⟩
  · simp at h; exact absurd h hc
  · simp at h; subst h; exact ⟨rfl, rfl⟩
theorem splitIs_none {t p : List UInt8} (ht : t.length ≤ 500) (hp : p.length ≤ 500) (h2 : 2 ≤ p.length) (hw : wholeP p = none) : SplitIs t p [] 7 := by
  refine ⟨fun h => absurd h (by omega), fun _ => ⟨fun h => ?_, fun h => ?_, fun d h _ => ?_, fun _ => ⟨fun _ => ⟨rfl, rfl⟩, fun R h => ?_⟩⟩⟩
  · subst h; simp at h2
  · subst h; simp at h2
  · subst h; simp at h2
  · rw [hw] at h; cases h
theorem splitIs_pat {t p : List UInt8} {R : Pat} {len : Nat → Nat} (hLn : IsLen R t len) (ht : t.length ≤ 500) (hp : p.length ≤ 500) (h2 : 2 ≤ p.length) (hw : wholeP p = some R) : SplitIs t p (patPieces len t) 0 := by
  refine ⟨fun h => absurd h (by omega), fun _ => ⟨fun h => ?_, fun h => ?_, fun d h _ => ?_, fun _ => ⟨fun h => ?_, fun S h => ?_⟩⟩⟩
  · subst h; simp at h2
  · subst h; simp at h2
  · subst h; simp at h2
  · rw [hw] at h; cases h
  · rw [hw] at h; cases h; exact ⟨⟨len, hLn, rfl⟩, rfl⟩
theorem splitIs_long {t p : List UInt8} (h : 500 < t.length ∨ 500 < p.length) : SplitIs t p [] 1 := ⟨fun _ => ⟨rfl, rfl⟩, fun h' => absurd h h'⟩
/-- The three makes of a separator. -/
theorem sep_cases (p : ByteArray) : (p.data.toList = [] ∧ p.toList.isEmpty = true ∧ (p.toList == [32]) = false ∧ ((p.size : Int) == 1) = false) ∨
    (∃ c, p.data.toList = [c] ∧ p.size = 1 ∧ p.toList.isEmpty = false ∧ ((p.size : Int) == 1) = true ∧ (c = 32 → (p.toList == [32]) = true) ∧ (c ≠ 32 → (p.toList == [32]) = false)) ∨
    (2 ≤ p.size ∧ p.toList.isEmpty = false ∧ (p.toList == [32]) = false ∧ ((p.size : Int) == 1) = false) := by
  have hlen := len_eq p
  rw [ByteArray.toList_eq]
  match hl : p.data.toList with
  | [] =>
    rw [hl] at hlen
    exact Or.inl ⟨rfl, rfl, rfl, by rw [beq_eq_false_iff_ne]; simp at hlen; omega⟩
  | [c] =>
    rw [hl] at hlen
    simp at hlen
    refine Or.inr (Or.inl ⟨c, rfl, by omega, rfl, by rw [beq_iff_eq]; omega, fun h => by subst h; rfl, fun h => ?_⟩)
    rw [beq_eq_false_iff_ne]; intro e; simp at e; exact h e
  | a :: b :: r =>
    rw [hl] at hlen
    simp at hlen
    refine Or.inr (Or.inr ⟨by omega, rfl, ?_, by rw [beq_eq_false_iff_ne]; omega⟩)
    rw [beq_eq_false_iff_ne]; intro e; simp at e
set_option maxRecDepth 100000 in
set_option maxHeartbeats 8000000 in
theorem cut27_any (t p : ByteArray) (ht : t.size ≤ 500) (hp : p.size ≤ 500) (w : World) :
    Calls Tryz.prog 24 #[.string t, .string p] w (CutPost t p w) := by
  have htl : t.data.toList.length ≤ 500 := by rw [len_eq]; exact ht
  have hpl : p.data.toList.length ≤ 500 := by rw [len_eq]; exact hp
  have HT := hide htl
  have HPl := hide hpl
  clear htl hpl
  rcases sep_cases p with ⟨h0, h1, h2, h3⟩ | ⟨c, h0, h1, h2, h3, h4, h5⟩ | ⟨h0, h1, h2, h3⟩
  · have H0 := hide h0
    clear h0
    go_enter Tryz.func24, Tryz.ntmps24
    go_wp2_with (go_at_call 47; refine (each_any t ht w).mono ?_; rintro en w1 ⟨v, rfl, hr, ho⟩; have HR := hide hr; have HO := hide ho; clear hr ho)
    go_ret2
    exact ⟨_, _, true, rfl, HR.out, splitIs_each HT.out H0.out, HO.out⟩
  · have H0 := hide h0
    by_cases hc : c = 32
    · have h6 := h4 hc
      have HC := hide hc
      clear h0 h4 h5 hc
      go_enter Tryz.func24, Tryz.ntmps24
      go_wp2_with (go_at_call 46; refine (blanks_any t ht w).mono ?_; rintro en w1 ⟨v, rfl, hr, ho⟩; have HR := hide hr; have HO := hide ho; clear hr ho)
      go_ret2
      exact ⟨_, _, true, rfl, HR.out, splitIs_blank HT.out (by rw [H0.out, HC.out]), HO.out⟩
    · have h6 := h5 hc
      have HC := hide hc
      have hpc : p[0] = c := by
        have := get_of_lt p 0 (by omega)
        rw [h0] at this
        simpa using this.symm
      have hp0 : (0 : Int) < (p.size : Int) := by omega
      have HB : Hid (Calls Tryz.prog 48 #[.string t, .int .u8 p[0].toNat] w fun en w' => ∃ v, en = .returned v ∧ w'.ownsRow w.heap.size 9 1 v (if t.data.toList = [] then [] else splitB c [] t.data.toList).length (strsV (if t.data.toList = [] then [] else splitB c [] t.data.toList)) ∧ Only (fun _ => False) w w') := by
        rw [hpc]; exact bytes_any t ht c w
      clear h0 h4 h5 hc hpc
      go_enter Tryz.func24, Tryz.ntmps24
      go_wp2_with (go_at_call 48; refine (HB.out).mono ?_; rintro en w1 ⟨v, rfl, hr, ho⟩; have HR := hide hr; have HO := hide ho; clear hr ho)
      go_ret2
      exact ⟨_, _, true, rfl, HR.out, splitIs_byte HT.out H0.out HC.out, HO.out⟩
  · have H2 : Hid (2 ≤ p.data.toList.length) := by show 2 ≤ p.data.toList.length; rw [len_eq]; exact h0
    go_enter Tryz.func24, Tryz.ntmps24
    go_wp2_with fail
    refine (read_any p (by omega) _).mono ?_
    rintro e w1 ⟨ho1, hno, hyes⟩
    have HO1 := hide ho1
    cases hc : wholeP p.data.toList with
    | none =>
      have HC := hide hc
      obtain rfl := hno hc
      have hz1 := ho1.size
      clear hno hyes hc ho1
      go_wp2
      go_ret2
      exact ⟨_, [], false, rfl, made_at (n := w1.heap.size + 1) (by simp) (by omega), splitIs_none HT.out HPl.out H2.out HC.out, (HO1.out.alloc _).alloc _⟩
    | some R =>
      have HC := hide hc
      obtain ⟨len, hLn⟩ := isLen_some R t.data.toList
      have HLn := hide hLn
      obtain ⟨v, last, Q, rfl, hp1, hp2, hp3, hp4, hp5, hone, hp6⟩ := hyes R hc
      obtain ⟨G, capS, rfl⟩ := hp1.form (by omega)
      have HP : ∀ o, Hid (PatAt (w1.alloc o) (.slice (some ⟨G, 0, none⟩) Q.length capS) Q) := fun o => by
        obtain ⟨xs, h1, h2⟩ := hp1
        exact ⟨xs, ownsRow_of h1 (fun k hk => Below.heap_alloc _ _ _ (h1.lt k hk).2), h2⟩
      have HA := hide hp6
      have HW := hide hp5
      have hz1 := ho1.size
      clear hno hyes hc ho1 hp1 hp2 hp5 hp6 hLn
      go_wp2_with fail
      refine (between_any _ last Q R t HW.out hone HA.out hp4 ht hp3 HLn.out _ (HP _).out).mono ?_
      rintro e w2 ⟨v2, rfl, hr, ho2⟩
      have HR := hide hr
      have HO2 := hide ho2
      clear hr ho2
      go_wp2
      go_ret2
      exact ⟨_, _, true, rfl, own_base HR.out (by simp; omega), splitIs_pat HLn.out HT.out HPl.out H2.out HC.out, (HO1.out.alloc _).trans HO2.out (fun _ _ e => e)⟩
/-- What splitting answers. -/
def SplitPost (t p : ByteArray) (w : World) (en : Ending) (w' : World) : Prop :=
  ∃ v L n, en = .returned (.tuple #[v, .int .i64 (n : Nat)]) ∧ w'.ownsRow w.heap.size 9 1 v L.length (strsV L) ∧ SplitIs t.data.toList p.data.toList L n ∧ Only (fun _ => False) w w'
set_option maxRecDepth 100000 in
set_option maxHeartbeats 8000000 in
theorem split_any (t p : ByteArray) (w : World) : Calls Tryz.prog 14 #[.string t, .string p] w (SplitPost t p w) := by
  by_cases h1 : 500 < t.size
  · have HL : Hid (500 < t.data.toList.length ∨ 500 < p.data.toList.length) := by left; rw [len_eq]; exact h1
    go_enter Tryz.func14, Tryz.ntmps14
    go_wp2_with (go_at_call 16; refine (long_yes t h1 _).mono ?_; rintro e w' ⟨rfl, rfl⟩)
    go_ret2
    exact ⟨_, [], 1, rfl, made_none _, splitIs_long HL.out, (Only.refl _ _).alloc _⟩
  · by_cases h2 : 500 < p.size
    · have HL : Hid (500 < t.data.toList.length ∨ 500 < p.data.toList.length) := by right; rw [len_eq]; exact h2
      go_enter Tryz.func14, Tryz.ntmps14
      go_wp2_with fail
      refine (long_no t h1 _).mono ?_
      rintro e w' ⟨rfl, rfl⟩
      go_wp2_with fail
      refine (long_yes p h2 _).mono ?_
      rintro e w' ⟨rfl, rfl⟩
      go_wp2
      go_ret2
      exact ⟨_, [], 1, rfl, made_none _, splitIs_long HL.out, (Only.refl _ _).alloc _⟩
    · go_enter Tryz.func14, Tryz.ntmps14
      go_wp2_with fail
      refine (long_no t h1 _).mono ?_
      rintro e w' ⟨rfl, rfl⟩
      go_wp2_with fail
      refine (long_no p h2 _).mono ?_
      rintro e w' ⟨rfl, rfl⟩
      go_wp2_with fail
      refine (cut27_any t p (by omega) (by omega) _).mono ?_
      rintro e w1 ⟨v, L, ok, rfl, hr, hs, ho⟩
      have HR := hide hr
      have HS := hide hs
      have HO := hide ho
      have hz := ho.size
      clear hr hs ho
      cases ok with
      | true =>
        go_wp2
        go_ret2
        exact ⟨_, L, 0, rfl, HR.out, HS.out, HO.out⟩
      | false =>
        have HE : Hid (SplitIs t.data.toList p.data.toList [] 7) := by
          have h7 : SplitIs t.data.toList p.data.toList L 7 := HS.out
          have hl : L = [] := by
            by_cases hl : 500 < t.data.toList.length ∨ 500 < p.data.toList.length
            · exact (h7.1 hl).1
            · obtain ⟨a1, a2, a3, a4⟩ := h7.2 hl
              match hp : p.data.toList with
              | [] => have := (a2 hp).2; omega
              | [c] =>
                by_cases hc : c = 32
                · have := (a1 (by rw [hp, hc])).2; omega
                · have := (a3 c hp hc).2; omega
              | a :: b :: r =>
                obtain ⟨a5, a6⟩ := a4 (by rw [hp]; simp)
                cases hw : wholeP p.data.toList with
                | none => exact (a5 hw).1
                | some R => have := (a6 R hw).2; omega
          rw [hl] at h7; exact h7
        go_wp2
        go_ret2
        exact ⟨_, [], 7, rfl, own_base (made_none _) (by omega), HE.out, HO.out.alloc _⟩
end Go.Proofs.YthkknpjoifoanaaGreatDoor

