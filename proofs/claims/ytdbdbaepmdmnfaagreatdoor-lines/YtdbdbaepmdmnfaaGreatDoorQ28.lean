import Derived.Test.YtdbdbaepmdmnfaaGreatDoorQ27
namespace Go.Proofs.YtdbdbaepmdmnfaaGreatDoor
open Go.RowKit
theorem made_none (w : World) : (w.alloc (.cells #[] 9)).ownsRow w.heap.size 9 1 (.slice (some ⟨w.heap.size, 0, none⟩) 0 0) ([] : List (List UInt8)).length (strsV []) := World.ownsRow_made w #[] 0 (Nat.le_refl _) (by unfold maxLen; omega) rfl
theorem made_at {w : World} {n B : Nat} (hn : w.heap.size = n) (hB : B ≤ n) : (w.alloc (.cells #[] 9)).ownsRow B 9 1 (.slice (some ⟨n, 0, none⟩) 0 0) ([] : List (List UInt8)).length (strsV []) := by subst hn; exact own_base (made_none w) hB
/-- What cutting answers. -/
def CutPost (t p : ByteArray) (w : World) (en : Ending) (w' : World) : Prop :=
  ∃ v L ok, en = .returned (.tuple #[v, .bool ok]) ∧ w'.ownsRow w.heap.size 9 1 v L.length (strsV L) ∧ SplitIs t.data.toList p.data.toList L (if ok then 0 else 7) ∧ Only (fun _ => False) w w'
theorem splitIs_blank {t p : List UInt8} (ht : t.length ≤ 500) (hp : p = [32]) : SplitIs t p (words [] t) 0 := by
  subst hp
  exact ⟨fun h => absurd h (by simp; omega), fun _ => ⟨fun _ => ⟨rfl, rfl⟩, fun h => by simp at h, fun c h hc => by simp at h; exact absurd h.symm hc, fun h => by simp at h⟩⟩
theorem splitIs_each {t p : List UInt8} (ht : t.length ≤ 500) (hp : p = []) : SplitIs t p (eachB t) 0 := by
  subst hp
  exact ⟨fun h => absurd h (by simp; omega), fun _ => ⟨fun h => by simp at h, fun _ => ⟨rfl, rfl⟩, fun c h => by simp at h, fun h => by simp at h⟩⟩
theorem splitIs_byte {t p : List UInt8} {c : UInt8} (ht : t.length ≤ 500) (hp : p = [c]) (hc : c ≠ 32) : SplitIs t p (if t = [] then [] else splitB c [] t) 0 := by
  subst hp
  refine ⟨fun h => absurd h (by simp; omega), fun _ => ⟨fun h => ?_, fun h => by simp at h, fun d h _ => ?_, fun h => by simp at h⟩⟩
  · simp at h; exact absurd h hc
  · simp at h; subst h; exact ⟨rfl, rfl⟩
theorem splitIs_none {t p : List UInt8} (ht : t.length ≤ 500) (hp : p.length ≤ 500) (h2 : 2 ≤ p.length) (hw : wholeP p = none) : SplitIs t p [] 7 := by
  refine ⟨fun h => absurd h (by omega), fun _ => ⟨fun h => ?_, fun h => ?_, fun d h _ => ?_, fun _ => ⟨fun _ => ⟨rfl, rfl⟩, fun R h => ?_⟩⟩⟩
  · subst h; simp at h2
  · subst h; simp at h2
  · subst h; simp at h2
  · rw [hw] at h; cases h
theorem splitIs_pat {t p : List UInt8} {R : Pat} {len : Nat → Nat} (hLn : IsLen R t len) (ht : t.length ≤ 500) (hp : p.length ≤ 500) (h2 : 2 ≤ p.length) (hw : wholeP p = some R) : SplitIs t p (patPieces len t) 0 := by
  refine ⟨fun h => absurd h (by omega), fun _ => ⟨fun h => ?_, fun h => ?_, fun d h _ => ?_, fun _ => ⟨fun h => ?_, fun S h => ?_⟩⟩⟩
  · subst h; simp at h2
  · subst h; simp at h2
  · subst h; simp at h2
  · rw [hw] at h; cases h
  · rw [hw] at h; cases h; exact ⟨⟨len, hLn, rfl⟩, rfl⟩
/-- The three makes of a separator. -/
theorem sep_cases (p : ByteArray) : (p.data.toList = [] ∧ p.toList.isEmpty = true ∧ (p.toList == [32]) = false ∧ ((p.size : Int) == 1) = false) ∨
    (∃ c, p.data.toList = [c] ∧ p.size = 1 ∧ p.toList.isEmpty = false ∧ ((p.size : Int) == 1) = true ∧ (c = 32 → (p.toList == [32]) = true) ∧ (c ≠ 32 → (p.toList == [32]) = false)) ∨
    (2 ≤ p.size ∧ p.toList.isEmpty = false ∧ (p.toList == [32]) = false ∧ ((p.size : Int) == 1) = false) := by
  have hlen := len_eq p
  rw [ByteArray.toList_eq]
  match hl : p.data.toList with
  | [] =>
    rw [hl] at hlen
    exact Or.inl ⟨rfl, rfl, rfl, by rw [beq_eq_false_iff_ne]; simp at hlen; omega⟩
  | [c] =>
    rw [hl] at hlen
    simp at hlen
    refine Or.inr (Or.inl ⟨c, rfl, by omega, rfl, by rw [beq_iff_eq]; omega, fun h => by subst h; rfl, fun h => ?_⟩)
    rw [beq_eq_false_iff_ne]; intro e; simp at e; exact h e
  | a :: b :: r =>
    rw [hl] at hlen
    simp at hlen
    refine Or.inr (Or.inr ⟨by omega, rfl, ?_, by rw [beq_eq_false_iff_ne]; omega⟩)
    rw [beq_eq_false_iff_ne]; intro e; simp at e
set_option maxRecDepth 100000 in
set_option maxHeartbeats 8000000 in
theorem cut27_any (t p : ByteArray) (ht : t.size ≤ 500) (hp : p.size ≤ 500) (w : World) :
    Calls Tryz.prog 27 #[.string t, .string p] w (CutPost t p w) := by
  have htl : t.data.toList.length ≤ 500 := by rw [len_eq]; exact ht
  have hpl : p.data.toList.length ≤ 500 := by rw [len_eq]; exact hp
  have HT := hide htl
  have HPl := hide hpl
  clear htl hpl
  rcases sep_cases p with ⟨h0, h1, h2, h3⟩ | ⟨c, h0, h1, h2, h3, h4, h5⟩ | ⟨h0, h1, h2, h3⟩
  · have H0 := hide h0
    clear h0
    go_enter Tryz.func27, Tryz.ntmps27
    go_wp2_with (go_at_call 37; refine (each_any t ht w).mono ?_; rintro en w1 ⟨v, rfl, hr, ho⟩; have HR := hide hr; have HO := hide ho; clear hr ho)
    go_ret2
    exact ⟨_, _, true, rfl, HR.out, splitIs_each HT.out H0.out, HO.out⟩
  · have H0 := hide h0
    by_cases hc : c = 32
    · have h6 := h4 hc
      have HC := hide hc
      clear h0 h4 h5 hc
      go_enter Tryz.func27, Tryz.ntmps27
      go_wp2_with (go_at_call 36; refine (blanks_any t ht w).mono ?_; rintro en w1 ⟨v, rfl, hr, ho⟩; have HR := hide hr; have HO := hide ho; clear hr ho)
      go_ret2
      exact ⟨_, _, true, rfl, HR.out, splitIs_blank HT.out (by rw [H0.out, HC.out]), HO.out⟩
    · have h6 := h5 hc
      have HC := hide hc
      have hpc : p[0] = c := by
        have := get_of_lt p 0 (by omega)
        rw [h0] at this
        simpa using this.symm
      have hp0 : (0 : Int) < (p.size : Int) := by omega
      have HB : Hid (Calls Tryz.prog 38 #[.string t, .int .u8 p[0].toNat] w fun en w' => ∃ v, en = .returned v ∧ w'.ownsRow w.heap.size 9 1 v (if t.data.toList = [] then [] else splitB c [] t.data.toList).length (strsV (if t.data.toList = [] then [] else splitB c [] t.data.toList)) ∧ Only (fun _ => False) w w') := by
        rw [hpc]; exact bytes_any t ht c w
      clear h0 h4 h5 hc hpc
      go_enter Tryz.func27, Tryz.ntmps27
      go_wp2_with (go_at_call 38; refine (HB.out).mono ?_; rintro en w1 ⟨v, rfl, hr, ho⟩; have HR := hide hr; have HO := hide ho; clear hr ho)
      go_ret2
      exact ⟨_, _, true, rfl, HR.out, splitIs_byte HT.out H0.out HC.out, HO.out⟩
  · have H2 : Hid (2 ≤ p.data.toList.length) := by show 2 ≤ p.data.toList.length; rw [len_eq]; exact h0
    go_enter Tryz.func27, Tryz.ntmps27
    go_wp2_with fail
    refine (read_any p (by omega) _).mono ?_
    rintro e w1 ⟨ho1, hno, hyes⟩
    have HO1 := hide ho1
    cases hc : wholeP p.data.toList with
    | none =>
      have HC := hide hc
      obtain rfl := hno hc
      have hz1 := ho1.size
      clear hno hyes hc ho1
      go_wp2
      go_ret2
      exact ⟨_, [], false, rfl, made_at (n := w1.heap.size + 1) (by simp) (by omega), splitIs_none HT.out HPl.out H2.out HC.out, (HO1.out.alloc _).alloc _⟩
    | some R =>
      have HC := hide hc
      obtain ⟨len, hLn⟩ := isLen_some R t.data.toList
      have HLn := hide hLn
      obtain ⟨v, last, Q, rfl, hp1, hp2, hp3, hp4, hp5, hone, hp6⟩ := hyes R hc
      obtain ⟨G, capS, rfl⟩ := hp1.form (by omega)
      have HP : ∀ o, Hid (PatAt (w1.alloc o) (.slice (some ⟨G, 0, none⟩) Q.length capS) Q) := fun o => by
        obtain ⟨xs, h1, h2⟩ := hp1
        exact ⟨xs, ownsRow_of h1 (fun k hk => Below.heap_alloc _ _ _ (h1.lt k hk).2), h2⟩
      have HA := hide hp6
      have HW := hide hp5
      have hz1 := ho1.size
      clear hno hyes hc ho1 hp1 hp2 hp5 hp6 hLn
      go_wp2_with fail
      refine (between_any _ last Q R t HW.out hone HA.out hp4 ht hp3 HLn.out _ (HP _).out).mono ?_
      rintro e w2 ⟨v2, rfl, hr, ho2⟩
      have HR := hide hr
      have HO2 := hide ho2
      clear hr ho2
      go_wp2
      go_ret2
      exact ⟨_, _, true, rfl, own_base HR.out (by simp; omega), splitIs_pat HLn.out HT.out HPl.out H2.out HC.out, (HO1.out.alloc _).trans HO2.out (fun _ _ e => e)⟩
end Go.Proofs.YtdbdbaepmdmnfaaGreatDoor
