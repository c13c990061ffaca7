import Derived.Test.YthhiofppbpgipaaGreatDoorRItem
import Derived.Test.YthhiofppbpgipaaGreatDoorFWalkD
namespace Go.Proofs.YthhiofppbpgipaaGreatDoor
open Go.RowKit

theorem isAt_some {l : List UInt8} {k : Nat} {c : Int} (h : isAt l k c = true) : ∃ x, l[k]? = some x ∧ (x.toNat : Int) = c := by
  unfold isAt at h
  cases hx : l[k]? with
  | none => simp [hx] at h
  | some x => simp [hx] at h; exact ⟨x, rfl, h⟩
theorem pct_facts {l : List UInt8} {k : Nat} (h : isAt l k 37 = true) : itDot l k = false ∧ pE l k = k ∧ (itLetter l k).toNat = 37 ∧ itOk l k = false := by
  obtain ⟨x, hx, hc⟩ := isAt_some h
  have hf : fE l k = k := runTo_stop (fun c hc' => by
    rw [hx] at hc'; cases hc'
    unfold flagB; rw [hc]; rfl)
  have hd : digAt l k = false := by unfold digAt; rw [hx]; show digB x = false; unfold digB; rw [show x.toNat = 37 by omega]; rfl
  have hm : d2m l k = 0 := by unfold d2m; rw [hd]; rfl
  have hw : wE l k = k := by unfold wE; rw [hf, hm]; rfl
  have hdot : itDot l k = false := by unfold itDot; rw [hw]; unfold isAt; rw [hx]; show ((x.toNat : Int) == 46) = false; rw [hc]; rfl
  have hp : pE l k = k := by rw [pE_nodot hdot, hw]
  have hl : (itLetter l k).toNat = 37 := by unfold itLetter; rw [hp, hx]; show x.toNat = 37; omega
  refine ⟨hdot, hp, hl, ?_⟩
  unfold itOk; rw [hl]
  cases itDot l k <;> simp [knownB]
theorem refItem_pctx (s : ByteArray) (i : Nat) (w : World) (hs : s.size ≤ 65536) (h : isAt s.data.toList (i + 1) 37 = true) :
    Calls Tryz.prog 71 #[.string s, .int .i64 i] w fun e w' => e = .returned (.agg #[.bool (itLeft s.data.toList (i + 1)), .bool (itZero s.data.toList (i + 1)), .int .i64 (itWidth s.data.toList (i + 1)), .int .i64 (-1), .int .i64 2, .int .u8 37]) ∧ Below w.heap.size w w' := by
  obtain ⟨h1, h2, h3, _⟩ := pct_facts h
  have hlt := isAt_ltB h
  rw [len_eq] at hlt
  have := refItem_pct s i w hs (by omega) h1 (by rw [h2]; exact hlt) (by rw [h3]; rfl) h2
  rw [h3, h2] at this
  rw [show (((i + 1 : Nat) : Int) + 1 - i) = 2 by omega] at this
  exact this
theorem refItem_ok (s : ByteArray) (i : Nat) (w : World) (hs : s.size ≤ 65536) (hk : i + 1 ≤ s.size) (ho : itOk s.data.toList (i + 1) = true) :
    Calls Tryz.prog 71 #[.string s, .int .i64 i] w fun e w' => e = .returned (.agg #[.bool (itLeft s.data.toList (i + 1)), .bool (itZero s.data.toList (i + 1)), .int .i64 (itWidth s.data.toList (i + 1)), .int .i64 (itPr s.data.toList (i + 1)), .int .i64 (pE s.data.toList (i + 1) + 1 - i), .int .u8 (itLetter s.data.toList (i + 1)).toNat]) ∧ Below w.heap.size w w' := by
  simp only [itOk, Bool.and_eq_true, decide_eq_true_eq, knownB, Bool.or_eq_true, beq_iff_eq] at ho
  obtain ⟨hp, hkn⟩ := ho
  rw [len_eq] at hp
  cases hd : itDot s.data.toList (i + 1)
  · rw [hd] at hkn
    rw [show itPr s.data.toList (i + 1) = -1 by unfold itPr; rw [hd]; rfl]
    by_cases h1 : ((itLetter s.data.toList (i + 1)).toNat : Int) = 115
    · exact refItem_s s i w hs hk hd hp (by rw [h1]; rfl) (by rw [h1]; rfl)
    · by_cases h2 : ((itLetter s.data.toList (i + 1)).toNat : Int) = 100
      · exact refItem_d s i w hs hk hd hp (by rw [h2]; rfl) (by rw [h2]; rfl) (by rw [h2]; rfl)
      · by_cases h3 : ((itLetter s.data.toList (i + 1)).toNat : Int) = 120
        · exact refItem_x s i w hs hk hd hp (by rw [h3]; rfl) (by rw [h3]; rfl) (by rw [h3]; rfl) (by rw [h3]; rfl)
        · have h4 : ((itLetter s.data.toList (i + 1)).toNat : Int) = 99 := by simp [h1, h2, h3] at hkn; omega
          exact refItem_c s i w hs hk hd hp (by rw [h4]; rfl) (by rw [h4]; rfl) (by rw [h4]; rfl) (by rw [h4]; rfl) (by rw [h4]; rfl)
  · rw [hd] at hkn
    rw [show itPr s.data.toList (i + 1) = (itPrec s.data.toList (i + 1) : Int) by unfold itPr; rw [hd]; rfl]
    have h1 : ((itLetter s.data.toList (i + 1)).toNat : Int) = 115 := by simpa using hkn
    exact refItem_dot_s s i w hs hk hd hp (by rw [h1]; rfl) (by rw [h1]; rfl)
theorem refItem_bad (s : ByteArray) (i : Nat) (w : World) (hs : s.size ≤ 65536) (hk : i + 1 ≤ s.size) (h37 : isAt s.data.toList (i + 1) 37 = false) (ho : itOk s.data.toList (i + 1) = false) :
    Calls Tryz.prog 71 #[.string s, .int .i64 i] w fun e w' => e = .returned (.agg #[.bool false, .bool false, .int .i64 0, .int .i64 0, .int .i64 0, .int .u8 0]) ∧ Below w.heap.size w w' := by
  have hle := pE_le (l := s.data.toList) (k := i + 1) (by rw [len_eq]; exact hk)
  rw [len_eq] at hle
  by_cases hp : pE s.data.toList (i + 1) < s.size
  · have hkn : knownB (itLetter s.data.toList (i + 1)).toNat (itDot s.data.toList (i + 1)) = false := by
      cases h : knownB (itLetter s.data.toList (i + 1)).toNat (itDot s.data.toList (i + 1))
      · rfl
      · simp [itOk, hp, h] at ho
    have hlen : ((itLetter s.data.toList (i + 1)).toNat : Int) = 37 → pE s.data.toList (i + 1) ≠ i + 1 := by
      intro h he
      have hl := itLetter_lt s (i + 1) _ rfl hp
      have : isAt s.data.toList (i + 1) 37 = true := by
        rw [isAt_lt s (i + 1) 37 (by omega)]
        have e : s[pE s.data.toList (i + 1)] = s[i + 1]'(by omega) := by congr 1
        rw [← e, ← hl, h]; rfl
      rw [this] at h37; cases h37
    have bf : ∀ c : Int, ((itLetter s.data.toList (i + 1)).toNat : Int) ≠ c → (((itLetter s.data.toList (i + 1)).toNat : Int) == c) = false := fun c h => by rw [beq_eq_false_iff_ne]; exact h
    simp only [knownB, Bool.or_eq_false_iff] at hkn
    cases hd : itDot s.data.toList (i + 1)
    · rw [hd] at hkn
      simp at hkn
      by_cases h : ((itLetter s.data.toList (i + 1)).toNat : Int) = 37
      · exact refItem_none37 s i w hs hk hd hp (by rw [h]; rfl) (hlen h) (by rw [h]; rfl) (by rw [h]; rfl) (by rw [h]; rfl) (by rw [h]; rfl)
      · exact refItem_none s i w hs hk hd hp (bf _ h) (bf _ (by omega)) (bf _ (by omega)) (bf _ (by omega)) (bf _ (by omega))
    · by_cases h : ((itLetter s.data.toList (i + 1)).toNat : Int) = 37
      · exact refItem_dot_no37 s i w hs hk hd hp (by rw [h]; rfl) (hlen h) (by rw [h]; rfl)
      · exact refItem_dot_no s i w hs hk hd hp (bf _ h) hkn.1
  · cases hd : itDot s.data.toList (i + 1)
    · exact refItem_nodot_end s i w hs hk hd (by omega)
    · exact refItem_dot_end s i w hs hk hd (by omega)
end Go.Proofs.YthhiofppbpgipaaGreatDoor
