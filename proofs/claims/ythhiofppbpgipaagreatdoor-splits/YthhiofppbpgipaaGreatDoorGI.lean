import Derived.Test.YthhiofppbpgipaaGreatDoorGH
import Derived.Test.YthhiofppbpgipaaGreatDoorGC
namespace Go.Proofs.YthhiofppbpgipaaGreatDoor
open Go.RowKit
/-- The lengths of the places beyond p are told; those ahead of it are not yet. -/
def LsOK (Q : List St) (t : List UInt8) (last p : Nat) (ls : List Int) : Prop :=
  ls.length = t.length + 1 ∧ (∀ k, p < k → k ≤ t.length → ∃ b, LenAt Q t last k b ∧ ls[k]? = some (lenV k b)) ∧ ∀ k, k < p → ls[k]? = some (-1)
/-- What holds of a search at place p; the ends from h on were followed; open and next are vO and vN. -/
def RunI (w0 wr : World) (sb rb lb bs : Nat) (vS : Value) (Q : List St) (t : List UInt8) (ls : List Int) (last p h : Nat) (vO vN : Value) (O : List (Nat × Nat)) (best : Option Nat) : Prop :=
  ∃ (rv : List Nat) (vK : Value) (stk : List Nat) (N : List (Nat × Nat)), Srch wr sb rb lb bs vS Q ls p rv vK stk best ∧ wr.ownsRow bs 327 2 vO O.length (thr O) ∧ wr.ownsRow bs 327 2 vN N.length (thr N) ∧ (∀ k, vO.ownBlock = some k → vN.ownBlock ≠ some k) ∧
    RInv Q t last p h (fun q => rv[q]? = some (p + 1)) O best ∧ (∀ (k x : Nat), rv[k]? = some x → x = 0 ∨ p + 1 ≤ x) ∧ O.length + unm rv (p + 1) ≤ Q.length ∧ Only (fun k => k = sb ∨ (k = rb ∨ k = lb)) w0 wr ∧ MovedB w0 (.slice none 0 0) vK ∧ MovedB w0 (.slice none 0 0) vO ∧ MovedB w0 (.slice none 0 0) vN
/-- While the threads of place p + 1 are gone through: the first i of O were. -/
def InI (w0 wr : World) (sb rb lb bs : Nat) (vS : Value) (Q : List St) (t : List UInt8) (ls : List Int) (p : Nat) (vO : Value) (O : List (Nat × Nat)) (i : Nat) (vN : Value) (best : Option Nat) : Prop :=
  ∃ (rv : List Nat) (vK : Value) (stk : List Nat) (N : List (Nat × Nat)), Srch wr sb rb lb bs vS Q ls p rv vK stk best ∧ wr.ownsRow bs 327 2 vO O.length (thr O) ∧ wr.ownsRow bs 327 2 vN N.length (thr N) ∧ (∀ k, vO.ownBlock = some k → vN.ownBlock ≠ some k) ∧
    PInv Q t p (srcOf Q t p (O.take i)) (fun q => rv[q]? = some (p + 1)) N best ∧ (∀ (k x : Nat), rv[k]? = some x → x = 0 ∨ p + 1 ≤ x) ∧ N.length + unm rv (p + 1) ≤ Q.length ∧ Only (fun k => k = sb ∨ (k = rb ∨ k = lb)) w0 wr ∧ MovedB w0 (.slice none 0 0) vK ∧ MovedB w0 (.slice none 0 0) vO ∧ MovedB w0 (.slice none 0 0) vN
theorem movedNil {w : World} {v : Value} (h : MovedB w (.slice none 0 0) v) : ∀ k, v.ownBlock = some k → w.heap.size ≤ k := by
  intro k hk
  rcases h with h | ⟨G, h, h2⟩
  · rw [h] at hk; cases hk
  · rw [h] at hk; cases hk; exact h2
/-- What else lies in memory stands while a thread is followed. -/
theorem follow_frame {w0 w w' : World} {sb rb lb bs : Nat} {vS : Value} {Q : List St} {ls : List Int} {p : Nat} {rv : List Nat} {vK : Value} {stk : List Nat} {best : Option Nat} {vO vN vK1 vO1 : Value} {n : Nat} {xs : List Value} {n1 : Nat} {xs1 : List Value}
    (hS : Srch w sb rb lb bs vS Q ls p rv vK stk best) (hN : w.ownsRow bs 327 2 vN n xs) (hap : ∀ k, vO.ownBlock = some k → vN.ownBlock ≠ some k) (ho : Only (fun k => k = sb ∨ (k = rb ∨ k = lb) ∨ some k = vK.ownBlock ∨ some k = vO.ownBlock) w w')
    (_hO1 : w'.ownsRow bs 327 2 vO1 n1 xs1) (hk1 : MovedB w vK vK1) (ho1 : MovedB w vO vO1) (h0 : Only (fun k => k = sb ∨ (k = rb ∨ k = lb)) w0 w) (mK : MovedB w0 (.slice none 0 0) vK) (mO : MovedB w0 (.slice none 0 0) vO) :
    w'.ownsRow bs 327 2 vN n xs ∧ (∀ k, vO1.ownBlock = some k → vN.ownBlock ≠ some k) ∧ Only (fun k => k = sb ∨ (k = rb ∨ k = lb)) w0 w' ∧ MovedB w0 (.slice none 0 0) vK1 ∧ MovedB w0 (.slice none 0 0) vO1 := by
  have hrs := hS.rs
  refine ⟨ownsRow_of hN (fun k hk => ho.block k (hN.lt k hk).2 ?_), fun k hk e => ?_, h0.trans ho (fun i hi e => ?_), mK.trans h0.size hk1, mO.trans h0.size ho1⟩
  · have := (hN.lt k hk).1
    rintro (e | e | e | e)
    · omega
    · omega
    · exact rows_apart hN hS.own (by decide) k hk e.symm
    · exact hap k e.symm hk
  · rcases ho1 with e1 | ⟨G, e1, e2⟩
    · rw [e1] at hk; exact hap k hk e
    · rw [e1] at hk; cases hk
      have := (hN.lt _ e).2
      omega
  · rcases e with e | e | e | e
    · exact Or.inl e
    · exact Or.inr e
    · have := movedNil mK i e.symm; omega
    · have := movedNil mO i e.symm; omega
theorem row_none {w : World} {B : Nat} {e : TypeId} {z : Nat} {po : Option Addr} {n cap n' : Nat} {xs : List Value} (h : w.ownsRow B e z (.slice po n cap) n' xs) : w.ownsRow B e z (.slice po 0 cap) 0 [] := by
  refine ⟨by simp, ?_⟩
  rcases h.2 with ⟨e1, e2⟩ | ⟨g, cap', cur, hv, h3, h4, h5, h6, h7, h8⟩
  · cases e1
    exact Or.inl ⟨rfl, rfl⟩
  · cases hv
    exact Or.inr ⟨g, cap, cur, rfl, h3, h4, Nat.zero_le _, h6, h7, by simp⟩
theorem RunI.begin {w : World} {sb rb lb bs : Nat} {vS : Value} {Q : List St} {t : List UInt8} {ls : List Int} {last : Nat} {rv : List Nat} (h : Srch w sb rb lb bs vS Q ls t.length rv (.slice none 0 0) [] none) (hrv : ∀ (k x : Nat), rv[k]? = some x → x = 0) :
    RunI w w sb rb lb bs vS Q t ls last t.length (t.length + 1) (.slice none 0 0) (.slice none 0 0) [] none :=
  ⟨rv, .slice none 0 0, [], [], h, World.ownsRow_nil _ _ _ _, World.ownsRow_nil _ _ _ _, (fun k hk => by cases hk), RInv.begin _ (fun q hq => by have := hrv _ _ hq; omega), (fun k x hx => Or.inl (hrv k x hx)), by have := unm_le rv (t.length + 1); rw [h.len] at this; simpa using this, Only.refl _ _, MovedB.refl _ _, MovedB.refl _ _, MovedB.refl _ _⟩
/-- The threads that came on are the open ones at the next place. -/
theorem InI.next {w0 wr : World} {sb rb lb bs : Nat} {vS : Value} {Q : List St} {t : List UInt8} {ls : List Int} {last p : Nat} {vO : Value} {O : List (Nat × Nat)} {best0 : Option Nat} {vN : Value} {best : Option Nat} {M : Nat → Prop}
    (h : InI w0 wr sb rb lb bs vS Q t ls p vO O O.length vN best) (hR : RInv Q t last (p + 1) (p + 1) M O best0) :
    ∃ N, RunI w0 wr sb rb lb bs vS Q t ls last p (p + 1) vN vO N best := by
  obtain ⟨rv, vK, stk, N, h1, h2, h3, h4, h5, h6, h7, h8, h9, h10, h11⟩ := h
  rw [List.take_length] at h5
  exact ⟨N, rv, vK, stk, O, h1, h3, h2, fun k hk e => h4 k e hk, RInv.next hR h5, h6, h7, h8, h9, h11, h10⟩
theorem LsOK.next {Q t last p ls b} (h : LsOK Q t last (p + 1) ls) (hp : p + 1 ≤ t.length) (hb : LenAt Q t last (p + 1) b) : LsOK Q t last p (ls.set (p + 1) (lenV (p + 1) b)) := by
  obtain ⟨h1, h2, h3⟩ := h
  refine ⟨by rw [List.length_set]; exact h1, fun k hk hl => ?_, fun k hk => ?_⟩
  · by_cases e : k = p + 1
    · subst e
      exact ⟨b, hb, List.getElem?_set_self (by omega)⟩
    · obtain ⟨c, h4, h5⟩ := h2 k (by omega) hl
      exact ⟨c, h4, by rw [List.getElem?_set_ne (fun h => e h.symm)]; exact h5⟩
  · rw [List.getElem?_set_ne (by omega)]
    exact h3 k (by omega)
/-- What is told of all places. -/
def AllLen (Q : List St) (t : List UInt8) (last : Nat) (L : List Int) : Prop := L.length = t.length + 1 ∧ ∀ k, k ≤ t.length → ∃ b, LenAt Q t last k b ∧ L[k]? = some (lenV k b)
theorem LsOK.all {Q t last ls b} (h : LsOK Q t last 0 ls) (hb : LenAt Q t last 0 b) : AllLen Q t last (ls.set 0 (lenV 0 b)) := by
  obtain ⟨h1, h2, h3⟩ := h
  refine ⟨by rw [List.length_set]; exact h1, fun k hl => ?_⟩
  by_cases e : k = 0
  · subst e
    exact ⟨b, hb, List.getElem?_set_self (by omega)⟩
  · obtain ⟨c, h4, h5⟩ := h2 k (by omega) hl
    exact ⟨c, h4, by rw [List.getElem?_set_ne (fun h => e h.symm)]; exact h5⟩
theorem thr_len (l : List (Nat × Nat)) : (thr l).length = 2 * l.length := by
  induction l with
  | nil => rfl
  | cons a l ih => simp [thr] at ih ⊢; omega
theorem thr_get (l : List (Nat × Nat)) (i q b : Nat) (h : l[i]? = some (q, b)) : (thr l)[i * 2]? = some (.int .i64 q) ∧ (thr l)[i * 2 + 1]? = some (.int .i64 b) := by
  induction l generalizing i with
  | nil => simp at h
  | cons a l ih =>
    cases i with
    | zero =>
      simp at h
      subst h
      simp [thr]
    | succ i =>
      simp at h
      have := ih i h
      rw [show (i + 1) * 2 = i * 2 + 2 by omega, show i * 2 + 2 + 1 = (i * 2 + 1) + 2 by omega]
      simpa [thr] using this
theorem thr_cell {w : World} {B GO n cap : Nat} {O : List (Nat × Nat)} {i q b : Nat} (h : w.ownsRow B 327 2 (.slice (some ⟨GO, 0, none⟩) n cap) O.length (thr O)) (hi : O[i]? = some (q, b)) : w.cell? ⟨GO, i * 2, none⟩ = some (.int .i64 q) ∧ w.cell? ⟨GO, i * 2 + 1, none⟩ = some (.int .i64 b) := by
  have key : ∀ j u, (thr O)[j]? = some u → w.cell? ⟨GO, j, none⟩ = some u := fun j u hj => by
    have := h.cells (g := GO) rfl j u hj
    unfold Addr.add at this
    split at this
    · rename_i h0; rw [h0]; exact this
    · simpa using this
  exact ⟨key _ _ (thr_get O i q b hi).1, key _ _ (thr_get O i q b hi).2⟩
end Go.Proofs.YthhiofppbpgipaaGreatDoor

namespace Go.Proofs.YthhiofppbpgipaaGreatDoor
open Go.RowKit
theorem src_nil (Q : List St) (t : List UInt8) (p : Nat) : srcOf Q t p [] = fun _ _ => False := by
  funext q b
  simp [srcOf]
theorem step_byte {Q : List St} {t : List UInt8} {q p r : Nat} {st : St} {c : UInt8} (hq : Q[q]? = some st) (hk : st.kind = 0) (hc : t[p]? = some c) : Step Q t q (p + 1) r p ↔ st.set c = true ∧ r = st.next := by
  constructor
  · rintro ⟨s, h, h1 | h1 | h1 | h1⟩
    · rw [hq] at h; cases h
      obtain ⟨_, c', h2, h3, h4, _⟩ := h1
      rw [hc] at h2; cases h2
      exact ⟨h3, h4⟩
    · omega
    · omega
    · omega
  · rintro ⟨h1, rfl⟩
    exact ⟨st, hq, Or.inl ⟨hk, c, hc, h1, rfl, rfl⟩⟩
theorem take_push {O : List (Nat × Nat)} {i q b : Nat} (h : O[i]? = some (q, b)) : O.take (i + 1) = O.take i ++ [(q, b)] := by
  rw [List.take_add_one, h]; rfl
theorem src_yes {Q : List St} {t : List UInt8} {p : Nat} {l : List (Nat × Nat)} {q b : Nat} {st : St} {c : UInt8} (hq : Q[q]? = some st) (hk : st.kind = 0) (hc : t[p]? = some c) (hs : st.set c = true) : srcOf Q t p (l ++ [(q, b)]) = fun q' b' => srcOf Q t p l q' b' ∨ (q' = st.next ∧ b' = b) := by
  funext q' b'
  unfold srcOf
  apply propext
  constructor
  · rintro ⟨x, hx, h1, h2⟩
    rcases List.mem_append.1 hx with hx | hx
    · exact Or.inl ⟨x, hx, h1, h2⟩
    · simp at hx; subst hx
      exact Or.inr ⟨((step_byte hq hk hc).1 h2).2, h1.symm⟩
  · rintro (⟨x, hx, h1, h2⟩ | ⟨h1, h2⟩)
    · exact ⟨x, List.mem_append.2 (Or.inl hx), h1, h2⟩
    · exact ⟨(q, b), by simp, h2.symm, (step_byte hq hk hc).2 ⟨hs, h1⟩⟩
theorem src_no {Q : List St} {t : List UInt8} {p : Nat} {l : List (Nat × Nat)} {q b : Nat} {st : St} {c : UInt8} (hq : Q[q]? = some st) (hk : st.kind = 0) (hc : t[p]? = some c) (hs : st.set c = false) : srcOf Q t p (l ++ [(q, b)]) = srcOf Q t p l := by
  funext q' b'
  unfold srcOf
  apply propext
  constructor
  · rintro ⟨x, hx, h1, h2⟩
    rcases List.mem_append.1 hx with hx | hx
    · exact ⟨x, hx, h1, h2⟩
    · simp at hx; subst hx
      have := ((step_byte hq hk hc).1 h2).1
      rw [hs] at this; cases this
  · rintro ⟨x, hx, h1, h2⟩
    exact ⟨x, List.mem_append.2 (Or.inl hx), h1, h2⟩
theorem sorted_at {O : List (Nat × Nat)} {i : Nat} {x : Nat × Nat} (hs : O.Pairwise (fun x y => y.2 ≤ x.2)) (hx : O[i]? = some x) : ∀ y ∈ O.take i, x.2 ≤ y.2 := by
  obtain ⟨hi, e⟩ := List.getElem?_eq_some_iff.1 hx
  have h1 : O = O.take i ++ (x :: O.drop (i + 1)) := by
    rw [← e, List.getElem_cons_drop]; exact (List.take_append_drop i O).symm
  rw [h1] at hs
  rw [List.pairwise_append] at hs
  exact fun y hy => hs.2.2 y hy x (by simp)
theorem src_ge {Q : List St} {t : List UInt8} {p b : Nat} {l : List (Nat × Nat)} (h : ∀ y ∈ l, b ≤ y.2) : ∀ q b', srcOf Q t p l q b' → b ≤ b' := by
  rintro q b' ⟨x, hx, rfl, _⟩
  exact h x hx
theorem InI.begin {w0 wr : World} {sb rb lb bs : Nat} {vS : Value} {Q : List St} {t : List UInt8} {ls : List Int} {last p h : Nat} {vO : Value} {poN : Option Addr} {nN capN : Nat} {O : List (Nat × Nat)} {best : Option Nat} (h : RunI w0 wr sb rb lb bs vS Q t ls last (p + 1) h vO (.slice poN nN capN) O best) (hl : LsOK Q t last (p + 1) ls) :
    InI w0 wr sb rb lb bs vS Q t (ls.set (p + 1) (lenV (p + 1) best)) p vO O 0 (.slice poN 0 capN) none := by
  obtain ⟨rv, vK, stk, N, h1, h2, h3, h4, h5, h6, h7, h8, h9, h10, h11⟩ := h
  have hown : ∀ n m, (Value.slice poN n capN).ownBlock = (Value.slice poN m capN).ownBlock := fun n m => by cases poN <;> rfl
  refine ⟨rv, vK, stk, [], h1.turn p (by rw [List.getElem?_set_ne (by omega)]; exact hl.2.2 p (by omega)), h2, row_none h3, fun k hk e => h4 k hk (by rw [hown nN 0]; exact e), ?_, fun k x hx => by have := h6 k x hx; omega, ?_, h8, h9, h10, ?_⟩
  · rw [List.take_zero, src_nil]
    exact PInv.begin _ (fun q hq => by have := h6 _ _ hq; omega)
  · have := unm_le rv (p + 1)
    rw [h1.len] at this
    simpa using this
  · rcases h11 with e | ⟨G, e, e2⟩
    · exact Or.inl (by rw [hown 0 nN]; exact e)
    · exact Or.inr ⟨G, by rw [hown 0 nN]; exact e, e2⟩
/-- A box that is made turns nothing. -/
theorem InI.alloc {w0 wr : World} {sb rb lb bs : Nat} {vS : Value} {Q : List St} {t : List UInt8} {ls : List Int} {p : Nat} {vO : Value} {O : List (Nat × Nat)} {i : Nat} {vN : Value} {best : Option Nat} (h : InI w0 wr sb rb lb bs vS Q t ls p vO O i vN best) (o : Obj) (n : Nat) : InI w0 ((wr.alloc o).drewN n) sb rb lb bs vS Q t ls p vO O i vN best := by
  obtain ⟨rv, vK, stk, N, h1, h2, h3, h4, h5, h6, h7, h8, h9, h10, h11⟩ := h
  refine ⟨rv, vK, stk, N, h1.only (D := fun _ => False) (((Only.refl _ wr).alloc o).drewN n) (fun e => e) (fun e => e) (fun e => e) (fun _ _ e => e) (fun _ _ e => e), ownsRow_of h2 (fun k hk => Below.heap_alloc _ _ _ (h2.lt k hk).2), ownsRow_of h3 (fun k hk => Below.heap_alloc _ _ _ (h3.lt k hk).2), h4, h5, h6, h7, (h8.alloc o).drewN n, h9, h10, h11⟩
theorem InI.pass {w0 wr : World} {sb rb lb bs : Nat} {vS : Value} {Q : List St} {t : List UInt8} {ls : List Int} {p : Nat} {vO : Value} {O : List (Nat × Nat)} {i : Nat} {vN : Value} {best : Option Nat} {q b : Nat} {st : St} {c : UInt8} (h : InI w0 wr sb rb lb bs vS Q t ls p vO O i vN best)
    (hx : O[i]? = some (q, b)) (hq : Q[q]? = some st) (hk : st.kind = 0) (hc : t[p]? = some c) (hs : st.set c = false) : InI w0 wr sb rb lb bs vS Q t ls p vO O (i + 1) vN best := by
  obtain ⟨rv, vK, stk, N, h1, h2, h3, h4, h5, h6⟩ := h
  refine ⟨rv, vK, stk, N, h1, h2, h3, h4, ?_, h6⟩
  rw [take_push hx, src_no hq hk hc hs]
  exact h5
theorem InI.step {w0 W w2 : World} {sb rb lb bs : Nat} {vS : Value} {Q : List St} {t : List UInt8} {ls : List Int} {p : Nat} {vO : Value} {O : List (Nat × Nat)} {i : Nat} {vN : Value} {b3 : Option Nat} {rv3 : List Nat} {vK3 : Value} {stk3 : List Nat} {N3 : List (Nat × Nat)} {q b : Nat} {st : St} {c : UInt8} {e : Ending}
    (hu : OneDone Q) (hS3 : Srch W sb rb lb bs vS Q ls p rv3 vK3 stk3 b3) (hO3 : W.ownsRow bs 327 2 vO O.length (thr O)) (hap3 : ∀ k, vO.ownBlock = some k → vN.ownBlock ≠ some k)
    (hP3 : PInv Q t p (srcOf Q t p (O.take i)) (fun q => rv3[q]? = some (p + 1)) N3 b3) (hrv3 : ∀ (k x : Nat), rv3[k]? = some x → x = 0 ∨ p + 1 ≤ x) (ho3 : Only (fun k => k = sb ∨ (k = rb ∨ k = lb)) w0 W) (mK3 : MovedB w0 (.slice none 0 0) vK3) (mO3 : MovedB w0 (.slice none 0 0) vO) (mN3 : MovedB w0 (.slice none 0 0) vN)
    (hx : O[i]? = some (q, b)) (hq : Q[q]? = some st) (hk : st.kind = 0) (hc : t[p]? = some c) (hs : st.set c = true) (hsort : ∀ y ∈ O.take i, b ≤ y.2)
    (hf : FollowPost W sb rb lb bs vS Q t ls rv3 vK3 b3 vN N3 st.next b p e w2) : ∃ vN4 b4, e = .returned vN4 ∧ InI w0 w2 sb rb lb bs vS Q t ls p vO O (i + 1) vN4 b4 := by
  obtain ⟨vN4, vK4, rv4, N4, b4, rfl, hS4, hN4, hF4, hol4, hrv4, ho4, mk4, mn4⟩ := hf
  obtain ⟨f1, f2, f3, f4, f5⟩ := follow_frame hS3 hO3 (fun k hk e => hap3 k e hk) ho4 hN4 mk4 mn4 ho3 mK3 mN3
  refine ⟨vN4, b4, rfl, rv4, vK4, [], N4, hS4, f1, hN4, fun k hk e => f2 k e hk, ?_, ?_, hol4, f3, f4, mO3, f5⟩
  · rw [take_push hx, src_yes hq hk hc hs]
    exact PInv.follow hP3 hu hF4 (src_ge hsort)
  · intro k x hx4
    rcases hrv4 k x hx4 with h | h
    · omega
    · exact hrv3 k x h
end Go.Proofs.YthhiofppbpgipaaGreatDoor

