import Derived.Test.YtdbdbaepmdmnfaaGreatDoorZ13
import Derived.Test.YtdbdbaepmdmnfaaGreatDoorZ02
namespace Go.Proofs.YtdbdbaepmdmnfaaGreatDoor
open Go.RowKit
/-- A machine that stands: every way leads to a state that there is; each state but the first goes on. -/
def WfQ (Q : List St) : Prop := ∀ q ∈ Q, q.kind ≤ 4 ∧ q.next < Q.length ∧ q.other < Q.length
/-- The states that a value of the program's type of patterns holds. -/
def PatAt (w : World) (v : Value) (Q : List St) : Prop := ∃ xs, w.ownsRow 0 125 7 v Q.length xs ∧ StCells Q xs
/-- A pattern that was read: its value, its machine, its meaning. -/
def PatVal (w : World) (B : Nat) (v : Value) (first : Nat) (Q : List St) (R : Pat) : Prop :=
  PatAt w v Q ∧ (∀ k, v.ownBlock = some k → B ≤ k) ∧ Q.length ≤ 1000000 ∧ first < Q.length ∧ WfQ Q ∧ OneDone Q ∧ ∀ t i e, Acc Q t first e i ↔ R t i e
theorem acc_done {Q : List St} {q : St} (h : Q[0]? = some q) (hk : q.kind = 4) {t n i e} : AccN Q t n 0 i e → e = i := by
  intro hA
  cases n with
  | zero => exact (accN_zero hA).2
  | succ n =>
    obtain ⟨d, ⟨r, j, hs, _⟩, _⟩ := hA
    obtain ⟨s, h1, h2⟩ := hs
    rw [h] at h1
    cases h1
    omega
theorem pat_acc {Q' : List St} {q : St} {b : Nat} {R : Pat} (hk : q.kind = 4) (h : BuiltIn 1 Q' b 0 R) (t : List UInt8) (i e : Nat) : Acc (q :: Q') t b e i ↔ R t i e := by
  have hb := h (q :: Q') (fun k x hx => by rw [Nat.add_comm]; exact hx) t
  have h0 : (q :: Q')[0]? = some q := rfl
  constructor
  · rintro ⟨n, hA⟩
    obtain ⟨j, m, _, hr, hA2⟩ := hb.1 n e i hA
    rw [acc_done h0 hk hA2]; exact hr
  · intro hr
    exact hb.2 e i i hr ⟨0, 0, ⟨rfl, rfl⟩, q, h0, hk⟩
theorem one_done {q : St} {Q' : List St} (h : ∀ x ∈ Q', x.kind ≤ 3) : OneDone (q :: Q') := by
  have key : ∀ d, Done (q :: Q') d → d = 0 := by
    rintro d ⟨s, hs, hk⟩
    cases d with
    | zero => rfl
    | succ d =>
      have := h s (List.mem_of_getElem? (by simpa using hs))
      omega
  intro d d' h1 h2
  rw [key d h1, key d' h2]
/-- The state at which a match begins. -/
def doneSt : St := ⟨4, fun _ => false, 0, 0⟩
theorem add_first (P : Nat) (W : World) (h : Mach W P (.slice none 0 0) 0 []) :
    Calls Tryz.prog 57 #[.pointer (some ⟨P, 0, none⟩), .agg #[.int .i64 4, .int .u64 0, .int .u64 0, .int .u64 0, .int .u64 0, .int .i64 0, .int .i64 0]] W fun e w2 =>
      e = .returned (.int .i64 0) ∧ ∃ v2, Mach w2 P v2 0 [doneSt] ∧ Only (fun k => k = P) W w2 ∧ ∀ k, v2.ownBlock = some k → W.heap.size ≤ k := by
  refine (padd_any P (.slice none 0 0) 0 [] doneSt (fun _ => 0) SetIs.none (by decide) W h).mono ?_
  rintro e w2 ⟨rfl, v2, hm, hg⟩
  refine ⟨rfl, v2, hm, hg.1.mono (fun i _ hi => ?_), fun k hk => ?_⟩
  · rcases hi with hi | hi
    · exact hi
    · cases hi
  · rcases hg.2 with e | ⟨G, e, h2⟩
    · rw [e] at hk; cases hk
    · rw [e] at hk; cases hk; exact h2
theorem build_first (P B d N : Nat) (kind : Int) (xs : Nat → Nat) (po : Option Addr) (n cap : Nat) (R : Pat) (F : Nat → Prop) (v2 : Value) (w2 : World) (h : Mach w2 P v2 0 [doneSt]) (hB : ∀ k, v2.ownBlock = some k → B ≤ k) (hBs : B ≤ w2.heap.size) (hden : Den d N w2 F (nodeCs kind xs po n cap) R) (hF : ∀ g, F g → g < B ∧ g ≠ P) (hN : N ≤ 900000) :
    Calls Tryz.prog 56 #[.pointer (some ⟨P, 0, none⟩), .agg #[.int .i64 kind, .int .u64 (xs 0), .int .u64 (xs 1), .int .u64 (xs 2), .int .u64 (xs 3), .slice po n cap], .int .i64 0] w2 fun e w3 =>
      ∃ (v3 : Value) (Q : List St) (b : Nat), e = .returned (.int .i64 b) ∧ Mach w3 P v3 0 Q ∧ Only (fun k => k = P ∨ B ≤ k) w2 w3 ∧ (∀ k, v3.ownBlock = some k → B ≤ k) ∧ Q.length ≤ 1000000 ∧ b < Q.length ∧ WfQ Q ∧ OneDone Q ∧ ∀ t i e, Acc Q t b e i ↔ R t i e := by
  have haw : Away F w2 P v2 := fun g hg _ => ⟨(hF g hg).2, fun e => by have := hB g e.symm; have := (hF g hg).1; omega⟩
  refine (build_all d N kind xs po n cap R w2 P v2 0 [doneSt] F 0 h hden haw (by simp; omega) (by simp)).mono ?_
  rintro e w3 ⟨v3, Q', b, rfl, hm3, hg3, hq3, hb3, hok3, hbt3⟩
  refine ⟨v3, doneSt :: Q', b, rfl, hm3, hg3.1.mono (fun i _ hi => ?_), fun k hk => ?_, by simp; omega, by simp at hb3; simp; omega, fun q hq => ?_, one_done (fun x hx => (hok3 x hx).1), fun t i e => pat_acc rfl hbt3 t i e⟩
  · rcases hi with hi | hi
    · exact Or.inl hi
    · exact Or.inr (hB i hi.symm)
  · rcases hg3.2 with e | ⟨G, e, h2⟩
    · rw [e] at hk; exact hB k hk
    · rw [e] at hk; cases hk; omega
  · rcases List.mem_cons.1 hq with rfl | hq
    · exact ⟨Nat.le_refl 4, by show 0 < _; simp, by show 0 < _; simp⟩
    · have := hok3 q hq
      rw [List.length_singleton, Nat.add_comm] at this
      exact ⟨Nat.le_trans this.1 (by decide), this.2.1, this.2.2⟩
theorem read_add (w1 : World) (d N lo : Nat) (kind : Int) (xs : Nat → Nat) (po : Option Addr) (n cap : Nat) (R : Pat) (hd : Den d N w1 (fun g => lo < g ∧ g < w1.heap.size) (nodeCs kind xs po n cap) R) :
    Calls Tryz.prog 57 #[.pointer (some ⟨w1.heap.size + 1, 0, none⟩), .agg #[.int .i64 4, .int .u64 0, .int .u64 0, .int .u64 0, .int .u64 0, .int .i64 0, .int .i64 0]]
      (((w1.alloc (.cells #[.int .i64 kind, .int .u64 (xs 0), .int .u64 (xs 1), .int .u64 (xs 2), .int .u64 (xs 3), .slice po n cap] 118)).alloc (.cells #[.slice none 0 0, .int .i64 0] 68)).drew) fun e w2 =>
      e = .returned (.int .i64 0) ∧ ∃ v2, Mach w2 (w1.heap.size + 1) v2 0 [doneSt] ∧ (∀ k, v2.ownBlock = some k → w1.heap.size + 2 ≤ k) ∧ w1.heap.size + 2 ≤ w2.heap.size ∧ Den d N w2 (fun g => lo < g ∧ g < w1.heap.size) (nodeCs kind xs po n cap) R ∧
        w2.heap[w1.heap.size]? = some (.cells (nodeAg kind xs po n cap) 118 (0, 0)) ∧ Only (fun _ => False) w1 w2 := by
  have hM : Mach (((w1.alloc (.cells #[.int .i64 kind, .int .u64 (xs 0), .int .u64 (xs 1), .int .u64 (xs 2), .int .u64 (xs 3), .slice po n cap] 118)).alloc (.cells #[.slice none 0 0, .int .i64 0] 68)).drew) (w1.heap.size + 1) (.slice none 0 0) 0 [] := ⟨newb1 w1 _ _, [], World.ownsRow_nil _ _ _ _, fun k q h => by simp at h⟩
  refine (add_first _ _ hM).mono ?_
  rintro e w2 ⟨rfl, v2, hm2, ho2, hB2⟩
  have hsz : ((w1.alloc (.cells #[.int .i64 kind, .int .u64 (xs 0), .int .u64 (xs 1), .int .u64 (xs 2), .int .u64 (xs 3), .slice po n cap] 118)).alloc (.cells #[.slice none 0 0, .int .i64 0] 68)).drew.heap.size = w1.heap.size + 2 := by simp
  have ho0 : Only (fun _ => False) w1 ((w1.alloc (.cells #[.int .i64 kind, .int .u64 (xs 0), .int .u64 (xs 1), .int .u64 (xs 2), .int .u64 (xs 3), .slice po n cap] 118)).alloc (.cells #[.slice none 0 0, .int .i64 0] 68)).drew := (((Only.refl _ w1).alloc _).alloc _).drewN 1
  have ho3 : Only (fun _ => False) w1 w2 := ho0.trans ho2 (fun i hi e => by omega)
  refine ⟨rfl, v2, hm2, fun k hk => by have := hB2 k hk; omega, by have := ho2.size; omega, hd.only ho3 (fun _ _ e => e), ?_, ho3⟩
  exact (ho2.block w1.heap.size (by omega) (by omega)).trans ((Below.heap_alloc _ _ _ (by simp)).trans (new0 w1 _))
/-- What is answered for a pattern's text. -/
def ReadPost (s : ByteArray) (w : World) (e : Ending) (w' : World) : Prop :=
  Only (fun _ => False) w w' ∧ (wholeP s.data.toList = none → e = .returned (.tuple #[.agg #[.slice none 0 0, .int .i64 0], .bool false])) ∧
    ∀ R, wholeP s.data.toList = some R → ∃ v first Q, e = .returned (.tuple #[.agg #[v, .int .i64 (first : Nat)], .bool true]) ∧ PatVal w' w.heap.size v first Q R
set_option maxHeartbeats 4000000 in
theorem read_any (s : ByteArray) (h6 : s.size ≤ 65536) (w : World) : Calls Tryz.prog 39 #[.string s] w (ReadPost s w) := by
  have hn : ∀ o, w.heap.size < w.heap.size → (fun _ => False) (Addr.block ⟨w.heap.size, o, none⟩) := fun _ h => absurd h (Nat.lt_irrefl _)
  go_enter Tryz.func39, Tryz.ntmps39
  go_wp2_with fail
  refine (readTree_any s h6 _).mono ?_
  rintro e w1 ⟨ho1, kind, xs, po, n, cap, rfl, hden⟩
  have hq : w1.heap[w.heap.size]? = some (.cells #[.slice none 0 0, .int .i64 0] 68 (0, 0)) := (ho1.block w.heap.size (by simp) (fun e => e)).trans (new0 w _)
  have HO1 : Hid (Only (fun _ => False) w w1) := ((Only.refl (fun _ => False) w).alloc _).trans ho1 (fun k _ e => e)
  have hsq1 := heap_lt hq
  have z0 : w1.cell? ⟨w.heap.size, 0, none⟩ = some (.slice none 0 0) := cell_of hq rfl
  have z1 : w1.cell? ⟨w.heap.size, 1, none⟩ = some (.int .i64 0) := cell_of hq rfl
  have y0 := free_of hq 0
  have y1 := free_of hq 1
  have HQ := hide hq
  have HD := hide hden
  clear ho1 hden hq
  unfold nodeAg
  cases hc : wholeP s.data.toList with
  | none =>
    have HC := hide hc
    clear hc
    simp only [Option.isSome_none]
    go_wp2
    refine bodyPost_ret (v := .tuple #[.agg #[.slice none 0 0, .int .i64 0], .bool false]) (by simp [results, Tryz.results39, go_sem, z0, z1, hsq1]) rfl ⟨?_, fun _ => rfl, fun R h => ?_⟩
    · exact ((HO1.out.setCell (p := ⟨w.heap.size, 0, none⟩) (hn 0) _).setCell (p := ⟨w.heap.size, 1, none⟩) (hn 1) _).alloc _
    · rw [HC.out] at h; cases h
  | some R =>
    obtain ⟨d, hd⟩ := HD.out R hc
    have HC := hide hc
    have HD1 := hide hd
    clear hc hd HD
    simp only [Option.isSome_some]
    go_wp2
    have HD2 : Hid (Den d s.size w1 (fun g => w.heap.size < g ∧ g < w1.heap.size) (nodeCs kind xs po n cap) R) := HD1.out.mono (fun g hl hg => ⟨by simp at hg; omega, hl⟩)
    clear HD1
    have hr6 : s.size ≤ 900000 := by omega
    go_region_with (first
      | (go_at_call 57; refine (read_add w1 d s.size w.heap.size kind xs po n cap R HD2.out).mono ?_; rintro e w2 ⟨rfl, v2, hm2, hB2, hw2, hdn, hbx, ho2⟩; have b0 : w2.cell? ⟨w1.heap.size, 0, none⟩ = some (.int .i64 kind) := cell_of hbx rfl; have b1 : w2.cell? ⟨w1.heap.size, 1, none⟩ = some (.int .u64 (xs 0)) := cell_of hbx rfl; have b2 : w2.cell? ⟨w1.heap.size, 2, none⟩ = some (.int .u64 (xs 1)) := cell_of hbx rfl; have b3 : w2.cell? ⟨w1.heap.size, 3, none⟩ = some (.int .u64 (xs 2)) := cell_of hbx rfl; have b4 : w2.cell? ⟨w1.heap.size, 4, none⟩ = some (.int .u64 (xs 3)) := cell_of hbx rfl; have b5 : w2.cell? ⟨w1.heap.size, 5, none⟩ = some (.slice po n cap) := cell_of hbx rfl; have HDn := hide hdn; have HB2 := hide hB2; have HM2 := hide hm2; have HO2 := hide ho2; clear hm2 ho2 hB2 hbx hdn)
      | (go_at_call 56; refine (build_first (w1.heap.size + 1) (w1.heap.size + 2) d s.size kind xs po n cap R (fun g => w.heap.size < g ∧ g < w1.heap.size) v2 _ HM2.out HB2.out hw2 HDn.out (fun g hg => ⟨by omega, by omega⟩) hr6).mono ?_; rintro e w3 ⟨v3, Q, b, rfl, hm3, ho3, hB3, hQ3, hb3, hwf3, hone3, hacc3⟩; have p0 : w3.cell? ⟨w1.heap.size + 1, 0, none⟩ = some v3 := cell_of hm3.1 rfl; have p1 : w3.cell? ⟨w1.heap.size + 1, 1, none⟩ = some (.int .i64 0) := cell_of hm3.1 rfl; have f1 := free_of hm3.1 1; have HM3 := hide hm3; have HO3 := hide ho3; have HB3 := hide hB3; have HW3 := hide hwf3; have HA3 := hide hacc3; clear hm3 ho3 hB3 hwf3 hacc3))
    all_goals
      obtain ⟨G3, cp3, rfl⟩ := HM3.out.form (by omega)
      have hq3 : w3.heap[w.heap.size]? = some (.cells #[.slice none 0 0, .int .i64 0] 68 (0, 0)) := (HO3.out.block w.heap.size (by omega) (by omega)).trans ((HO2.out.block w.heap.size hsq1 (fun e => e)).trans HQ.out)
      clear z0 z1 y0 y1
      have z0 : w3.cell? ⟨w.heap.size, 0, none⟩ = some (.slice none 0 0) := cell_of hq3 rfl
      have z1 : w3.cell? ⟨w.heap.size, 1, none⟩ = some (.int .i64 0) := cell_of hq3 rfl
      have y0 := free_of hq3 0
      have y1 := free_of hq3 1
      have hsq3 := heap_lt hq3
      clear hq3
      go_wp2
      refine bodyPost_ret (v := .tuple #[.agg #[.slice (some ⟨G3, 0, none⟩) Q.length cp3, .int .i64 b], .bool true]) (by simp [results, Tryz.results39, go_sem, z0, z1]) rfl ⟨?_, fun h => (by rw [HC.out] at h; cases h), fun R' h => ?_⟩
      · exact ((((HO1.out.trans HO2.out (fun k _ e => e)).trans HO3.out (fun k hk e => by omega)).setCell (p := ⟨w1.heap.size + 1, 1, none⟩) (fun h => absurd h (by show ¬ w1.heap.size + 1 < w.heap.size; omega)) _).setCell (p := ⟨w.heap.size, 0, none⟩) (hn 0) _).setCell (p := ⟨w.heap.size, 1, none⟩) (hn 1) _
      · rw [HC.out] at h
        cases h
        obtain ⟨_, ws, hown, hst⟩ := HM3.out
        refine ⟨_, b, Q, rfl, ⟨ws, ownsRow_of hown (fun k hk => ?_), hst⟩, fun k hk => by have := HB3.out k hk; omega, hQ3, hb3, HW3.out, hone3, HA3.out⟩
        have := HB3.out k hk
        rw [Below.heap_setCell _ _ _ _ (show k ≠ w.heap.size by omega), Below.heap_setCell _ _ _ _ (show k ≠ w.heap.size by omega), Below.heap_setCell _ _ _ _ (show k ≠ w1.heap.size + 1 by omega)]
end Go.Proofs.YtdbdbaepmdmnfaaGreatDoor

