import Derived.Test.YthhiofppbpgipaaGreatDoorMMach
import Derived.BigQuiet
import Derived.Deep.QuietTactic
import Derived.Test.YthhiofppbpgipaaGreatDoorGC
namespace Go.Proofs.YthhiofppbpgipaaGreatDoor
open Go.RowKit
/-- A piece of a pattern as the reference has it. -/
structure Pc where
  K : Nat
  C : Nat
  set : UInt8 → Bool
  A : Nat
  B : Nat
def bools (S : UInt8 → Bool) : List Value := (List.range 256).map (fun n => Value.bool (S (UInt8.ofNat n)))
def pcCs (x : Pc) (vS : Value) : List Value := [.int .u8 x.K, .int .u8 x.C, vS, .int .i64 x.A, .int .i64 x.B]
/-- What a piece's slice of bits is: of a class its members. -/
def SetV (w : World) (x : Pc) (vS : Value) : Prop := (∃ po n cap, vS = .slice po n cap) ∧ (x.K = 91 → ∃ g, vS = .slice (some ⟨g, 0, none⟩) 256 256 ∧ w.heap[g]? = some (.cells (bools x.set).toArray 4 (0, 0)))
def PcCells (w : World) (P : List Pc) (xs : List Value) : Prop := ∀ k x, P[k]? = some x → ∃ vS, SetV w x vS ∧ ∀ j u, (pcCs x vS)[j]? = some u → xs[k * 5 + j]? = some u
/-- The reference's reader lies in block b; its pieces are P. -/
def RefP (w : World) (b : Nat) (s : ByteArray) (i : Nat) (bad : Bool) (v : Value) (P : List Pc) : Prop :=
  w.heap[b]? = some (.cells #[.string s, .int .i64 i, .bool bad, v] 153 (0, 0)) ∧ ∃ xs, w.ownsRow 0 156 5 v P.length xs ∧ PcCells w P xs
theorem SetV.of {w w' : World} {x : Pc} {vS : Value} (h : SetV w x vS) (hb : ∀ (g : Nat) (c : Array Value), w.heap[g]? = some (Obj.cells c 4 (0, 0)) → w'.heap[g]? = w.heap[g]?) : SetV w' x vS :=
  ⟨h.1, fun hk => by obtain ⟨g, h1, h2⟩ := h.2 hk; exact ⟨g, h1, (hb g _ h2).trans h2⟩⟩
theorem PcCells.of {w w' : World} {P : List Pc} {xs : List Value} (h : PcCells w P xs) (hb : ∀ (g : Nat) (c : Array Value), w.heap[g]? = some (Obj.cells c 4 (0, 0)) → w'.heap[g]? = w.heap[g]?) : PcCells w' P xs := fun k x hk => by
  obtain ⟨vS, h1, h2⟩ := h k x hk
  exact ⟨vS, h1.of hb, h2⟩
theorem RefP.own_ne {w b s i bad v P} (h : RefP w b s i bad v P) : v.ownBlock ≠ some b := by
  obtain ⟨h1, xs, h2, _⟩ := h
  intro e
  rcases h2.2 with ⟨rfl, _⟩ | ⟨g, cap, cur, rfl, _, h3, _⟩
  · cases e
  · cases e
    rw [h3] at h1
    cases h1
theorem RefP.own_lt {w b s i bad v P} (h : RefP w b s i bad v P) : ∀ k, v.ownBlock = some k → k < w.heap.size := by
  obtain ⟨h1, xs, h2, _⟩ := h
  exact fun k hk => (h2.lt k hk).2
theorem RefP.slice {w b s i bad v P} (h : RefP w b s i bad v P) : ∃ po cap, v = .slice po P.length cap := by
  obtain ⟨h1, xs, h2, _⟩ := h
  exact ownsRow_slice h2
theorem RefP.only {w w' b s i bad v P D} (h : RefP w b s i bad v P) (ho : Only D w w') (hD : ∀ k, k < w.heap.size → ¬ D k) : RefP w' b s i bad v P := by
  obtain ⟨h1, xs, h2, h3⟩ := h
  exact ⟨(ho.block b (heap_lt h1) (hD _ (heap_lt h1))).trans h1, xs, ownsRow_of h2 (fun k hk => ho.block k (h2.lt k hk).2 (hD _ (h2.lt k hk).2)), h3.of (fun g c hg => ho.block g (heap_lt hg) (hD _ (heap_lt hg)))⟩
/-- The reader's place and its word 'bad' are set. -/
theorem RefP.setI {w b s i bad v P} (h : RefP w b s i bad v P) (j : Nat) : RefP (w.setCell ⟨b, 1, none⟩ (.int .i64 j)) b s j bad v P := by
  have hne := h.own_ne
  obtain ⟨h1, xs, h2, h3⟩ := h
  refine ⟨heap_setCell_same h1 _, xs, ownsRow_of h2 (fun k hk => Below.heap_setCell _ _ _ _ (fun e => hne (by rw [hk]; exact congrArg some e))), h3.of (fun g c hg => Below.heap_setCell _ _ _ _ (fun e => by
    have e2 : g = b := e
    rw [e2, h1] at hg
    cases hg))⟩
theorem RefP.setBad {w b s i bad v P} (h : RefP w b s i bad v P) : RefP (w.setCell ⟨b, 2, none⟩ (.bool true)) b s i true v P := by
  have hne := h.own_ne
  obtain ⟨h1, xs, h2, h3⟩ := h
  refine ⟨heap_setCell_same h1 _, xs, ownsRow_of h2 (fun k hk => Below.heap_setCell _ _ _ _ (fun e => hne (by rw [hk]; exact congrArg some e))), h3.of (fun g c hg => Below.heap_setCell _ _ _ _ (fun e => by
    have e2 : g = b := e
    rw [e2, h1] at hg
    cases hg))⟩
theorem PcCells.push {w P xs x vS} (h : PcCells w P xs) (hl : xs.length = P.length * 5) (hs : SetV w x vS) : PcCells w (P ++ [x]) (xs ++ pcCs x vS) := by
  intro k r hk
  by_cases hlt : k < P.length
  · rw [List.getElem?_append_left hlt] at hk
    obtain ⟨zs, h1, h2⟩ := h k r hk
    refine ⟨zs, h1, fun j u hj => ?_⟩
    have h3 := h2 j u hj
    rw [List.getElem?_append_left (List.getElem?_eq_some_iff.1 h3).1]
    exact h3
  · rw [List.getElem?_append_right (by omega)] at hk
    have hk' : k = P.length := by
      have := (List.getElem?_eq_some_iff.1 hk).1
      simp at this; omega
    subst hk'
    simp at hk
    subst hk
    refine ⟨vS, hs, fun j u hj => ?_⟩
    rw [List.getElem?_append_right (by omega), hl, Nat.add_sub_cancel_left]; exact hj
theorem info147 : (Tryz.prog.info? 156).map (fun i => (i.zero, i.size, i.bytes)) = some (some (.agg #[.int .u8 0, .int .u8 0, .slice none 0 0, .int .i64 0, .int .i64 0]), 5, 48) := by kernel_rfl
def RAddPost (b : Nat) (s : ByteArray) (i : Nat) (bad : Bool) (v : Value) (P : List Pc) (x : Pc) (w : World) (e : Ending) (w' : World) : Prop :=
  e = .returned (.int .i64 P.length) ∧ ∃ v', RefP w' b s i bad v' (P ++ [x]) ∧ Grew w w' b v v'
set_option maxRecDepth 100000 in
set_option maxHeartbeats 4000000 in
theorem radd_any (b : Nat) (s : ByteArray) (i : Nat) (bad : Bool) (v : Value) (P : List Pc) (x : Pc) (pS : Option Addr) (nS cS : Nat) (w : World) (hs : SetV w x (.slice pS nS cS)) (hP : P.length ≤ 1000000) (h : RefP w b s i bad v P) :
    Calls Tryz.prog 53 #[.pointer (some ⟨b, 0, none⟩), .agg #[.int .u8 x.K, .int .u8 x.C, .slice pS nS cS, .int .i64 x.A, .int .i64 x.B]] w (RAddPost b s i bad v P x w) := by
  obtain ⟨i0, hi0, hz0, hz1, hz2⟩ := info_parts info147
  obtain ⟨po, cap, rfl⟩ := h.slice
  have hne := h.own_ne
  have holt := h.own_lt
  obtain ⟨hpb, xs, hown, hst⟩ := h
  have hpl := heap_lt hpb
  have c0 : w.cell? ⟨b, 3, none⟩ = some (.slice po P.length cap) := cell_of hpb rfl
  have f0 := free_of hpb 3
  have HP := hide hpb
  have HO := hide hown
  have HS := hide hst
  have HN := hide hne
  have HL := hide holt
  have HY := hide hs
  clear hpb hown hst hne holt hs
  go_enter Tryz.func53, Tryz.ntmps53
  go_wp2_with fail
  have hn1 : some b ≠ (Value.slice po P.length cap).ownBlock := fun e => HN.out e.symm
  have hn2 : some w.heap.size ≠ (Value.slice po P.length cap).ownBlock := fun e => by have := HL.out _ e.symm; omega
  have HOK : Hid (∀ u ∈ pcCs x (.slice pS nS cS), u.oneCell' = true) := by
    intro u hu
    unfold pcCs at hu
    simp at hu
    rcases hu with rfl | rfl | rfl | rfl | rfl <;> rfl
  go_region_law (refine step_append_lies _ (by rfl) _ _ _ (by rfl) 0 156 i0 _ 5 48 Tryz.underlying64 hi0 hz0 hz1 hz2 rfl (by omega) (.slice po P.length cap) P.length xs (by rfl) (((HO.out.alloc _).alloc _).drew) ⟨w.heap.size + 1, 0, none⟩ 1 1 (pcCs x (.slice pS nS cS)) (by rfl) (by rfl) (World.news_of_block (cs := (pcCs x (.slice pS nS cS)).toArray) (t := 156) (fr := (0, 0)) (newb1 w _ _)) HOK.out (by omega) (by unfold maxLen; omega) (by omega) (Nat.zero_le _) (w.heap.size + 2) (by simp) ?_; intro gg cap2 w1 hown1 hgrow hat hlt; have hb1 : w1.heap[b]? = some (.cells #[.string s, .int .i64 i, .bool bad, .slice po P.length cap] 153 (0, 0)) := (hgrow.block b (by simp; omega) hn1).trans ((Below.heap_alloc _ _ _ (by simp; omega)).trans ((Below.heap_alloc _ _ _ hpl).trans HP.out)); have ff := free_of hb1 3; have cc : w1.cell? ⟨b, 3, none⟩ = some (.slice po P.length cap) := cell_of hb1 rfl; have HB1 := hide hb1; clear hb1)
  all_goals
    have hgp : gg ≠ b := by
      rintro rfl
      rcases hat with e | e
      · exact HN.out e
      · omega
    have HA := hide hat
    have HG := hide hgrow
    have HO1 := hide hown1
    clear hat hgrow hown1
    go_wp2
    go_ret
    have hsets : ∀ (g : Nat) (c : Array Value), w.heap[g]? = some (Obj.cells c 4 (0, 0)) → (w1.setCell ⟨b, 3, none⟩ (.slice (some ⟨gg, 0, none⟩) (P.length + 1) cap2)).heap[g]? = w.heap[g]? := fun g c hg => by
      have hgl := heap_lt hg
      have hgb : g ≠ b := fun e => by rw [e, HP.out] at hg; cases hg
      have hgo : some g ≠ (Value.slice po P.length cap).ownBlock := fun e => by
        rcases HO.out.2 with ⟨e1, _⟩ | ⟨g', cap', cur, e1, _, h3, _⟩
        · rw [e1] at e; cases e
        · rw [e1] at e
          cases e
          rw [h3] at hg
          cases hg
      rw [Below.heap_setCell _ _ _ _ hgb, HG.out.block g (by simp; omega) hgo]
      exact (Below.heap_alloc _ _ _ (by simp; omega)).trans (Below.heap_alloc _ _ _ hgl)
    refine ⟨rfl, .slice (some ⟨gg, 0, none⟩) (P.length + 1) cap2, ⟨heap_setCell_same HB1.out _, xs ++ pcCs x (.slice pS nS cS), ?_, (HS.out.of hsets).push HO.out.1 (HY.out.of hsets)⟩, ?_, ?_⟩
    · rw [show (P ++ [x]).length = P.length + 1 by simp]
      exact ownsRow_of HO1.out (fun k hk => by cases hk; exact Below.heap_setCell _ _ _ _ hgp)
    · exact (((((Only.refl (fun k => k = b ∨ some k = (Value.slice po P.length cap).ownBlock) w).alloc _).alloc _).drewN 1).grown HG.out (fun k hk _ => Or.inr hk.symm)).setCell (p := ⟨b, 3, none⟩) (fun _ => Or.inl rfl) _
    · rcases HA.out with e | e
      · exact Or.inl e.symm
      · exact Or.inr ⟨gg, rfl, by omega⟩
end Go.Proofs.YthhiofppbpgipaaGreatDoor

namespace Go.Proofs.YthhiofppbpgipaaGreatDoor
open Go.RowKit
set_option maxHeartbeats 2000000 in
theorem rat_any (b : Nat) (s : ByteArray) (i : Nat) (hs : s.size ≤ maxLen) (c : Nat) (w : World) (c0 : w.cell? ⟨b, 0, none⟩ = some (.string s)) (c1 : w.cell? ⟨b, 1, none⟩ = some (.int .i64 i)) :
    Calls Tryz.prog 112 #[.pointer (some ⟨b, 0, none⟩), .int .u8 c] w fun e w' => e = .returned (.bool (hasB s.data.toList i c)) ∧ ∃ n, w' = w.drewN n := by
  have hml : s.size ≤ 9223372036854775807 := hs
  by_cases hlt : i < s.size
  · have HG := hide (get_of_lt s i hlt)
    have hli : (i : Int) < (s.size : Int) := by omega
    go_enter Tryz.func112, Tryz.ntmps112
    go_wp2
    go_quiet (fail)
    go_wp2
    go_ret
    refine ⟨ret_bool ?_, _, rfl⟩
    unfold hasB
    rw [HG.out, Bool.eq_iff_iff, beq_iff_eq, beq_iff_eq]
    omega
  · have HG := hide (get_none s i (by omega))
    have hli : ¬ (i : Int) < (s.size : Int) := by omega
    go_enter Tryz.func112, Tryz.ntmps112
    go_wp2
    go_quiet (fail)
    go_wp2
    go_ret
    refine ⟨ret_bool ?_, _, rfl⟩
    unfold hasB
    rw [HG.out]
theorem rat_is (b : Nat) (s : ByteArray) (i : Nat) (hs : s.size ≤ maxLen) (c : Nat) (t : Bool) (ht : hasB s.data.toList i c = t) (w : World) (c0 : w.cell? ⟨b, 0, none⟩ = some (.string s)) (c1 : w.cell? ⟨b, 1, none⟩ = some (.int .i64 i)) :
    Calls Tryz.prog 112 #[.pointer (some ⟨b, 0, none⟩), .int .u8 c] w fun e w' => e = .returned (.bool t) ∧ ∃ n, w' = w.drewN n := by
  rw [← ht]; exact rat_any b s i hs c w c0 c1
end Go.Proofs.YthhiofppbpgipaaGreatDoor

namespace Go.Proofs.YthhiofppbpgipaaGreatDoor
open Go.RowKit
def bitsV (l : List Bool) : List Value := l.map Value.bool
/-- A row of bits lies in block g. -/
def BitsAt (w : World) (g : Nat) (l : List Bool) : Prop := w.heap[g]? = some (.cells (bitsV l).toArray 4 (0, 0))
theorem BitsAt.cell {w g l j x} (h : BitsAt w g l) (hj : l[j]? = some x) : w.cell? ⟨g, j, none⟩ = some (.bool x) := cell_of h (by rw [List.getElem?_toArray]; simp [bitsV, hj])
theorem BitsAt.set {w g l} (h : BitsAt w g l) (j : Nat) (x : Bool) : BitsAt (w.setCell ⟨g, j, none⟩ (.bool x)) g (l.set j x) := by
  unfold BitsAt at *
  rw [heap_setCell_same (o := j) h]
  simp [bitsV, List.map_set]
theorem BitsAt.setNe {w g l} (h : BitsAt w g l) {p : Addr} (hp : g ≠ p.block) (v : Value) : BitsAt (w.setCell p v) g l := (Below.heap_setCell _ _ _ _ hp).trans h
theorem BitsAt.only {w w' g l D} (h : BitsAt w g l) (ho : Only D w w') (hd : ¬ D g) : BitsAt w' g l := (ho.block g (heap_lt h) hd).trans h
/-- While two rows are joined: the first i bits are. -/
def JoinI (a b c : List Bool) (i : Nat) (t : Bool) : Prop := c.length = a.length ∧ (∀ j, c[j]? = if j < i then (joinB a b)[j]? else a[j]?) ∧ (t = true ↔ ∃ j, j < i ∧ b[j]? = some true ∧ a[j]? ≠ some true)
theorem JoinI.begin (a b : List Bool) : JoinI a b a 0 false := ⟨rfl, fun j => by simp, by simp⟩
theorem joinB_at {a b : List Bool} {i : Nat} {x y : Bool} (ha : a[i]? = some x) (hb : b[i]? = some y) : (joinB a b)[i]? = some (x || y) := by
  unfold joinB
  rw [List.getElem?_zipWith, ha, hb]
theorem JoinI.turn {a b c i t} (h : JoinI a b c i t) (hi : i < a.length) (ha : a[i]? = some false) (hb : b[i]? = some true) : JoinI a b (c.set i true) (i + 1) true := by
  obtain ⟨h1, h2, h3⟩ := h
  refine ⟨by simp [h1], fun j => ?_, by simp; exact ⟨i, by omega, hb, by rw [ha]; simp⟩⟩
  by_cases e : j = i
  · subst e
    rw [List.getElem?_set_self (by omega), if_pos (by omega), joinB_at ha hb]
    rfl
  · rw [List.getElem?_set_ne (fun h => e h.symm), h2 j]
    by_cases hlt : j < i
    · rw [if_pos hlt, if_pos (by omega)]
    · rw [if_neg hlt, if_neg (by omega)]
theorem JoinI.stay {a b c i t} {x y : Bool} (h : JoinI a b c i t) (ha : a[i]? = some x) (hb : b[i]? = some y) (hxy : y = true → x = true) : JoinI a b c (i + 1) t := by
  obtain ⟨h1, h2, h3⟩ := h
  refine ⟨h1, fun j => ?_, h3.trans ⟨fun ⟨j, h4, h5⟩ => ⟨j, by omega, h5⟩, fun ⟨j, h4, h5, h6⟩ => ?_⟩⟩
  · rw [h2 j]
    by_cases e : j = i
    · subst e
      rw [if_neg (by omega), if_pos (by omega), joinB_at ha hb, ha]
      cases x <;> cases y <;> simp_all
    · by_cases hlt : j < i
      · rw [if_pos hlt, if_pos (by omega)]
      · rw [if_neg hlt, if_neg (by omega)]
  · by_cases e : j = i
    · subst e
      rw [hb] at h5
      cases h5
      rw [ha, hxy rfl] at h6
      exact absurd rfl h6
    · exact ⟨j, by omega, h5, h6⟩
theorem JoinI.done {a b c t} (h : JoinI a b c a.length t) (hl : a.length = b.length) : c = joinB a b ∧ (t = true ↔ ∃ j : Nat, b[j]? = some true ∧ a[j]? ≠ some true) := by
  obtain ⟨h1, h2, h3⟩ := h
  refine ⟨List.ext_getElem? fun j => ?_, h3.trans ⟨fun ⟨j, _, h5⟩ => ⟨j, h5⟩, fun ⟨j, h5, h6⟩ => ⟨j, ?_, h5, h6⟩⟩⟩
  · rw [h2 j]
    by_cases hlt : j < a.length
    · rw [if_pos hlt]
    · rw [if_neg hlt, List.getElem?_eq_none (by omega), List.getElem?_eq_none (by rw [joinB_length hl]; omega)]
  · have := (List.getElem?_eq_some_iff.1 h5).1
    omega
set_option maxHeartbeats 2000000 in
theorem join_any (ga gb : Nat) (ca cb : Nat) (a b : List Bool) (hl : a.length = b.length) (hne : ga ≠ gb) (hm : a.length ≤ 1000000) (w : World) (ha : BitsAt w ga a) (hb : BitsAt w gb b) :
    Calls Tryz.prog 192 #[.slice (some ⟨ga, 0, none⟩) a.length ca, .slice (some ⟨gb, 0, none⟩) b.length cb] w fun e w' => ∃ t, e = .returned (.bool t) ∧ BitsAt w' ga (joinB a b) ∧ Only (fun k => k = ga) w w' ∧ (t = true ↔ ∃ j : Nat, b[j]? = some true ∧ a[j]? ≠ some true) := by
  have HA := hide ha
  have HB := hide hb
  clear ha hb
  go_enter Tryz.func192, Tryz.ntmps192
  go_wp2
  go_loopw [5, 6] (fun s5 s6 wr => ∃ (i : Nat) (t : Bool) (c : List Bool), s5 = .bool t ∧ s6 = .int .i64 i ∧ i ≤ a.length ∧ JoinI a b c i t ∧ BitsAt wr ga c ∧ Only (fun k => k = ga) w wr) (fun _ s6 _ => a.length - (intOf s6).toNat)
  case atStart => exact ⟨0, false, a, rfl, rfl, Nat.zero_le _, JoinI.begin a b, HA.out, Only.refl _ _⟩
  case round =>
    obtain ⟨i, t, c, rfl, rfl, hi, hJ, hc, ho⟩ := hrel
    have HJ := hide hJ
    have HC := hide hc
    have HO := hide ho
    by_cases hlt : i < a.length
    · have hli : (i : Int) < (a.length : Int) := by omega
      have hlb : (i : Int) < (b.length : Int) := by omega
      obtain ⟨x, hx⟩ : ∃ x, a[i]? = some x := ⟨a[i], List.getElem?_eq_getElem hlt⟩
      obtain ⟨y, hy⟩ : ∃ y, b[i]? = some y := ⟨b[i]'(by omega), List.getElem?_eq_getElem (by omega)⟩
      have hcx : c[i]? = some x := by rw [hJ.2.1 i, if_neg (by omega)]; exact hx
      have k1 : wr.cell? ⟨ga, i, none⟩ = some (.bool x) := hc.cell hcx
      have k2 : wr.cell? ⟨gb, i, none⟩ = some (.bool y) := (HB.out.only ho (Ne.symm hne)).cell hy
      have f1 : wr.frozen? ⟨ga, i, none⟩ = false := free_of hc i
      have HX := hide hx
      have HY := hide hy
      clear hJ hc ho hx hy hcx
      cases y with
      | false =>
        have HN := hide (HJ.out.stay HX.out HY.out (fun e => by cases e))
        go_wp2
        go_roundw
        case rel => exact ⟨i + 1, t, c, rfl, by go_num, by omega, HN.out, HC.out, HO.out⟩
        case measure => simp [intOf]; omega
      | true =>
        cases x with
        | true =>
          have HN := hide (HJ.out.stay HX.out HY.out (fun _ => rfl))
          go_wp2
          go_roundw
          case rel => exact ⟨i + 1, t, c, rfl, by go_num, by omega, HN.out, HC.out, HO.out⟩
          case measure => simp [intOf]; omega
        | false =>
          have HN := hide (HJ.out.turn hlt HX.out HY.out)
          go_wp2
          go_roundw
          case rel => exact ⟨i + 1, true, c.set i true, rfl, by go_num, by omega, HN.out, HC.out.set i true, HO.out.setCell (p := ⟨ga, i, none⟩) (fun _ => rfl) _⟩
          case measure => simp [intOf]; omega
    · have hie : i = a.length := by omega
      subst hie
      have hD := hJ.done hl
      have HD := hide hD
      clear hJ hc ho hD
      go_wp2
      go_ret
      exact ⟨t, rfl, by rw [← HD.out.1]; exact HC.out, HO.out, HD.out.2⟩
end Go.Proofs.YthhiofppbpgipaaGreatDoor

