import Derived.Test.YtdbdbaepmdmnfaaGreatDoorZ14
import Derived.Test.YtdbdbaepmdmnfaaGreatDoorZ15
namespace Go.Proofs.YtdbdbaepmdmnfaaGreatDoor
open Go.RowKit
/-- A machine whose record is a text, its fields told. -/
def MRec8 (C : Nat) (w : World) (m ab vb : Nat) (txt : ByteArray) (lst : Value) (size fuel code : Nat) : Prop := ∃ po cap, MAt8 w m ab vb txt (.slice po (words [] txt.data.toList).length cap) lst size fuel code ∧ w.ownsRow C 9 1 (.slice po (words [] txt.data.toList).length cap) (words [] txt.data.toList).length (strsV (words [] txt.data.toList))
set_option maxRecDepth 20000 in
set_option maxHeartbeats 4000000 in
theorem become_rec8 (m ab vb : Nat) (txt t : ByteArray) (po : Option Addr) (pn pc : Nat) (lst : Value) (size n code : Nat) (ht : t.size ≤ 500) (hw : (words [] t.data.toList).length ≤ 40) (C : Nat) (w : World) (hC : C ≤ w.heap.size) (h : MAt8 w m ab vb txt (.slice po pn pc) lst size n code) :
    Calls Tryz.prog 167 #[.pointer (some ⟨m, 2, none⟩), .string t, .string ⟨#[32]⟩] w fun en w' => en = .returned .nilIface ∧ MRec8 C w' m ab vb t lst size n code ∧ Only (fun k => k = m) w w' := by
  have HC := hide (cut_blank t ht w)
  have HM := hide h
  have HW := hide hw
  have HN := hide (check_number (words [] t.data.toList).length hw)
  clear h hw
  go_enter Tryz.func167, Tryz.ntmps167
  go_wp2_with fail
  refine (HC.out).mono ?_
  rintro en w2 ⟨v, rfl, hown, ho⟩
  obtain ⟨po2, cap2, rfl⟩ := ownsRow_slice hown
  have hm2 := HM.out.only ho (fun e => e)
  have c2 : w2.cell? ⟨m, 2, none⟩ = some (.string txt) := cell_of hm2 rfl
  have c3 : w2.cell? ⟨m, 3, none⟩ = some (.slice po pn pc) := cell_of hm2 rfl
  have cf := free_of hm2
  have cl := heap_lt hm2
  have HM2 := hide hm2
  have HO := hide ho
  have HOw := hide (own_base hown hC)
  clear hown ho hm2 HC
  go_wp2_with (go_at_call 234; refine (HN.out _).mono ?_; rintro en w' ⟨rfl, h3⟩; subst w')
  go_ret
  have hnt := own_tag HOw.out HM2.out (by decide)
  refine ⟨rfl, ⟨po2, cap2, ?_, ownsRow_of HOw.out (fun k hk => (Below.heap_setCell _ _ _ _ (fun e => hnt (by rw [hk, e]))).trans (Below.heap_setCell _ _ _ _ (fun e => hnt (by rw [hk, e]))))⟩, (HO.out.mono (E := fun k => k = m) (fun _ _ e => e.elim)).trans ((((Only.refl (fun k => k = m) w2).setCell (p := ⟨m, 2, none⟩) (fun _ => rfl) _).setCell (p := ⟨m, 3, none⟩) (fun _ => rfl) _)) (fun _ _ e => e)⟩
  exact heap_setCell_same (heap_setCell_same HM2.out _) _
set_option maxRecDepth 20000 in
set_option maxHeartbeats 1000000 in
theorem count_rec8 (m ab vb : Nat) (txt : ByteArray) (po : Option Addr) (pn pc : Nat) (lst : Value) (size n code : Nat) (w : World) (h : MAt8 w m ab vb txt (.slice po pn pc) lst size n code) :
    Calls Tryz.prog 236 #[.pointer (some ⟨m, 2, none⟩)] w fun en w' => en = .returned (.int .i64 pn) ∧ w' = w := by
  have c3 : w.cell? ⟨m, 3, none⟩ = some (.slice po pn pc) := cell_of h rfl
  clear h
  go_enter Tryz.func236, Tryz.ntmps236
  go_wp2
  go_ret
  exact ⟨rfl, rfl⟩
set_option maxRecDepth 20000 in
set_option maxHeartbeats 4000000 in
theorem count_fields8 (m ab vb : Nat) (txt : ByteArray) (po : Option Addr) (pn pc : Nat) (lst : Value) (size n code : Nat) (cs : List Value) (x3 x4 x5 : Value) (w : World) (h : MAt8 w m ab vb txt (.slice po pn pc) lst size n code) (hv : VAt w vb cs) (h3 : cs[3]? = some x3) (h4 : cs[4]? = some x4) (h5 : cs[5]? = some x5) (hne : m ≠ vb) :
    Calls Tryz.prog 169 #[.pointer (some ⟨m, 0, none⟩)] w fun en w' => en = .returned (.tuple #[]) ∧ VAt w' vb (((cs.set 3 (.int .i64 1)).set 4 (.int .i64 pn)).set 5 (.string ⟨#[]⟩)) ∧ Only (fun k => k = vb) w w' := by
  have c1 : w.cell? ⟨m, 1, none⟩ = some (.slice (some ⟨vb, 0, none⟩) 10 10) := cell_of h rfl
  have c1d : w.drew.cell? ⟨m, 1, none⟩ = some (.slice (some ⟨vb, 0, none⟩) 10 10) := c1
  have v3 := hv.cell h3
  have v4 := hv.cell h4
  have v5 := hv.cell h5
  have vf := free_of hv
  have vl := heap_lt hv
  have ml := heap_lt h
  have HC : Hid (∀ W, W = w.drew → Calls Tryz.prog 236 #[.pointer (some ⟨m, 2, none⟩)] W fun en w' => en = .returned (.int .i64 pn) ∧ w' = W) := fun W hW => by subst hW; exact count_rec8 m ab vb txt po pn pc lst size n code _ h
  have HN := hide (ofNumber pn)
  have HV := hide hv
  clear h hv
  go_enter Tryz.func169, Tryz.ntmps169
  go_region_held3 (fun W => W.cell? ⟨m, 1, none⟩ = some (.slice (some ⟨vb, 0, none⟩) 10 10)) (first | (repeat (first | (with_reducible assumption) | (with_reducible refine past ?_ _) | (with_reducible refine pastD ?_ _) | ((with_reducible refine farC ?_ ?_); (rotate_left; focus (first | (simp; done) | (simp; omega) | omega))))))
    (first | (go_at_call 236; refine (HC.out _ rfl).mono ?_; rintro en w' ⟨rfl, h3⟩; subst w') | (go_at_call 95; refine (HN.out _).mono ?_; rintro en w2 ⟨rfl, hw2⟩; subst hw2))
  all_goals
    go_wp2
    go_end0
    refine ⟨rfl, ?_, ?_⟩
    · exact heapD ((Below.heap_alloc _ _ _ (heap_lt (((HV.out.set 3 _).set 4 _).set 5 _))).trans (((HV.out.set 3 _).set 4 _).set 5 _))
    · exact toDrew (((((Only.refl (fun k => k = vb) w).setCell (p := ⟨vb, 3, none⟩) (fun _ => rfl) _).setCell (p := ⟨vb, 4, none⟩) (fun _ => rfl) _).setCell (p := ⟨vb, 5, none⟩) (fun _ => rfl) _).alloc _)
set_option maxRecDepth 20000 in
set_option maxHeartbeats 4000000 in
theorem become_do8 (m ab vb : Nat) (txt t : ByteArray) (po : Option Addr) (pn pc : Nat) (lst : Value) (size n code : Nat) (cs : List Value) (x3 x4 x5 : Value) (ht : t.size ≤ 500) (hw : (words [] t.data.toList).length ≤ 40) (C : Nat) (w : World) (hC : C ≤ w.heap.size) (h : MAt8 w m ab vb txt (.slice po pn pc) lst size n code) (hv : VAt w vb cs) (h3 : cs[3]? = some x3) (h4 : cs[4]? = some x4) (h5 : cs[5]? = some x5) (f0 : cs[6]? = some (.int .i64 2)) (f1 : cs[7]? = some (.int .i64 0)) (f2 : cs[8]? = some (.string ⟨#[32]⟩)) (hne : m ≠ vb) :
    Calls Tryz.prog 132 #[.pointer (some ⟨m, 0, none⟩), .string t] w fun en w' => en = .returned (.tuple #[]) ∧ MRec8 C w' m ab vb t lst size n code ∧ VAt w' vb (((cs.set 3 (.int .i64 1)).set 4 (.int .i64 (words [] t.data.toList).length)).set 5 (.string ⟨#[]⟩)) ∧ Only (fun k => k = m ∨ k = vb) w w' := by
  have HT := hide (mtext8 m ab vb txt (.slice po pn pc) lst size n code 2 2 0 ⟨#[32]⟩ (by decide) (by omega) w.drew h (hv.cell f0) (hv.cell f1) (hv.cell f2))
  have HB := hide (fun W hCW hW => become_rec8 m ab vb txt t po pn pc lst size n code ht hw C W hCW hW)
  have HC := hide (check_nil (some ⟨m, 0, none⟩))
  have HF := hide (fun po2 cap2 W hM hV => count_fields8 m ab vb t po2 (words [] t.data.toList).length cap2 lst size n code cs x3 x4 x5 W hM hV h3 h4 h5 hne)
  have HM := hide h
  have HV := hide hv
  have HNe := hide hne
  have HCw := hide hC
  clear h hv h3 h4 h5 f0 f1 f2 hw ht hne hC
  go_enter Tryz.func132, Tryz.ntmps132
  go_upto_region 0 with fail
  go_region_with (first | (go_at_call 168; refine (HT.out).mono ?_; rintro en w2 ⟨rfl, ho2⟩; have HO2 := hide ho2; clear ho2) | (go_at_call 167; refine (HB.out _ (Nat.le_trans HCw.out HO2.out.size) (HM.out.only (fromDrew HO2.out) (fun e => e))).mono ?_; rintro en w3 ⟨rfl, hm3, ho3⟩; have HM3 := hide hm3; have HO3 := hide ho3; clear hm3 ho3) | (go_at_call 166; refine (HC.out _).mono ?_; rintro en w' ⟨rfl, h3⟩; subst w'))
  all_goals
    obtain ⟨po3, cap3, hM3, hW3⟩ := HM3.out
    have hO3 : Only (fun k => k = m) w w3 := (fromDrew (HO2.out.mono (E := fun k => k = m) (fun _ _ e => e.elim))).trans HO3.out (fun _ _ e => e)
    have HF3 := hide (HF.out po3 cap3 w3 hM3 (HV.out.only hO3 (fun e => HNe.out e.symm)))
    have HO4 := hide hO3
    have HM4 := hide hM3
    have HV3 := hide (HV.out.only hO3 (fun e => HNe.out e.symm))
    have HW3 := hide hW3
    clear hO3 hM3 hW3
    go_wp2_with fail
    refine (HF3.out).mono ?_
    rintro en w4 ⟨rfl, hv4, ho4⟩
    have HV4 := hide hv4
    have HO5 := hide ho4
    clear hv4 ho4
    go_wp2
    go_end0
    have hnt := own_tag HW3.out HV3.out (by decide)
    exact ⟨rfl, ⟨po3, cap3, HM4.out.only HO5.out (fun e => HNe.out e), ownsRow_of HW3.out (fun k hk => HO5.out.block k (HW3.out.lt k hk).2 (fun e => hnt (by rw [hk, e])))⟩, HV4.out, (HO4.out.mono (E := fun k => k = m ∨ k = vb) (fun _ _ e => Or.inl e)).trans (HO5.out) (fun _ _ e => Or.inr e)⟩
set_option maxRecDepth 20000 in
set_option maxHeartbeats 4000000 in
theorem read_do8 (m ab vb : Nat) (txt t : ByteArray) (po : Option Addr) (pn pc : Nat) (lst : Value) (size n code : Nat) (cs : List Value) (x3 x4 x5 : Value) (ht : t.size ≤ 500) (hw : (words [] t.data.toList).length ≤ 40) (C : Nat) (w : World) (hC : C ≤ w.heap.size) (h : MAt8 w m ab vb txt (.slice po pn pc) lst size n code) (hv : VAt w vb cs) (h0 : cs[0]? = some (.int .i64 1)) (h1 : cs[1]? = some (.int .i64 0)) (h2 : cs[2]? = some (.string ⟨#[]⟩)) (h3 : cs[3]? = some x3) (h4 : cs[4]? = some x4) (h5 : cs[5]? = some x5) (f0 : cs[6]? = some (.int .i64 2)) (f1 : cs[7]? = some (.int .i64 0)) (f2 : cs[8]? = some (.string ⟨#[32]⟩)) (hne : m ≠ vb) :
    Calls Tryz.prog 100 #[.pointer (some ⟨m, 0, none⟩), .string t] w fun en w' => en = .returned (.tuple #[]) ∧ MRec8 C w' m ab vb t lst size n code ∧ VAt w' vb (((((((cs.set 0 (.int .i64 1)).set 1 (.int .i64 1)).set 2 (.string ⟨#[]⟩))).set 3 (.int .i64 1)).set 4 (.int .i64 (words [] t.data.toList).length)).set 5 (.string ⟨#[]⟩)) ∧ Only (fun k => k = m ∨ k = vb) w w' := by
  have c1 : w.cell? ⟨m, 1, none⟩ = some (.slice (some ⟨vb, 0, none⟩) 10 10) := cell_of h rfl
  have v0 := hv.cell h0
  have v1 := hv.cell h1
  have v2 := hv.cell h2
  have vf := free_of hv
  have vl := heap_lt hv
  have ml := heap_lt h
  have HN := hide (fun W => number_else 1 0 ⟨#[]⟩ W rfl)
  have HO := hide (ofNumber 1)
  have HB := hide (fun W hCW hM hV => become_do8 m ab vb txt t po pn pc lst size n code (((cs.set 0 (.int .i64 1)).set 1 (.int .i64 1)).set 2 (.string ⟨#[]⟩)) x3 x4 x5 ht hw C W hCW hM hV (setNe (setNe (setNe h3 (by decide)) (by decide)) (by decide)) (setNe (setNe (setNe h4 (by decide)) (by decide)) (by decide)) (setNe (setNe (setNe h5 (by decide)) (by decide)) (by decide)) (setNe (setNe (setNe f0 (by decide)) (by decide)) (by decide)) (setNe (setNe (setNe f1 (by decide)) (by decide)) (by decide)) (setNe (setNe (setNe f2 (by decide)) (by decide)) (by decide)) hne)
  have HM := hide h
  have HV := hide hv
  have HNe := hide hne
  have HCw := hide hC
  clear h hv h0 h1 h2 h3 h4 h5 f0 f1 f2 hw ht hC
  go_enter Tryz.func100, Tryz.ntmps100
  go_upto_region 0 with fail
  go_region_with (first | (go_at_call 131; refine (HN.out _).mono ?_; rintro en w2 ⟨rfl, hb⟩; have ho2 := Only.ofBelow hb (fun _ => False); have c1' := (ho2.cell (p := ⟨m, 1, none⟩) ml (fun e => e)).trans c1; have v0' := (ho2.cell (p := ⟨vb, 0, none⟩) vl (fun e => e)).trans v0; have v1' := (ho2.cell (p := ⟨vb, 1, none⟩) vl (fun e => e)).trans v1; have v2' := (ho2.cell (p := ⟨vb, 2, none⟩) vl (fun e => e)).trans v2; have hv2 := HV.out.only (fromDrew ho2) (fun e => e); have vf' := free_of hv2; have vl' := heap_lt hv2; have ml' : m < w2.heap.size := Nat.lt_of_lt_of_le ml ho2.size; have HO2 := hide (fromDrew ho2); have HV2 := hide hv2; clear hv2 ho2 hb) | (go_at_call 95; refine (HO.out _).mono ?_; rintro en w3 ⟨rfl, hw3⟩; subst hw3))
  all_goals
    go_wp2_with fail
    have hO4 := hide (HO2.out.mono (E := fun k => k = vb) (fun _ _ e => e.elim) |>.setCell (p := ⟨vb, 0, none⟩) (fun _ => rfl) (.int .i64 1) |>.setCell (p := ⟨vb, 1, none⟩) (fun _ => rfl) (.int .i64 1) |>.setCell (p := ⟨vb, 2, none⟩) (fun _ => rfl) (.string ⟨#[]⟩) |>.alloc (.cells #[.int .i64 1, .int .i64 1, .string ⟨#[]⟩] 203))
    have hV4 := hide (((HV2.out.set 0 (.int .i64 1)).set 1 (.int .i64 1)).set 2 (.string ⟨#[]⟩))
    refine (HB.out _ (Nat.le_trans HCw.out hO4.out.size) (HM.out.only hO4.out (fun e => HNe.out e)) ((Below.heap_alloc _ _ _ (heap_lt hV4.out)).trans hV4.out)).mono ?_
    rintro en w4 ⟨rfl, hm4, hv4, ho4⟩
    have HM4 := hide hm4
    have HV4 := hide hv4
    have HO4 := hide ho4
    clear hm4 hv4 ho4
    go_wp2
    go_end0
    exact ⟨rfl, HM4.out, HV4.out, (hO4.out.mono (E := fun k => k = m ∨ k = vb) (fun _ _ e => Or.inr e)).trans HO4.out (fun _ _ e => e)⟩
/-- Where a run's machine lies: wN is the world in which its program was ready. -/
structure Pl8 where
  wN : World
  m : Nat
  ab : Nat
  aM : Nat
  akb : Nat
  vb : Nat
  sb : Nat
/-- What a run's machine holds. -/
structure St8 where
  txt : ByteArray
  cs : List Value
  A : AL
  out : ByteArray
  fuel : Nat
/-- A run under way. -/
structure On8 (p : Pl8) (s : St8) (W : World) : Prop where
  hm : p.wN.heap.size ≤ p.m
  hv : p.wN.heap.size ≤ p.vb
  hs : p.wN.heap.size ≤ p.sb
  ha : p.wN.heap.size ≤ p.ab ∧ p.wN.heap.size ≤ p.aM ∧ p.wN.heap.size ≤ p.akb
  nmv : p.m ≠ p.vb
  nms : p.m ≠ p.sb
  nvs : p.vb ≠ p.sb
  M : ∃ po pn pc, MAt8 W p.m p.ab p.vb s.txt (.slice po pn pc) (.slice (some ⟨p.sb, 0, none⟩) 1 1) s.out.size s.fuel 0
  V : VAt W p.vb s.cs
  S : ∃ tv, W.heap[p.sb]? = some (.cells #[.string ⟨#[]⟩, tv] 142 (0, 0)) ∧ W.ownsRow p.wN.heap.size 5 1 tv s.out.size (Lib.strCells s.out)
  R : ∃ kv, ArrAt W p.wN.heap.size p.ab p.aM p.akb kv s.A
  O : Only (fun _ => False) p.wN W
theorem ArrAt.only {W W' : World} {C ab M kb : Nat} {kv : Value} {A : AL} {D : Nat → Prop} (h : ArrAt W C ab M kb kv A) (ho : Only D W W') (h1 : ¬ D ab) (h2 : ¬ D kb) (h3 : ¬ D M) (h4 : ∀ q, kv.ownBlock = some q → ¬ D q) : ArrAt W' C ab M kb kv A := by
  obtain ⟨es, ck, e1, e2⟩ := h.m
  exact ⟨(ho.block _ (heap_lt h.a) h1).trans h.a, (ho.block _ (heap_lt h.k) h2).trans h.k, ownsRow_of h.r (fun k hk => ho.block k (h.r.lt k hk).2 (h4 k hk)), ⟨es, ck, (ho.block _ (heap_lt e1) h3).trans e1, e2⟩, h.p, h.z⟩
/-- The places are apart. -/
theorem On8.ne {p : Pl8} {s : St8} {W : World} (h : On8 p s W) : (p.m ≠ p.ab ∧ p.m ≠ p.aM ∧ p.m ≠ p.akb) ∧ (p.vb ≠ p.ab ∧ p.vb ≠ p.aM ∧ p.vb ≠ p.akb) ∧ (p.sb ≠ p.ab ∧ p.sb ≠ p.aM ∧ p.sb ≠ p.akb) ∧ (p.ab ≠ p.aM ∧ p.ab ≠ p.akb ∧ p.akb ≠ p.aM) := by
  obtain ⟨po, pn, pc, hM⟩ := h.M
  obtain ⟨tv, hS, hT⟩ := h.S
  obtain ⟨kv, hA⟩ := h.R
  obtain ⟨es, ck, e1, _⟩ := hA.m
  have hV := h.V
  unfold MAt8 at hM
  unfold VAt at hV
  have a := hA.a
  have k := hA.k
  have n := hA.ne
  refine ⟨⟨fun e => ?_, fun e => ?_, fun e => ?_⟩, ⟨fun e => ?_, fun e => ?_, fun e => ?_⟩, ⟨fun e => ?_, fun e => ?_, fun e => ?_⟩, n.1.1, n.1.2, n.2.1⟩
  · rw [e, a] at hM; cases hM
  · rw [e, e1] at hM; cases hM
  · rw [e, k] at hM; cases hM
  · rw [e, a] at hV; simp at hV
  · rw [e, e1] at hV; simp at hV
  · rw [e, k] at hV; simp at hV
  · rw [e, a] at hS; cases hS
  · rw [e, e1] at hS; cases hS
  · rw [e, k] at hS; cases hS
/-- A row of another type is no map. -/
theorem own_map {w : World} {B : Nat} {e : TypeId} {z : Nat} {v : Value} {n : Nat} {xs : List Value} {M : Nat} {es : Array MapEntry} {c : Nat} (h : w.ownsRow B e z v n xs) (hp : w.heap[M]? = some (.map es c)) : v.ownBlock ≠ some M := fun he => by
  obtain ⟨c, hc⟩ := row_tag h M he.symm
  rw [hp] at hc
  cases hc
theorem own_own {w : World} {B B' : Nat} {e e' : TypeId} {z z' : Nat} {v v' : Value} {n n' : Nat} {xs xs' : List Value} (h : w.ownsRow B e z v n xs) (h' : w.ownsRow B' e' z' v' n' xs') (hne : e ≠ e') {q : Nat} (hq : v.ownBlock = some q) : v'.ownBlock ≠ some q := fun he => by
  obtain ⟨c, hc⟩ := row_tag h q hq.symm
  obtain ⟨c', hc'⟩ := row_tag h' q he.symm
  rw [hc] at hc'
  injection hc' with hc'
  injection hc' with _ h2
  exact hne h2
theorem On8.calm {p : Pl8} {s : St8} {W W' : World} (h : On8 p s W) (ho : Only (fun _ => False) W W') : On8 p s W' := by
  obtain ⟨po, pn, pc, hM⟩ := h.M
  obtain ⟨tv, hS, hT⟩ := h.S
  obtain ⟨kv, hA⟩ := h.R
  exact ⟨h.hm, h.hv, h.hs, h.ha, h.nmv, h.nms, h.nvs, ⟨po, pn, pc, hM.only ho (fun e => e)⟩, h.V.only ho (fun e => e), ⟨tv, (ho.block p.sb (heap_lt hS) (fun e => e)).trans hS, ownsRow_of hT (fun k hk => ho.block k (hT.lt k hk).2 (fun e => e))⟩, ⟨kv, hA.calm ho⟩, h.O.trans ho (fun _ _ e => e)⟩
/-- The variables turn. -/
theorem On8.turnV {p : Pl8} {s : St8} {W W' : World} {cs : List Value} (h : On8 p s W) (ho : Only (fun q => q = p.vb) W W') (hV : VAt W' p.vb cs) : On8 p { s with cs := cs } W' := by
  obtain ⟨po, pn, pc, hM⟩ := h.M
  obtain ⟨tv, hS, hT⟩ := h.S
  obtain ⟨kv, hA⟩ := h.R
  have h1 := own_tag hA.r h.V (by decide)
  have h2 := own_tag hT h.V (by decide)
  have hv := h.hv
  have hn := h.ne
  exact ⟨h.hm, h.hv, h.hs, h.ha, h.nmv, h.nms, h.nvs, ⟨po, pn, pc, hM.only ho h.nmv⟩, hV, ⟨tv, (ho.block p.sb (heap_lt hS) (fun e => h.nvs e.symm)).trans hS, ownsRow_of hT (fun k hk => ho.block k (hT.lt k hk).2 (fun e => h2 (by rw [hk, e])))⟩, ⟨kv, hA.only ho (Ne.symm hn.2.1.1) (Ne.symm hn.2.1.2.2) (Ne.symm hn.2.1.2.1) (fun q hq e => h1 (by rw [hq, e]))⟩, h.O.trans ho (fun q hq e => by omega)⟩
/-- The machine's block turns. -/
theorem On8.turnM {p : Pl8} {s : St8} {W W' : World} {t : ByteArray} {n : Nat} {po : Option Addr} {pn pc : Nat} (h : On8 p s W) (ho : Only (fun q => q = p.m) W W') (hM : MAt8 W' p.m p.ab p.vb t (.slice po pn pc) (.slice (some ⟨p.sb, 0, none⟩) 1 1) s.out.size n 0) : On8 p { s with txt := t, fuel := n } W' := by
  obtain ⟨_, _, _, hM0⟩ := h.M
  obtain ⟨tv, hS, hT⟩ := h.S
  obtain ⟨kv, hA⟩ := h.R
  have h1 := own_tag hA.r hM0 (by decide)
  have h2 := own_tag hT hM0 (by decide)
  have hm := h.hm
  have hn := h.ne
  exact ⟨h.hm, h.hv, h.hs, h.ha, h.nmv, h.nms, h.nvs, ⟨po, pn, pc, hM⟩, h.V.only ho (fun e => h.nmv e.symm), ⟨tv, (ho.block p.sb (heap_lt hS) (fun e => h.nms e.symm)).trans hS, ownsRow_of hT (fun k hk => ho.block k (hT.lt k hk).2 (fun e => h2 (by rw [hk, e])))⟩, ⟨kv, hA.only ho (Ne.symm hn.1.1) (Ne.symm hn.1.2.2) (Ne.symm hn.1.2.1) (fun q hq e => h1 (by rw [hq, e]))⟩, h.O.trans ho (fun q hq e => by omega)⟩
theorem On8.step {p : Pl8} {s : St8} {W : World} {n : Nat} (h : On8 p { s with fuel := n + 1 } W) : On8 p { s with fuel := n } (W.setCell ⟨p.m, 7, none⟩ (.int .i64 n)) := by
  obtain ⟨po, pn, pc, hM⟩ := h.M
  exact h.turnM (s := { s with fuel := n + 1 }) ((Only.refl (fun q => q = p.m) W).setCell (p := ⟨p.m, 7, none⟩) (fun _ => rfl) _) (hM.setFuel n)
/-- The array turns. -/
theorem On8.turnA {p : Pl8} {s : St8} {W W' : World} {kv kv' : Value} {A : AL} (h : On8 p s W) (hA0 : ArrAt W p.wN.heap.size p.ab p.aM p.akb kv s.A) (ho : Only (fun q => q = p.akb ∨ q = p.aM ∨ kv.ownBlock = some q) W W') (hA : ArrAt W' p.wN.heap.size p.ab p.aM p.akb kv' A) : On8 p { s with A := A } W' := by
  obtain ⟨po, pn, pc, hM⟩ := h.M
  obtain ⟨tv, hS, hT⟩ := h.S
  have hn := h.ne
  have h1 := own_tag hA0.r hM (by decide)
  have h2 := own_tag hA0.r h.V (by decide)
  have h3 := own_tag hA0.r hS (by decide)
  have h4 := own_tag hT hA0.k (by decide)
  obtain ⟨es, ck, e1, _⟩ := hA0.m
  have h5 := own_map hT e1
  have ha := h.ha
  exact ⟨h.hm, h.hv, h.hs, h.ha, h.nmv, h.nms, h.nvs, ⟨po, pn, pc, hM.only ho (fun e => by rcases e with e | e | e; exact hn.1.2.2 e; exact hn.1.2.1 e; exact h1 e)⟩, h.V.only ho (fun e => by rcases e with e | e | e; exact hn.2.1.2.2 e; exact hn.2.1.2.1 e; exact h2 e), ⟨tv, (ho.block p.sb (heap_lt hS) (fun e => by rcases e with e | e | e; exact hn.2.2.1.2.2 e; exact hn.2.2.1.2.1 e; exact h3 e)).trans hS, ownsRow_of hT (fun k hk => ho.block k (hT.lt k hk).2 (fun e => by rcases e with e | e | e; exact h4 (by rw [hk, e]); exact h5 (by rw [hk, e]); exact own_own hA0.r hT (by decide) e hk))⟩, ⟨kv', hA⟩, h.O.trans ho (fun q hq e => by rcases e with e | e | e; omega; omega; exact absurd (hA0.r.lt q e).1 (by omega))⟩
/-- A record is read. -/
theorem read_on (p : Pl8) (s : St8) (t : ByteArray) (ht : t.size ≤ 500) (hw : (words [] t.data.toList).length ≤ 40) (x3 x4 x5 : Value) (h0 : s.cs[0]? = some (.int .i64 1)) (h1 : s.cs[1]? = some (.int .i64 0)) (h2 : s.cs[2]? = some (.string ⟨#[]⟩)) (h3 : s.cs[3]? = some x3) (h4 : s.cs[4]? = some x4) (h5 : s.cs[5]? = some x5) (f0 : s.cs[6]? = some (.int .i64 2)) (f1 : s.cs[7]? = some (.int .i64 0)) (f2 : s.cs[8]? = some (.string ⟨#[32]⟩)) (W : World) (h : On8 p s W) :
    Calls Tryz.prog 100 #[.pointer (some ⟨p.m, 0, none⟩), .string t] W fun en w' => en = .returned (.tuple #[]) ∧ On8 p { s with txt := t, cs := ((((((s.cs.set 0 (.int .i64 1)).set 1 (.int .i64 1)).set 2 (.string ⟨#[]⟩))).set 3 (.int .i64 1)).set 4 (.int .i64 (words [] t.data.toList).length)).set 5 (.string ⟨#[]⟩) } w' ∧ Only (fun q => q = p.m ∨ q = p.vb) W w' := by
  obtain ⟨po, pn, pc, hM⟩ := h.M
  obtain ⟨tv, hS, hT⟩ := h.S
  obtain ⟨kv, hA⟩ := h.R
  have hm := h.hm
  have hv := h.hv
  have hn := h.ne
  have a1 := own_tag hT hM (by decide)
  have a2 := own_tag hT h.V (by decide)
  have b1 := own_tag hA.r hM (by decide)
  have b2 := own_tag hA.r h.V (by decide)
  refine (read_do8 p.m p.ab p.vb s.txt t po pn pc _ s.out.size s.fuel 0 s.cs x3 x4 x5 ht hw p.wN.heap.size W h.O.size hM h.V h0 h1 h2 h3 h4 h5 f0 f1 f2 h.nmv).mono ?_
  rintro en w' ⟨e, ⟨po2, pc2, hM2, hF2⟩, hV2, ho⟩
  exact ⟨e, ⟨h.hm, h.hv, h.hs, h.ha, h.nmv, h.nms, h.nvs, ⟨_, _, _, hM2⟩, hV2, ⟨tv, (ho.block p.sb (heap_lt hS) (fun e => by rcases e with e | e; exact h.nms e.symm; exact h.nvs e.symm)).trans hS, ownsRow_of hT (fun k hk => ho.block k (hT.lt k hk).2 (fun e => by rcases e with e | e; exact a1 (by rw [hk, e]); exact a2 (by rw [hk, e])))⟩, ⟨kv, hA.only ho (fun e => by rcases e with e | e; exact hn.1.1 e.symm; exact hn.2.1.1 e.symm) (fun e => by rcases e with e | e; exact hn.1.2.2 e.symm; exact hn.2.1.2.2 e.symm) (fun e => by rcases e with e | e; exact hn.1.2.1 e.symm; exact hn.2.1.2.1 e.symm) (fun q hq e => by rcases e with e | e; exact b1 (by rw [hq, e]); exact b2 (by rw [hq, e]))⟩, h.O.trans ho (fun q hq e => by rcases e with e | e <;> omega)⟩, ho⟩
end Go.Proofs.YtdbdbaepmdmnfaaGreatDoor

