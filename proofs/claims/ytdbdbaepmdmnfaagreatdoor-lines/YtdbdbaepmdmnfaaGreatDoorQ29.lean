import Derived.Test.YtdbdbaepmdmnfaaGreatDoorQ21
import Derived.Test.YtdbdbaepmdmnfaaGreatDoorQ28
namespace Go.Proofs.YtdbdbaepmdmnfaaGreatDoor
open Go.RowKit
set_option maxRecDepth 20000 in
set_option maxHeartbeats 1000000 in
theorem check_number (n : Nat) (hn : n ≤ 40) (w : World) : Calls Tryz.prog 234 #[.int .i64 n] w fun en w' => en = .returned .nilIface ∧ w' = w := by
  have h1 : ((n : Int) < 0) = False := by simp
  have h2 : ((n : Int) > 40) = False := by simp; omega
  go_enter Tryz.func234, Tryz.ntmps234
  go_wp2
  go_ret
  exact ⟨rfl, rfl⟩
/-- A machine whose record is a text, its fields so many. -/
def MRec (w : World) (m ab vb : Nat) (txt : ByteArray) (lst : Value) (size fuel code : Nat) : Prop := ∃ po cap, MAt w m ab vb txt (.slice po (words [] txt.data.toList).length cap) lst size fuel code
set_option maxRecDepth 20000 in
set_option maxHeartbeats 4000000 in
theorem become_rec (m ab vb : Nat) (txt t : ByteArray) (po : Option Addr) (pn pc : Nat) (lst : Value) (size n code : Nat) (ht : t.size ≤ 500) (hw : (words [] t.data.toList).length ≤ 40) (w : World) (h : MAt w m ab vb txt (.slice po pn pc) lst size n code) :
    Calls Tryz.prog 167 #[.pointer (some ⟨m, 2, none⟩), .string t, .string ⟨#[32]⟩] w fun en w' => en = .returned .nilIface ∧ MRec w' m ab vb t lst size n code ∧ Only (fun k => k = m) w w' := by
  have HC := hide (cut27_any t ⟨#[32]⟩ ht (by decide) w)
  have HM := hide h
  have HW := hide hw
  have HN := hide (check_number (words [] t.data.toList).length hw)
  clear h hw
  have htl : ¬ (500 < t.data.toList.length ∨ 500 < (⟨#[32]⟩ : ByteArray).data.toList.length) := by rw [len_eq]; simp; omega
  go_enter Tryz.func167, Tryz.ntmps167
  go_wp2_with fail
  refine (HC.out).mono ?_
  rintro en w2 ⟨v, L, ok, rfl, hown, hsp, ho⟩
  obtain ⟨rfl, hok⟩ := (hsp.2 htl).1 rfl
  obtain ⟨po2, cap2, rfl⟩ := ownsRow_slice hown
  have hm2 := HM.out.only ho (fun e => e)
  have c2 : w2.cell? ⟨m, 2, none⟩ = some (.string txt) := cell_of hm2 rfl
  have c3 : w2.cell? ⟨m, 3, none⟩ = some (.slice po pn pc) := cell_of hm2 rfl
  have cf := free_of hm2
  have cl := heap_lt hm2
  have hok2 : ok = true := by cases ok with | true => rfl | false => simp at hok
  subst hok2
  have HM2 := hide hm2
  have HO := hide ho
  clear hown hsp ho hm2 hok HC
  go_wp2_with (go_at_call 234; refine (HN.out _).mono ?_; rintro en w' ⟨rfl, h3⟩; subst w')
  go_ret
  refine ⟨rfl, ⟨po2, cap2, ?_⟩, (HO.out.mono (E := fun k => k = m) (fun _ _ e => e.elim)).trans ((((Only.refl (fun k => k = m) w2).setCell (p := ⟨m, 2, none⟩) (fun _ => rfl) _).setCell (p := ⟨m, 3, none⟩) (fun _ => rfl) _)) (fun _ _ e => e)⟩
  exact heap_setCell_same (heap_setCell_same HM2.out _) _
theorem VAt.only {w w' : World} {vb : Nat} {cs : List Value} {D : Nat → Prop} (h : VAt w vb cs) (ho : Only D w w') (hd : ¬ D vb) : VAt w' vb cs := (ho.block vb (heap_lt h) hd).trans h
theorem VAt.set {w : World} {vb : Nat} {cs : List Value} (h : VAt w vb cs) (o : Nat) (a : Value) : VAt (w.setCell ⟨vb, o, none⟩ a) vb (cs.set o a) := by
  have := heap_setCell_same (o := o) h a
  unfold VAt
  simpa using this
theorem VAt.cell {w : World} {vb : Nat} {cs : List Value} (h : VAt w vb cs) {o : Nat} {a : Value} (ha : cs[o]? = some a) : w.cell? ⟨vb, o, none⟩ = some a := cell_of h (by simpa using ha)
set_option maxRecDepth 20000 in
set_option maxHeartbeats 1000000 in
theorem count_rec (m ab vb : Nat) (txt : ByteArray) (po : Option Addr) (pn pc : Nat) (lst : Value) (size n code : Nat) (w : World) (h : MAt w m ab vb txt (.slice po pn pc) lst size n code) :
    Calls Tryz.prog 236 #[.pointer (some ⟨m, 2, none⟩)] w fun en w' => en = .returned (.int .i64 pn) ∧ w' = w := by
  have c3 : w.cell? ⟨m, 3, none⟩ = some (.slice po pn pc) := cell_of h rfl
  clear h
  go_enter Tryz.func236, Tryz.ntmps236
  go_wp2
  go_ret
  exact ⟨rfl, rfl⟩
set_option maxRecDepth 20000 in
set_option maxHeartbeats 4000000 in
theorem count_fields (m ab vb : Nat) (txt : ByteArray) (po : Option Addr) (pn pc : Nat) (lst : Value) (size n code : Nat) (cs : List Value) (x3 x4 x5 : Value) (w : World) (h : MAt w m ab vb txt (.slice po pn pc) lst size n code) (hv : VAt w vb cs) (h3 : cs[3]? = some x3) (h4 : cs[4]? = some x4) (h5 : cs[5]? = some x5) (hne : m ≠ vb) :
    Calls Tryz.prog 169 #[.pointer (some ⟨m, 0, none⟩)] w fun en w' => en = .returned (.tuple #[]) ∧ VAt w' vb (((cs.set 3 (.int .i64 1)).set 4 (.int .i64 pn)).set 5 (.string ⟨#[]⟩)) ∧ Only (fun k => k = vb) w w' := by
  have c1 : w.cell? ⟨m, 1, none⟩ = some (.slice (some ⟨vb, 0, none⟩) 7 7) := cell_of h rfl
  have c1d : w.drew.cell? ⟨m, 1, none⟩ = some (.slice (some ⟨vb, 0, none⟩) 7 7) := c1
  have v3 := hv.cell h3
  have v4 := hv.cell h4
  have v5 := hv.cell h5
  have vf := free_of hv
  have vl := heap_lt hv
  have ml := heap_lt h
  have HC : Hid (∀ W, W = w.drew → Calls Tryz.prog 236 #[.pointer (some ⟨m, 2, none⟩)] W fun en w' => en = .returned (.int .i64 pn) ∧ w' = W) := fun W hW => by subst hW; exact count_rec m ab vb txt po pn pc lst size n code _ h
  have HN := hide (ofNumber pn)
  have HV := hide hv
  clear h hv
  go_enter Tryz.func169, Tryz.ntmps169
  go_region_held3 (fun W => W.cell? ⟨m, 1, none⟩ = some (.slice (some ⟨vb, 0, none⟩) 7 7)) (first | (repeat (first | (with_reducible assumption) | (with_reducible refine past ?_ _) | (with_reducible refine pastD ?_ _) | ((with_reducible refine farC ?_ ?_); (rotate_left; focus (first | (simp; done) | (simp; omega) | omega))))))
    (first | (go_at_call 236; refine (HC.out _ rfl).mono ?_; rintro en w' ⟨rfl, h3⟩; subst w') | (go_at_call 95; refine (HN.out _).mono ?_; rintro en w2 ⟨rfl, hw2⟩; subst hw2))
  all_goals
    go_wp2
    go_end0
    refine ⟨rfl, ?_, ?_⟩
    · exact heapD ((Below.heap_alloc _ _ _ (heap_lt (((HV.out.set 3 _).set 4 _).set 5 _))).trans (((HV.out.set 3 _).set 4 _).set 5 _))
    · exact toDrew (((((Only.refl (fun k => k = vb) w).setCell (p := ⟨vb, 3, none⟩) (fun _ => rfl) _).setCell (p := ⟨vb, 4, none⟩) (fun _ => rfl) _).setCell (p := ⟨vb, 5, none⟩) (fun _ => rfl) _).alloc _)
set_option maxRecDepth 20000 in
set_option maxHeartbeats 4000000 in
theorem become_do (m ab vb : Nat) (txt t : ByteArray) (po : Option Addr) (pn pc : Nat) (lst : Value) (size n code : Nat) (cs : List Value) (x3 x4 x5 : Value) (ht : t.size ≤ 500) (hw : (words [] t.data.toList).length ≤ 40) (w : World) (h : MAt w m ab vb txt (.slice po pn pc) lst size n code) (hv : VAt w vb cs) (h3 : cs[3]? = some x3) (h4 : cs[4]? = some x4) (h5 : cs[5]? = some x5) (f0 : cs[6]? = some (.int .i64 2)) (f1 : cs[7]? = some (.int .i64 0)) (f2 : cs[8]? = some (.string ⟨#[32]⟩)) (hne : m ≠ vb) :
    Calls Tryz.prog 132 #[.pointer (some ⟨m, 0, none⟩), .string t] w fun en w' => en = .returned (.tuple #[]) ∧ MRec w' m ab vb t lst size n code ∧ VAt w' vb (((cs.set 3 (.int .i64 1)).set 4 (.int .i64 (words [] t.data.toList).length)).set 5 (.string ⟨#[]⟩)) ∧ Only (fun k => k = m ∨ k = vb) w w' := by
  have HT := hide (mtext m ab vb txt (.slice po pn pc) lst size n code 2 2 0 ⟨#[32]⟩ (by decide) (by omega) w.drew h (hv.cell f0) (hv.cell f1) (hv.cell f2))
  have HB := hide (fun W hW => become_rec m ab vb txt t po pn pc lst size n code ht hw W hW)
  have HC := hide (check_nil (some ⟨m, 0, none⟩))
  have HF := hide (fun po2 cap2 W hM hV => count_fields m ab vb t po2 (words [] t.data.toList).length cap2 lst size n code cs x3 x4 x5 W hM hV h3 h4 h5 hne)
  have HM := hide h
  have HV := hide hv
  have HNe := hide hne
  clear h hv h3 h4 h5 f0 f1 f2 hw ht hne
  go_enter Tryz.func132, Tryz.ntmps132
  go_upto_region 0 with fail
  go_region_with (first | (go_at_call 168; refine (HT.out).mono ?_; rintro en w2 ⟨rfl, ho2⟩; have HO2 := hide ho2; clear ho2) | (go_at_call 167; refine (HB.out _ (HM.out.only (fromDrew HO2.out) (fun e => e))).mono ?_; rintro en w3 ⟨rfl, hm3, ho3⟩; have HM3 := hide hm3; have HO3 := hide ho3; clear hm3 ho3) | (go_at_call 166; refine (HC.out _).mono ?_; rintro en w' ⟨rfl, h3⟩; subst w'))
  all_goals
    obtain ⟨po3, cap3, hM3⟩ := HM3.out
    have hO3 : Only (fun k => k = m) w w3 := (fromDrew (HO2.out.mono (E := fun k => k = m) (fun _ _ e => e.elim))).trans HO3.out (fun _ _ e => e)
    have HF3 := hide (HF.out po3 cap3 w3 hM3 (HV.out.only hO3 (fun e => HNe.out e.symm)))
    have HO4 := hide hO3
    have HM4 := hide hM3
    clear hO3 hM3
    go_wp2_with fail
    refine (HF3.out).mono ?_
    rintro en w4 ⟨rfl, hv4, ho4⟩
    have HV4 := hide hv4
    have HO5 := hide ho4
    clear hv4 ho4
    go_wp2
    go_end0
    exact ⟨rfl, ⟨po3, cap3, HM4.out.only HO5.out (fun e => HNe.out e)⟩, HV4.out, (HO4.out.mono (E := fun k => k = m ∨ k = vb) (fun _ _ e => Or.inl e)).trans (HO5.out) (fun _ _ e => Or.inr e)⟩
theorem setNe {l : List Value} {i j : Nat} {a b : Value} (h : l[j]? = some b) (hij : i ≠ j) : (l.set i a)[j]? = some b := by rw [List.getElem?_set_ne hij]; exact h
end Go.Proofs.YtdbdbaepmdmnfaaGreatDoor
