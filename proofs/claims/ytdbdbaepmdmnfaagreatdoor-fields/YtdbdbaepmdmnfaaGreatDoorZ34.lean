import Derived.Test.YtdbdbaepmdmnfaaGreatDoorZ33
import Derived.Test.YtdbdbaepmdmnfaaGreatDoorZ17
namespace Go.Proofs.YtdbdbaepmdmnfaaGreatDoor
open Go.RowKit
set_option maxRecDepth 20000 in
set_option maxHeartbeats 4000000 in
/-- A text put out behind what was put out. -/
theorem put_more9 (C m ab vb sb : Nat) (txt : ByteArray) (flds tv : Value) (n code : Nat) (out s : ByteArray) (hs : s.size ≤ 1000) (hos : out.size + s.size ≤ 4000) (w : World) (hCw : C ≤ w.heap.size) (h : MAt8 w m ab vb txt flds (.slice (some ⟨sb, 0, none⟩) 1 1) out.size n code) (hS : w.heap[sb]? = some (.cells #[.string ⟨#[]⟩, tv] 142 (0, 0))) (hown0 : w.ownsRow C 5 1 tv out.size (Lib.strCells out)) :
    Calls Tryz.prog 376 #[.pointer (some ⟨m, 5, none⟩), .string ⟨#[]⟩, .string s] w fun en w' => en = .returned .nilIface ∧ MAt8 w' m ab vb txt flds (.slice (some ⟨sb, 0, none⟩) 1 1) (out ++ s).size n code ∧ (∃ tv, w'.heap[sb]? = some (.cells #[.string ⟨#[]⟩, tv] 142 (0, 0)) ∧ w'.ownsRow C 5 1 tv (out ++ s).size (Lib.strCells (out ++ s))) ∧ Only (fun k => k = m ∨ k = sb ∨ tv.ownBlock = some k) w w' := by
  obtain ⟨i0, hi, hz0, hz1, hz2⟩ := info_parts infoByte5
  have hne : sb ≠ m := fun e => by have h1 := h; unfold MAt8 at h1; rw [← e, hS] at h1; cases h1
  have c5 : w.cell? ⟨m, 5, none⟩ = some (.slice (some ⟨sb, 0, none⟩) 1 1) := cell_of h rfl
  have c6 : w.cell? ⟨m, 6, none⟩ = some (.int .i64 out.size) := cell_of h rfl
  have cf := free_of h
  have s0 : w.cell? ⟨sb, 0, none⟩ = some (.string ⟨#[]⟩) := cell_of hS rfl
  have s1 : w.cell? ⟨sb, 1, none⟩ = some tv := cell_of hS rfl
  have sf := free_of hS
  have hli : ¬ (4000 : Int) < (out.size : Int) + (s.size : Int) := by omega
  have hS6 : (w.setCell ⟨m, 6, none⟩ (.int .i64 ((out.size : Int) + (s.size : Int)))).heap[sb]? = some (.cells #[.string ⟨#[]⟩, tv] 142 (0, 0)) := (Below.heap_setCell _ _ _ _ hne).trans hS
  have hM6 := h.setSize (out.size + s.size)
  have hM6 : MAt8 (w.setCell ⟨m, 6, none⟩ (.int .i64 ((out.size : Int) + (s.size : Int)))) m ab vb txt flds (.slice (some ⟨sb, 0, none⟩) 1 1) (out.size + s.size) n code := by
    rw [show ((out.size : Int) + (s.size : Int)) = ((out.size + s.size : Nat) : Int) by omega]; exact hM6
  have HN := hide (named_main m 5 sb _ (cell_of hM6 rfl) (cell_of hS6 rfl))
  have htm := own_tag hown0 h (by decide)
  have hto := own_tag hown0 hS (by decide)
  have hown6 : (w.setCell ⟨m, 6, none⟩ (.int .i64 ((out.size : Int) + (s.size : Int)))).ownsRow C 5 1 tv out.size (Lib.strCells out) := ownsRow_of hown0 (fun k hk => Below.heap_setCell _ _ _ _ (fun e => htm (by rw [hk, e])))
  have HM6 := hide hM6
  have HS6 := hide hS6
  have HTm := hide htm
  have HTo := hide hto
  have HCw := hide hCw
  have HOw0 := hide hown0
  clear h hS hM6 hS6 htm hto hown0 hCw
  obtain ⟨po, pc, rfl⟩ := ownsRow_slice hown6
  have HOw6 := hide hown6
  clear hown6
  go_enter Tryz.func376, Tryz.ntmps376
  go_wp2_with (first | (go_at_call 434; refine (HN.out).mono ?_; rintro en w2 ⟨rfl, hw2⟩; subst hw2) | (at_builtin; refine Lib.wpList_append_own_string _ rfl _ _ 54 9 rfl C 5 i0 Tryz.underlying54 Tryz.underlying9 hi hz0 hz1 hz2 (.slice po out.size pc) out.size (Lib.strCells out) rfl HOw6.out s rfl (by unfold maxLen; omega) (by omega) (by have := HCw.out; simpa using this) ?_; intro v' w3 hown hgrow _; obtain ⟨ao, cap, rfl⟩ := ownsRow_slice hown; have hb3 := (hgrow.block sb (heap_lt HS6.out) (fun e => HTo.out e.symm)).trans HS6.out; have t1 : w3.cell? ⟨sb, 1, none⟩ = some (.slice po out.size pc) := cell_of hb3 rfl; have tf := free_of hb3; have HB3 := hide hb3; have HOw := hide hown; have HG := hide hgrow; clear hb3 hown hgrow))
  go_ret
  have hrow : w3.ownsRow C 5 1 (.slice ao (out.size + s.size) cap) (out ++ s).size (Lib.strCells (out ++ s)) := by rw [ByteArray.size_append, strCells_append]; exact HOw.out
  have hnt := own_tag hrow HB3.out (by decide)
  refine ⟨rfl, ?_, ⟨.slice ao (out.size + s.size) cap, heap_setCell_same HB3.out _, ownsRow_of hrow (fun k hk => Below.heap_setCell _ _ _ _ (fun e => hnt (by rw [hk, e])))⟩, ?_⟩
  · rw [ByteArray.size_append]
    exact (Below.heap_setCell _ _ _ _ (Ne.symm hne)).trans ((HG.out.block m (heap_lt HM6.out) (fun e => HTm.out e.symm)).trans HM6.out)
  · exact (((Only.refl (fun k => k = m ∨ k = sb ∨ (Value.slice po out.size pc).ownBlock = some k) w).setCell (p := ⟨m, 6, none⟩) (fun _ => Or.inl rfl) _).grown HG.out (fun q hq _ => Or.inr (Or.inr hq))).setCell (p := ⟨sb, 1, none⟩) (fun _ => Or.inr (Or.inl rfl)) _
set_option maxRecDepth 20000 in
set_option maxHeartbeats 4000000 in
theorem mput_more9 (C m ab vb sb : Nat) (txt : ByteArray) (flds tv : Value) (n code : Nat) (out s : ByteArray) (hs : s.size ≤ 1000) (hos : out.size + s.size ≤ 4000) (w : World) (hCw : C ≤ w.heap.size) (h : MAt8 w m ab vb txt flds (.slice (some ⟨sb, 0, none⟩) 1 1) out.size n code) (hS : w.heap[sb]? = some (.cells #[.string ⟨#[]⟩, tv] 142 (0, 0))) (hown0 : w.ownsRow C 5 1 tv out.size (Lib.strCells out)) :
    Calls Tryz.prog 284 #[.pointer (some ⟨m, 0, none⟩), .string ⟨#[]⟩, .string s] w fun en w' => en = .returned (.tuple #[]) ∧ MAt8 w' m ab vb txt flds (.slice (some ⟨sb, 0, none⟩) 1 1) (out ++ s).size n code ∧ (∃ tv, w'.heap[sb]? = some (.cells #[.string ⟨#[]⟩, tv] 142 (0, 0)) ∧ w'.ownsRow C 5 1 tv (out ++ s).size (Lib.strCells (out ++ s))) ∧ Only (fun k => k = m ∨ k = sb ∨ tv.ownBlock = some k) w w' := by
  have HP := hide (put_more9 C m ab vb sb txt flds tv n code out s hs hos w hCw h hS hown0)
  have HC := hide (check_nil (some ⟨m, 0, none⟩))
  clear h hS hown0
  go_enter Tryz.func284, Tryz.ntmps284
  go_wp2_with (first | (go_at_call 376; refine (HP.out).mono ?_; rintro en w2 ⟨rfl, h1, h2, h3⟩; have H1 := hide h1; have H2 := hide h2; have H3 := hide h3; clear h1 h2 h3) | (go_at_call 166; refine (HC.out _).mono ?_; rintro en w' ⟨rfl, h3⟩; subst w'))
  go_end0
  exact ⟨rfl, H1.out, H2.out, H3.out⟩
/-- A text is put out. -/
theorem put_on (p : Pl8) (s : St8) (t : ByteArray) (ht : t.size ≤ 1000) (hos : s.out.size + t.size ≤ 4000) (W : World) (h : On8 p s W) :
    Calls Tryz.prog 284 #[.pointer (some ⟨p.m, 0, none⟩), .string ⟨#[]⟩, .string t] W fun en w' => en = .returned (.tuple #[]) ∧ On8 p { s with out := s.out ++ t } w' ∧ Kept p W w' := by
  obtain ⟨fv, hM, hF⟩ := h.M
  obtain ⟨tv, hS, hT⟩ := h.S
  refine (mput_more9 p.wN.heap.size p.m p.ab p.vb p.sb s.txt fv tv s.fuel 0 s.out t ht hos W h.O.size hM hS hT).mono ?_
  rintro en w' ⟨e, hM', ⟨tv', hS', hT'⟩, ho⟩
  have hm := h.hm
  have hs := h.hs
  have tb : ∀ q, tv.ownBlock = some q → p.wN.heap.size ≤ q ∧ ∃ cur, W.heap[q]? = some (.cells cur 5 (0, 0)) := fun q hq => by
    refine ⟨(hT.lt q hq).1, ?_⟩
    rcases hT.2 with ⟨rfl, _⟩ | ⟨g, cap, cur, rfl, _, hg, _⟩
    · cases hq
    · have : g = q := by cases hq; rfl
      subst this
      exact ⟨cur, hg⟩
  refine ⟨e, ⟨h.hm, h.hv, h.hs, h.nmv, h.nms, h.nvs, ⟨fv, hM', ownsRow_of hF (fun k hk => ho.block k (hF.lt k hk).2 (fun e => ?_))⟩, h.V.only ho (fun e => ?_), ⟨tv', hS', hT'⟩, h.O.trans ho (fun k hk e => ?_)⟩, ⟨ho.size, fun q c t h1 _ h3 _ h5 hq => (ho.block q (heap_lt hq) (fun e => ?_)).trans hq⟩⟩
  · rcases e with e | e | e
    · exact own_tag hF hM (by decide) (hk.trans (congrArg some e))
    · exact own_tag hF hS (by decide) (hk.trans (congrArg some e))
    · obtain ⟨_, cur, hg⟩ := tb k e
      exact own_tag hF hg (by decide) hk
  · rcases e with e | e | e
    · exact h.nmv e.symm
    · exact h.nvs e
    · obtain ⟨_, cur, hg⟩ := tb _ e
      have := h.V
      unfold VAt at this
      rw [hg] at this
      simp at this
  · rcases e with e | e | e
    · omega
    · omega
    · have := (tb k e).1
      omega
  · rcases e with e | e | e
    · exact h1 e
    · exact h3 e
    · obtain ⟨_, cur, hg⟩ := tb q e
      rw [hg] at hq
      simp at hq
      exact h5 hq.2.symm
/-- A statement's function does its work and goes on; the run is then at s'. -/
def Does (p : Pl8) (s s' : St8) (x : Value) : Prop := ∃ (F : Nat) (caps : List Value), x = .func (.func F) #[] caps.toArray ∧ Enters F ∧ ∀ W, On8 p s W → Calls Tryz.prog F (.pointer (some ⟨p.m, 0, none⟩) :: caps).toArray W fun en w' => en = .returned (.int .i64 0) ∧ On8 p s' w' ∧ Kept p W w'
theorem cf162 (args : Array Value) (w : World) : (callFunc 162 args).run Tryz.prog w = .ok (.enter 162 args) w := callFunc_in Tryz.func162 (by kernel_rfl) rfl args w
theorem cf127 (args : Array Value) (w : World) : (callFunc 127 args).run Tryz.prog w = .ok (.enter 127 args) w := callFunc_in Tryz.func127 (by kernel_rfl) rfl args w
theorem cf275 (args : Array Value) (w : World) : (callFunc 275 args).run Tryz.prog w = .ok (.enter 275 args) w := callFunc_in Tryz.func275 (by kernel_rfl) rfl args w
theorem cf280 (args : Array Value) (w : World) : (callFunc 280 args).run Tryz.prog w = .ok (.enter 280 args) w := callFunc_in Tryz.func280 (by kernel_rfl) rfl args w
theorem cf297 (args : Array Value) (w : World) : (callFunc 297 args).run Tryz.prog w = .ok (.enter 297 args) w := callFunc_in Tryz.func297 (by kernel_rfl) rfl args w
/-- A statement takes a step first. -/
theorem does_step (p : Pl8) (s s' : St8) (n : Nat) (hn : n ≤ 100000) (B : Nat) (I : Nat → World → Value → Prop) (v : Value) (h : StF I B p.wN v) (hI : ∀ x, I B p.wN x → Does p { s with fuel := n } s' x) : Does p { s with fuel := n + 1 } s' v := by
  obtain ⟨b, x, rfl, _, hb, hi⟩ := h
  obtain ⟨F, caps, rfl, hcf, hD⟩ := hI x hi
  refine ⟨162, [.pointer (some ⟨b, 0, none⟩)], rfl, cf162, fun W hW => ?_⟩
  obtain ⟨fv, hM, hF⟩ := hW.M
  have hbW := (hW.O.block b (heap_lt hb) (fun e => e)).trans hb
  have hm := hW.hm
  have hbl := heap_lt hb
  have hst : On8 p { s with fuel := n } (W.setCell ⟨p.m, 7, none⟩ (.int .i64 n)) := hW.step
  have hO := (Only.refl (fun q => q = p.m) W).setCell (p := ⟨p.m, 7, none⟩) (fun _ => rfl) (.int .i64 n)
  exact stmt_do8 p.m p.ab p.vb b F hcf caps s.txt fv _ s.out.size n 0 hn (fun w' => On8 p s' w' ∧ Kept p W w') W hM (by omega) (cell_of hbW rfl) ((hD _ hst).mono (fun en w' h => ⟨h.1, h.2.1, (Kept.ofV (fun q e => Or.inl e) hO).trans h.2.2⟩))
set_option maxRecDepth 20000 in
set_option maxHeartbeats 2000000 in
/-- An expression for its work's sake. -/
theorem does_work (p : Pl8) (s s' : St8) (B : Nat) (I : Nat → World → Value → Prop) (v r : Value) (h : WorkK I B p.wN v) (hI : ∀ x y, I B p.wN (.agg #[x, y]) → Works p s s' x r) : Does p s s' v := by
  obtain ⟨ec, x, y, rfl, _, he, hi⟩ := h
  obtain ⟨F, caps, rfl, hcf, hW⟩ := hI x y hi
  unfold Enters at hcf
  refine ⟨297, [.pointer (some ⟨ec, 0, none⟩)], rfl, cf297, fun w h => ?_⟩
  have hew := (h.O.block ec (heap_lt he) (fun e => e)).trans he
  have e0 : w.cell? ⟨ec, 0, none⟩ = some (.func (.func F) #[] caps.toArray) := cell_of hew rfl
  have el := heap_lt hew
  have HW := hide (hW w h)
  clear h hew hW he hi hI
  go_enter Tryz.func297, Tryz.ntmps297
  go_wp2_with fail
  refine (HW.out).mono ?_
  rintro en w2 ⟨rfl, hq, hk⟩
  have HQ := hide hq
  have HK := hide hk
  clear hq hk
  go_wp2
  go_ret
  exact ⟨rfl, HQ.out, HK.out⟩
set_option maxRecDepth 20000 in
set_option maxHeartbeats 2000000 in
theorem textsOf_oneG (m g F : Nat) (caps : List Value) (y : Value) (hy : ∃ F2 c2, y = .func (.func F2) #[] c2) (hcf : ∀ (args : Array Value) (w : World), (callFunc F args).run Tryz.prog w = .ok (.enter F args) w) (a n : Int) (t tx : ByteArray) (w : World) (hg : w.heap[g]? = some (.cells #[.func (.func F) #[] caps.toArray, y] 338 (0, 0)))
    (HTx : ∀ W, Only (fun _ => False) w W → Calls Tryz.prog 235 #[.agg #[.int .i64 a, .int .i64 n, .string t]] W fun en w' => en = .returned (.string tx) ∧ Only (fun _ => False) W w')
    (HW : ∀ W, Only (fun _ => False) w W → Calls Tryz.prog F (.pointer (some ⟨m, 0, none⟩) :: caps).toArray W fun en w' => en = .returned (.agg #[.int .i64 a, .int .i64 n, .string t]) ∧ Only (fun _ => False) W w') :
    Calls Tryz.prog 281 #[.pointer (some ⟨m, 0, none⟩), .slice (some ⟨g, 0, none⟩) 1 1] w fun en w' => en = .returned (.slice (some ⟨w.heap.size, 0, none⟩) 1 1) ∧ w'.heap[w.heap.size]? = some (.cells #[.string tx] 9 (0, 0)) ∧ Only (fun _ => False) w w' := by
  obtain ⟨F2, c2, rfl⟩ := hy
  have hm := mk23one
  have hsf := hsfT
  have g0 : w.cell? ⟨g, 0, none⟩ = some (.func (.func F) #[] caps.toArray) := cell_of hg rfl
  have g1 : w.cell? ⟨g, 1, none⟩ = some (.func (.func F2) #[] c2) := cell_of hg rfl
  have gl := heap_lt hg
  have O2 := (onlyA w (.cells #[.string ⟨#[]⟩] 9)).alloc (.cells #[.func (.func F) #[] caps.toArray, .func (.func F2) #[] c2] 338)
  have HW1 := hide (HW _ O2)
  have HTy := hide HTx
  have HO2 := hide O2
  clear hg HTx HW O2
  go_enter Tryz.func281, Tryz.ntmps281
  go_wp2
  go_loopg [13] 1 (fun gh s13 wr => (gh = 1 ∧ s13 = .int .i64 0 ∧ wr = w.alloc (.cells #[.string ⟨#[]⟩] 9)) ∨ (gh = 0 ∧ s13 = .int .i64 1 ∧ wr.heap[w.heap.size]? = some (.cells #[.string tx] 9 (0, 0)) ∧ Only (fun _ => False) w wr))
  case atStart => exact Or.inl ⟨rfl, rfl, rfl⟩
  case round =>
    rcases hrel with ⟨hgh, rfl, hw⟩ | ⟨hgh, rfl, h1, h3⟩
    · subst hw
      go_wp2_with fail
      refine (HW1.out).mono ?_
      rintro en w2 ⟨rfl, ho2⟩
      have hO2 := HO2.out.trans ho2 (fun _ _ e => e)
      have HT2 := hide (HTy.out w2 hO2)
      have hb2 := (ho2.block w.heap.size (by simp; omega) (fun e => e)).trans ((Below.heap_alloc _ _ _ (by simp)).trans (new0 w (.cells #[.string ⟨#[]⟩] 9)))
      have HB2 := hide hb2
      have HOw := hide hO2
      clear ho2 hO2 hb2 HW1 HTy
      go_wp2_with (go_at_call 235; refine (HT2.out).mono ?_; rintro en w3 ⟨rfl, ho3⟩; have hb3 := (ho3.block w.heap.size (heap_lt HB2.out) (fun e => e)).trans HB2.out; have r0 : w3.cell? ⟨w.heap.size, 0, none⟩ = some (.string ⟨#[]⟩) := cell_of hb3 rfl; have rf := free_of hb3; have rl := heap_lt hb3; have HB3 := hide hb3; have HO3 := hide (HOw.out.trans ho3 (fun _ _ e => e)); clear hb3 ho3)
      go_roundg 0
      case measure => omega
      case rel => exact Or.inr ⟨rfl, rfl, set1 HB3.out _, HO3.out.setCell (p := ⟨w.heap.size, 0, none⟩) (fun h => absurd h (by show ¬ w.heap.size < w.heap.size; omega)) _⟩
    · go_wp2
      go_ret
      exact ⟨rfl, h1, h3⟩
set_option maxRecDepth 20000 in
set_option maxHeartbeats 4000000 in
/-- A print of one expression. -/
theorem does_print (p : Pl8) (s : St8) (B : Nat) (I : Nat → World → Value → Prop) (v : Value) (hp : PrintK I B p.wN v) (a n : Int) (t tx : ByteArray) (hI : ∀ x y, I B p.wN (.agg #[x, y]) → Gives p s x (.agg #[.int .i64 a, .int .i64 n, .string t]) ∧ ∃ F2 c2, y = .func (.func F2) #[] c2)
    (HTx : ∀ W, On8 p s W → Calls Tryz.prog 235 #[.agg #[.int .i64 a, .int .i64 n, .string t]] W fun en w' => en = .returned (.string tx) ∧ Only (fun _ => False) W w') (htx : tx.size ≤ 900) (hos : s.out.size + tx.size + 1 ≤ 4000)
    (y0 : s.cs[9]? = some (.int .i64 2)) (y1 : s.cs[10]? = some (.int .i64 0)) (y2 : s.cs[11]? = some (.string ⟨#[32]⟩)) (v0 : s.cs[12]? = some (.int .i64 2)) (v1 : s.cs[13]? = some (.int .i64 0)) (v2 : s.cs[14]? = some (.string ⟨#[10]⟩)) : Does p s { s with out := s.out ++ (tx ++ ⟨#[10]⟩) } v := by
  obtain ⟨lb, eb, c, g, x, y, z, rfl, _, hlb, hg, hi, heb, hc⟩ := hp
  obtain ⟨⟨F, caps, rfl, hcf1, hG⟩, hy⟩ := hI x y hi
  refine ⟨280, [.pointer (some ⟨lb, 0, none⟩), .pointer (some ⟨eb, 0, none⟩)], rfl, cf280, fun w h => ?_⟩
  have hcf := cf480
  have hlw := (h.O.block lb (heap_lt hlb) (fun e => e)).trans hlb
  have hgw := (h.O.block g (heap_lt hg) (fun e => e)).trans hg
  have hew := (h.O.block eb (heap_lt heb) (fun e => e)).trans heb
  have hcw := (h.O.block c (heap_lt hc) (fun e => e)).trans hc
  have HT := hide (textsOf_oneG p.m g F caps y hy hcf1 a n t tx w hgw (fun W hW => HTx W (h.calm hW)) (fun W hW => hG W (h.calm hW)))
  have HC : Hid (∀ W, Only (fun _ => False) w W → Calls Tryz.prog 298 #[.pointer (some ⟨p.m, 0, none⟩), .pointer (some ⟨c, 0, none⟩)] W fun en w' => en = .returned (.agg #[.int .i64 0, .int .i64 0, .string ⟨#[]⟩]) ∧ Only (fun _ => False) W w') := hide (fun W hW => by
    have hcW := (hW.block c (heap_lt hcw) (fun e => e)).trans hcw
    refine (const_do (some ⟨p.m, 0, none⟩) c 0 0 ⟨#[]⟩ W (cell_of hcW rfl) (cell_of hcW rfl) (cell_of hcW rfl)).mono ?_
    rintro en w' ⟨e, rfl⟩
    exact ⟨e, onlyA _ _⟩)
  have HX : Hid (∀ W, Calls Tryz.prog 235 #[.agg #[.int .i64 0, .int .i64 0, .string ⟨#[]⟩]] W fun en w' => en = .returned (.string ⟨#[]⟩) ∧ Only (fun _ => False) W w') := hide (fun W => (text_any 0 0 ⟨#[]⟩ W (by decide)).mono (fun _ _ h => ⟨h.1, Only.ofBelow h.2 (fun _ => False)⟩))
  have HR : Hid (∀ W, Only (fun _ => False) w W → Calls Tryz.prog 282 #[.pointer (some ⟨p.m, 0, none⟩)] W fun en w' => en = .returned (.string s.txt) ∧ w' = W) := hide (fun W hW => by
    obtain ⟨fv, hM, _⟩ := (h.calm hW).M
    exact record_text8 p.m p.ab p.vb s.txt fv _ s.out.size s.fuel 0 W hM)
  have HO4 : Hid (∀ W, Only (fun _ => False) w W → Calls Tryz.prog 168 #[.pointer (some ⟨p.m, 0, none⟩), .int .i64 4] W fun en w' => en = .returned (.string ⟨#[10]⟩) ∧ Only (fun _ => False) W w') := hide (fun W hW => by
    have hn := h.calm hW
    obtain ⟨fv, hM, _⟩ := hn.M
    exact mtext8 p.m p.ab p.vb s.txt fv _ s.out.size s.fuel 0 4 2 0 ⟨#[10]⟩ (by decide) (by omega) W hM (hn.V.cell v0) (hn.V.cell v1) (hn.V.cell v2))
  have HO3 : Hid (∀ W, Only (fun _ => False) w W → Calls Tryz.prog 168 #[.pointer (some ⟨p.m, 0, none⟩), .int .i64 3] W fun en w' => en = .returned (.string ⟨#[32]⟩) ∧ Only (fun _ => False) W w') := hide (fun W hW => by
    have hn := h.calm hW
    obtain ⟨fv, hM, _⟩ := hn.M
    exact mtext8 p.m p.ab p.vb s.txt fv _ s.out.size s.fuel 0 3 2 0 ⟨#[32]⟩ (by decide) (by omega) W hM (hn.V.cell y0) (hn.V.cell y1) (hn.V.cell y2))
  have HPut := hide (fun W (hW : Only (fun _ => False) w W) => put_on p s (tx ++ ⟨#[10]⟩) (by rw [ByteArray.size_append]; show tx.size + 1 ≤ 1000; omega) (by rw [ByteArray.size_append]; show s.out.size + (tx.size + 1) ≤ 4000; omega) W (h.calm hW))
  have l0 : w.cell? ⟨lb, 0, none⟩ = some (.slice (some ⟨g, 0, none⟩) 1 1) := cell_of hlw rfl
  have ll := heap_lt hlw
  have e0 : w.cell? ⟨eb, 0, none⟩ = some (.func (.func 298) #[] #[.pointer (some ⟨c, 0, none⟩)]) := cell_of hew rfl
  have el := heap_lt hew
  have hts : tx.size + 1 ≤ 901 := by omega
  clear h y0 y1 y2 v0 v1 v2 hlb hg heb hc hlw hgw hew hcw hG HTx hI hi htx hos
  go_enter Tryz.func280, Tryz.ntmps280
  go_wp2_with fail
  refine (HT.out).mono ?_
  rintro en w2 ⟨rfl, hb2, ho2⟩
  have e2 := (ho2.cell (p := ⟨eb, 0, none⟩) el (fun e => e)).trans e0
  have l2 := (ho2.cell (p := ⟨lb, 0, none⟩) ll (fun e => e)).trans l0
  have HC2 := hide (HC.out w2 ho2)
  have HB2 := hide hb2
  have HOa := hide ho2
  clear hb2 ho2 HT HC
  go_wp2_with fail
  refine (HC2.out).mono ?_
  rintro en w3 ⟨rfl, ho3⟩
  have HOb := hide (HOa.out.trans ho3 (fun _ _ e => e))
  have HB3 := hide ((ho3.block w.heap.size (heap_lt HB2.out) (fun e => e)).trans HB2.out)
  clear ho3 HC2
  go_wp2_with fail
  refine (HX.out w3).mono ?_
  rintro en w4 ⟨rfl, ho4⟩
  have hOc := HOb.out.trans ho4 (fun _ _ e => e)
  have HB4 := hide ((ho4.block w.heap.size (heap_lt HB3.out) (fun e => e)).trans HB3.out)
  have l4 := (hOc.cell (p := ⟨lb, 0, none⟩) ll (fun e => e)).trans l0
  have HR4 := hide (HR.out w4 hOc)
  have HS4 := hide (HO3.out w4 hOc)
  have HOc := hide hOc
  clear ho4 hOc HX HR HO3
  go_wp2_with (go_at_call 282; refine (HR4.out).mono ?_; rintro en w' ⟨rfl, h3⟩; subst w')
  refine (HS4.out).mono ?_
  rintro en w5 ⟨rfl, ho5⟩
  have hOd := HOc.out.trans ho5 (fun _ _ e => e)
  have hb5 := (ho5.block w.heap.size (heap_lt HB4.out) (fun e => e)).trans HB4.out
  have HJ := hide (join_one w.heap.size 1 tx ⟨#[32]⟩ w5 (cell_of hb5 rfl))
  have HS5 := hide (HO4.out w5 hOd)
  have HOd := hide hOd
  clear ho5 hOd hb5 HO4
  go_wp2_with (go_at_call 283; refine (HJ.out).mono ?_; rintro en w' ⟨rfl, h3⟩; subst w')
  refine (HS5.out).mono ?_
  rintro en w6 ⟨rfl, ho6⟩
  have hOe := HOd.out.trans ho6 (fun _ _ e => e)
  have HP6 := hide (HPut.out w6 hOe)
  have HOe := hide hOe
  clear ho6 hOe HPut
  go_wp2_with (go_at_call 284; refine (HP6.out).mono ?_; rintro en w7 ⟨rfl, h1, h2⟩; have H1 := hide h1; have H2 := hide h2; clear h1 h2)
  go_ret
  exact ⟨rfl, H1.out, (Kept.of HOe.out).trans H2.out⟩
set_option maxRecDepth 20000 in
set_option maxHeartbeats 4000000 in
/-- A print of the record. -/
theorem does_bare (p : Pl8) (s : St8) (B : Nat) (v : Value) (hp : PrintF B p.wN v) (htx : s.txt.size ≤ 900) (hos : s.out.size + s.txt.size + 1 ≤ 4000)
    (v0 : s.cs[12]? = some (.int .i64 2)) (v1 : s.cs[13]? = some (.int .i64 0)) (v2 : s.cs[14]? = some (.string ⟨#[10]⟩)) : Does p s { s with out := s.out ++ (s.txt ++ ⟨#[10]⟩) } v := by
  obtain ⟨lb, eb, c, g, z, rfl, _, hlb, heb, hc⟩ := hp
  refine ⟨280, [.pointer (some ⟨lb, 0, none⟩), .pointer (some ⟨eb, 0, none⟩)], rfl, cf280, fun w h => ?_⟩
  have hcf := cf480
  have hlw := (h.O.block lb (heap_lt hlb) (fun e => e)).trans hlb
  have hew := (h.O.block eb (heap_lt heb) (fun e => e)).trans heb
  have hcw := (h.O.block c (heap_lt hc) (fun e => e)).trans hc
  have HT := hide (textsOf_none (some ⟨p.m, 0, none⟩) (some ⟨g, 0, none⟩) 0 w)
  have HC : Hid (∀ W, Only (fun _ => False) w W → Calls Tryz.prog 298 #[.pointer (some ⟨p.m, 0, none⟩), .pointer (some ⟨c, 0, none⟩)] W fun en w' => en = .returned (.agg #[.int .i64 0, .int .i64 0, .string ⟨#[]⟩]) ∧ Only (fun _ => False) W w') := hide (fun W hW => by
    have hcW := (hW.block c (heap_lt hcw) (fun e => e)).trans hcw
    refine (const_do (some ⟨p.m, 0, none⟩) c 0 0 ⟨#[]⟩ W (cell_of hcW rfl) (cell_of hcW rfl) (cell_of hcW rfl)).mono ?_
    rintro en w' ⟨e, rfl⟩
    exact ⟨e, onlyA _ _⟩)
  have HX : Hid (∀ W, Calls Tryz.prog 235 #[.agg #[.int .i64 0, .int .i64 0, .string ⟨#[]⟩]] W fun en w' => en = .returned (.string ⟨#[]⟩) ∧ Only (fun _ => False) W w') := hide (fun W => (text_any 0 0 ⟨#[]⟩ W (by decide)).mono (fun _ _ h => ⟨h.1, Only.ofBelow h.2 (fun _ => False)⟩))
  have HR : Hid (∀ W, Only (fun _ => False) w W → Calls Tryz.prog 282 #[.pointer (some ⟨p.m, 0, none⟩)] W fun en w' => en = .returned (.string s.txt) ∧ w' = W) := hide (fun W hW => by
    obtain ⟨fv, hM, _⟩ := (h.calm hW).M
    exact record_text8 p.m p.ab p.vb s.txt fv _ s.out.size s.fuel 0 W hM)
  have HO4 : Hid (∀ W, Only (fun _ => False) w W → Calls Tryz.prog 168 #[.pointer (some ⟨p.m, 0, none⟩), .int .i64 4] W fun en w' => en = .returned (.string ⟨#[10]⟩) ∧ Only (fun _ => False) W w') := hide (fun W hW => by
    have hn := h.calm hW
    obtain ⟨fv, hM, _⟩ := hn.M
    exact mtext8 p.m p.ab p.vb s.txt fv _ s.out.size s.fuel 0 4 2 0 ⟨#[10]⟩ (by decide) (by omega) W hM (hn.V.cell v0) (hn.V.cell v1) (hn.V.cell v2))
  have HPut := hide (fun W (hW : Only (fun _ => False) w W) => put_on p s (s.txt ++ ⟨#[10]⟩) (by rw [ByteArray.size_append]; show s.txt.size + 1 ≤ 1000; omega) (by rw [ByteArray.size_append]; show s.out.size + (s.txt.size + 1) ≤ 4000; omega) W (h.calm hW))
  have l0 : w.cell? ⟨lb, 0, none⟩ = some (.slice (some ⟨g, 0, none⟩) 0 0) := cell_of hlw rfl
  have ll := heap_lt hlw
  have e0 : w.cell? ⟨eb, 0, none⟩ = some (.func (.func 298) #[] #[.pointer (some ⟨c, 0, none⟩)]) := cell_of hew rfl
  have el := heap_lt hew
  clear h v0 v1 v2 hlb heb hc hlw hew hcw hos
  go_enter Tryz.func280, Tryz.ntmps280
  go_wp2_with fail
  refine (HT.out).mono ?_
  rintro en w2 ⟨rfl, hw2⟩
  have ho2 : Only (fun _ => False) w w2 := by rw [hw2]; exact onlyA w _
  have e2 := (ho2.cell (p := ⟨eb, 0, none⟩) el (fun e => e)).trans e0
  have l2 := (ho2.cell (p := ⟨lb, 0, none⟩) ll (fun e => e)).trans l0
  have HC2 := hide (HC.out w2 ho2)
  have HOa := hide ho2
  clear ho2 HT HC hw2
  go_wp2_with fail
  refine (HC2.out).mono ?_
  rintro en w3 ⟨rfl, ho3⟩
  have HOb := hide (HOa.out.trans ho3 (fun _ _ e => e))
  clear ho3 HC2
  go_wp2_with fail
  refine (HX.out w3).mono ?_
  rintro en w4 ⟨rfl, ho4⟩
  have hOc := HOb.out.trans ho4 (fun _ _ e => e)
  have l4 := (hOc.cell (p := ⟨lb, 0, none⟩) ll (fun e => e)).trans l0
  have HR4 := hide (HR.out w4 hOc)
  have HS5 := hide (HO4.out w4 hOc)
  have HOd := hide hOc
  clear ho4 hOc HX HR HO4
  go_wp2_with (go_at_call 282; refine (HR4.out).mono ?_; rintro en w' ⟨rfl, h3⟩; subst w')
  refine (HS5.out).mono ?_
  rintro en w6 ⟨rfl, ho6⟩
  have hOe := HOd.out.trans ho6 (fun _ _ e => e)
  have HP6 := hide (HPut.out w6 hOe)
  have HOe := hide hOe
  clear ho6 hOe HPut
  go_wp2_with (go_at_call 284; refine (HP6.out).mono ?_; rintro en w7 ⟨rfl, h1, h2⟩; have H1 := hide h1; have H2 := hide h2; clear h1 h2)
  go_ret
  exact ⟨rfl, H1.out, (Kept.of HOe.out).trans H2.out⟩
end Go.Proofs.YtdbdbaepmdmnfaaGreatDoor

namespace Go.Proofs.YtdbdbaepmdmnfaaGreatDoor
open Go.RowKit
theorem func_same {F F' : Nat} {caps caps' : List Value} (e : Value.func (.func F) #[] caps.toArray = .func (.func F') #[] caps'.toArray) : F = F' ∧ caps = caps' := by
  injection e with e1 _ e2
  injection e1 with e1
  exact ⟨e1, by simpa using congrArg Array.toList e2⟩
theorem Works.at {p : Pl8} {s s' : St8} {F : Nat} {caps : List Value} {r : Value} (h : Works p s s' (.func (.func F) #[] caps.toArray) r) : Enters F ∧ ∀ W, On8 p s W → Calls Tryz.prog F (.pointer (some ⟨p.m, 0, none⟩) :: caps).toArray W fun en w' => en = .returned r ∧ On8 p s' w' ∧ Kept p W w' := by
  obtain ⟨F', caps', e, h1, h2⟩ := h
  obtain ⟨rfl, rfl⟩ := func_same e
  exact ⟨h1, h2⟩
theorem Does.at {p : Pl8} {s s' : St8} {F : Nat} {caps : List Value} (h : Does p s s' (.func (.func F) #[] caps.toArray)) : Enters F ∧ ∀ W, On8 p s W → Calls Tryz.prog F (.pointer (some ⟨p.m, 0, none⟩) :: caps).toArray W fun en w' => en = .returned (.int .i64 0) ∧ On8 p s' w' ∧ Kept p W w' := by
  obtain ⟨F', caps', e, h1, h2⟩ := h
  obtain ⟨rfl, rfl⟩ := func_same e
  exact ⟨h1, h2⟩
/-- Statements one behind the other. -/
theorem does_block (p : Pl8) (st : Nat → St8) (B n : Nat) (hn : n ≤ 100) (Ks : Nat → Nat → World → Value → Prop) (v : Value) (h : BlockK Ks n B p.wN v) (hK : ∀ i x, i < n → Ks i B p.wN x → Does p (st i) (st (i + 1)) x) : Does p (st 0) (st n) v := by
  obtain ⟨lc, g, cs, rfl, _, hlc, hg, hcs⟩ := h
  refine ⟨127, [.pointer (some ⟨lc, 0, none⟩)], rfl, cf127, fun w h => ?_⟩
  have hall : ∀ i, ∃ (F : Nat) (caps : List Value), i < n → cs[i]? = some (.func (.func F) #[] caps.toArray) ∧ Enters F ∧ ∀ W, On8 p (st i) W → Calls Tryz.prog F (.pointer (some ⟨p.m, 0, none⟩) :: caps).toArray W fun en w' => en = .returned (.int .i64 0) ∧ On8 p (st (i + 1)) w' ∧ Kept p W w' := fun i => by
    by_cases hi : i < n
    · obtain ⟨x, hx, hk⟩ := hcs i hi
      obtain ⟨F, caps, rfl, h1, h2⟩ := hK i x hi hk
      exact ⟨F, caps, fun _ => ⟨hx, h1, h2⟩⟩
    · exact ⟨0, [], fun h => absurd h hi⟩
  refine (block_do p.m lc g n n hn (fun i => Classical.choose (hall i)) (fun i hi => (Classical.choose_spec (Classical.choose_spec (hall i)) hi).2.1) (fun i => Classical.choose (Classical.choose_spec (hall i))) (fun i W => On8 p (st i) W ∧ Kept p w W) w (cell_of ((h.O.block lc (heap_lt hlc) (fun e => e)).trans hlc) rfl) ⟨h, Kept.of (Only.refl _ _)⟩ (fun i W hW => ?_) (fun i W hi hW => ?_)).mono (fun en w' h => ⟨h.1, h.2.1, h.2.2⟩)
  · have hgW := (hW.1.O.block g (heap_lt hg) (fun e => e)).trans hg
    refine ⟨heap_lt hgW, fun j hj => ?_⟩
    have := (Classical.choose_spec (Classical.choose_spec (hall j)) hj).1
    exact cell_of hgW this
  · refine ((Classical.choose_spec (Classical.choose_spec (hall i)) hi).2.2 _ (hW.1.calm (onlyA W _))).mono (fun en w' h => ⟨h.1, h.2.1, hW.2.trans ((Kept.of (onlyA W _)).trans h.2.2)⟩)
set_option maxRecDepth 20000 in
set_option maxHeartbeats 2000000 in
theorem turn_on (p : Pl8) (s s' : St8) (z : Value) (hD : Does p s s' z) (w : World) (h : On8 p s w) :
    Calls Tryz.prog 276 #[.agg #[z], .pointer (some ⟨p.m, 0, none⟩)] w fun en w' => en = .returned (.tuple #[.bool false, .int .i64 0]) ∧ On8 p s' w' ∧ Kept p w w' := by
  obtain ⟨F, caps, rfl, hcf, hD⟩ := hD
  unfold Enters at hcf
  have hsf := hsfT
  have HD := hide (hD _ (h.calm (onlyA w (.cells #[.func (.func F) #[] caps.toArray] 185))))
  clear h hD
  go_enter Tryz.func276, Tryz.ntmps276
  go_wp2_with fail
  refine (HD.out).mono ?_
  rintro en w2 ⟨rfl, hq, hk⟩
  have HQ := hide hq
  have HK := hide hk
  clear hq hk
  go_wp2
  go_ret2
  exact ⟨rfl, HQ.out, (Kept.of (onlyA w _)).trans HK.out⟩
/-- A state with one step more. -/
def St8.more (s : St8) : St8 := { s with fuel := s.fuel + 1 }
theorem step_on (p : Pl8) (s : St8) (hn : s.fuel ≤ 100000) (w : World) (h : On8 p s.more w) : Calls Tryz.prog 98 #[.pointer (some ⟨p.m, 0, none⟩)] w fun en w' => en = .returned (.tuple #[]) ∧ On8 p s w' ∧ Kept p w w' := by
  obtain ⟨fv, hM, hF⟩ := h.M
  refine (step_ok8 p.m p.ab p.vb s.txt fv _ s.out.size s.fuel 0 hn w hM).mono ?_
  rintro en w' ⟨e, rfl⟩
  have hst : On8 p { s with fuel := s.fuel } (w.setCell ⟨p.m, 7, none⟩ (.int .i64 s.fuel)) := On8.step (s := s) (n := s.fuel) h
  exact ⟨e, hst, Kept.ofV (D := fun q => q = p.m) (fun q e => Or.inl e) ((Only.refl (fun q => q = p.m) w).setCell (p := ⟨p.m, 7, none⟩) (fun _ => rfl) _)⟩
set_option maxRecDepth 20000 in
set_option maxHeartbeats 4000000 in
/-- A loop: n rounds, and the one in which it ends. -/
theorem does_loop (p : Pl8) (s : St8) (U V : Nat → St8) (n B : Nat) (I1 I2 I3 K : Nat → World → Value → Prop) (v : Value) (h : LoopK I1 I2 I3 K B p.wN v) (hU : ∀ i, i ≤ n → (U i).fuel ≤ 100000) (c : Nat → Int) (hc1 : ∀ i, i < n → c i ≠ 0) (hc2 : c n = 0)
    (h1 : ∀ x y, I1 B p.wN (.agg #[x, y]) → ∃ r, Works p s (U 0).more x r)
    (h2 : ∀ i x y, i ≤ n → I2 B p.wN (.agg #[x, y]) → Gives p (U i) x (.agg #[.int .i64 1, .int .i64 (c i), .string ⟨#[]⟩]) ∧ (y = .nilFunc ∨ ∃ F c, y = .func (.func F) #[] c))
    (h3 : ∀ i x y, i < n → I3 B p.wN (.agg #[x, y]) → ∃ r, Works p (V i) (U (i + 1)).more x r)
    (h4 : ∀ i z, i < n → K B p.wN z → Does p (U i) (V i) z)
    (hx2 : ∀ x y, I2 B p.wN (.agg #[x, y]) → ∃ F cc, x = .func (.func F) #[] cc) (hx3 : ∀ x y, I3 B p.wN (.agg #[x, y]) → ∃ F cc, x = .func (.func F) #[] cc) (hz : ∀ z, K B p.wN z → ∃ F cc, z = .func (.func F) #[] cc) : Does p s (U n) v := by
  obtain ⟨fb, cb, bb, sb, x1, y1, x2, y2, x3, y3, z, rfl, _, hfb, hcb, hbb, hsb, i1, i2, ik, i3⟩ := h
  refine ⟨275, [.pointer (some ⟨fb, 0, none⟩), .pointer (some ⟨cb, 0, none⟩), .pointer (some ⟨bb, 0, none⟩), .pointer (some ⟨sb, 0, none⟩)], rfl, cf275, fun w h => ?_⟩
  obtain ⟨r1, F1, caps1, rfl, hcf1, hW1⟩ := h1 x1 y1 i1
  obtain ⟨F2, cc2, e2⟩ := hx2 x2 y2 i2
  obtain ⟨F3, cc3, e3⟩ := hx3 x3 y3 i3
  obtain ⟨F4, cc4, e4⟩ := hz z ik
  unfold Enters at hcf1
  have hB : ∀ W, Only (fun _ => False) p.wN W → W.cell? ⟨fb, 0, none⟩ = some (.func (.func F1) #[] caps1.toArray) ∧ fb < W.heap.size ∧ W.cell? ⟨cb, 0, none⟩ = some x2 ∧ W.cell? ⟨cb, 1, none⟩ = some y2 ∧ cb < W.heap.size ∧ W.cell? ⟨bb, 0, none⟩ = some z ∧ bb < W.heap.size ∧ W.cell? ⟨sb, 0, none⟩ = some x3 ∧ sb < W.heap.size := fun W ho => by
    have a1 := (ho.block fb (heap_lt hfb) (fun e => e)).trans hfb
    have a2 := (ho.block cb (heap_lt hcb) (fun e => e)).trans hcb
    have a3 := (ho.block bb (heap_lt hbb) (fun e => e)).trans hbb
    have a4 := (ho.block sb (heap_lt hsb) (fun e => e)).trans hsb
    exact ⟨cell_of a1 rfl, heap_lt a1, cell_of a2 rfl, cell_of a2 rfl, heap_lt a2, cell_of a3 rfl, heap_lt a3, cell_of a4 rfl, heap_lt a4⟩
  obtain ⟨f0, fl, _⟩ := hB w h.O
  have HBl := hide hB
  have HW1 := hide (hW1 w h)
  have HSt := hide (fun i W (hi : i ≤ n) (hW : On8 p (U i).more W) => step_on p (U i) (hU i hi) W hW)
  have HTr := hide (fun i W (hi : i ≤ n) (hW : On8 p (U i) W) => is_true_on p (U i) x2 y2 1 (c i) ⟨#[]⟩ (by decide) (h2 i x2 y2 hi i2).2 (h2 i x2 y2 hi i2).1 W hW)
  have HTu := hide (fun i W (hi : i < n) (hW : On8 p (U i) W) => turn_on p (U i) (V i) z (h4 i z hi ik) W hW)
  have HSp := hide (fun i (hi : i < n) => h3 i x3 y3 hi i3)
  have HC1 := hide hc1
  have HC2 := hide hc2
  have hyy := (h2 n x2 y2 (Nat.le_refl _) i2).2
  clear h hB hfb hcb hbb hsb i1 i2 i3 ik hW1 h1 h2 h3 h4 hU hc1 hc2 hx2 hx3 hz
  subst e2 e3 e4
  go_enter Tryz.func275, Tryz.ntmps275
  go_wp2_with fail
  refine (HW1.out).mono ?_
  rintro en w1 ⟨rfl, hn1, hk1⟩
  have HN1 := hide hn1
  have HK1 := hide hk1
  clear hn1 hk1 HW1 f0 fl
  go_wp2_with fail
  go_loopg [] n (fun gh wr => ∃ k, k ≤ n ∧ gh = n - k ∧ Hid (On8 p (U k).more wr ∧ Kept p w wr))
  case atStart => exact ⟨0, by omega, by omega, hide ⟨HN1.out, HK1.out⟩⟩
  case round =>
    obtain ⟨k, hk, hgh, HR⟩ := hrel
    have HG := hide hgh
    clear hgh
    have HS := hide (HSt.out k wr hk HR.out.1)
    go_wp2_with fail
    refine (HS.out).mono ?_
    rintro en w2 ⟨rfl, hn2, hk2⟩
    obtain ⟨_, _, q2, q3, q4, q5, q6, q7, q8⟩ := HBl.out w2 hn2.O
    have HT := hide (HTr.out k w2 hk hn2)
    have HN2 := hide hn2
    have HK2 := hide (HR.out.2.trans hk2)
    clear hn2 hk2 HS
    go_wp2_with fail
    refine (HT.out).mono ?_
    rintro en w3 ⟨rfl, ho3⟩
    have hn3 := HN2.out.calm ho3
    obtain ⟨_, _, _, _, _, p5, p6, p7, p8⟩ := HBl.out w3 hn3.O
    have HK3 := hide (HK2.out.trans (Kept.of (p := p) ho3))
    have HN3 := hide hn3
    clear ho3 hn3 HT q2 q3 q4 q5 q6 q7 q8
    by_cases hlt : k < n
    · have hne : (c k != 0) = true := by
        have := HC1.out k hlt
        simp [this]
      have HTk := hide (HTu.out k w3 hlt HN3.out)
      obtain ⟨r, F', caps', e3, hcf3, hW3⟩ := HSp.out k hlt
      unfold Enters at hcf3
      obtain ⟨rfl, rfl⟩ : F3 = F' ∧ cc3 = caps'.toArray := by
        injection e3 with e _ e'
        injection e with e
        exact ⟨e, e'⟩
      have HW3 := hide hW3
      clear hW3 e3
      go_wp2_with fail
      refine (HTk.out).mono ?_
      rintro en w4 ⟨rfl, hn4, hk4⟩
      obtain ⟨_, _, _, _, _, _, _, s7, s8⟩ := HBl.out w4 hn4.O
      have HW4 := hide (HW3.out w4 hn4)
      have HK4 := hide (HK3.out.trans hk4)
      clear hn4 hk4 HTk HW3 p5 p6 p7 p8
      go_wp2_with fail
      refine (HW4.out).mono ?_
      rintro en w5 ⟨rfl, hn5, hk5⟩
      have HR5 := hide (And.intro hn5 (HK4.out.trans hk5))
      clear hn5 hk5 HW4
      go_wp2_with fail
      go_roundg (n - (k + 1))
      case measure => rw [HG.out]; omega
      case rel => exact ⟨k + 1, by omega, rfl, HR5⟩
    · obtain rfl : k = n := by omega
      have hne : (c k != 0) = false := by rw [HC2.out]; rfl
      clear p5 p6 p7 p8
      go_wp2_with fail
      go_ret
      exact ⟨rfl, HN3.out, HK3.out⟩
end Go.Proofs.YtdbdbaepmdmnfaaGreatDoor

