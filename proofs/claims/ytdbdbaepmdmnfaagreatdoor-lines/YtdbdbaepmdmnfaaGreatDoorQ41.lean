import Derived.Test.YtdbdbaepmdmnfaaGreatDoorQ40
import Derived.Test.YtdbdbaepmdmnfaaGreatDoorQ38
import Derived.Test.YtdbdbaepmdmnfaaGreatDoorQ39
import Derived.Test.YtdbdbaepmdmnfaaGreatDoorQ37
namespace Go.Proofs.YtdbdbaepmdmnfaaGreatDoor
open Go.RowKit
set_option maxRecDepth 100000 in
theorem mk23one (w : World) : (Instr.makeSlice 23 (.int .i64 1) (.int .i64 1)).run Tryz.prog w = .ok (.slice (some ⟨w.heap.size, 0, none⟩) 1 1) (w.alloc (.cells #[.string ⟨#[]⟩] 9)) := by kernel_rfl
set_option maxRecDepth 20000 in
set_option maxHeartbeats 1000000 in
theorem join_one (b cap : Nat) (s sep : ByteArray) (w : World) (h : w.cell? ⟨b, 0, none⟩ = some (.string s)) : Calls Tryz.prog 283 #[.slice (some ⟨b, 0, none⟩) 1 cap, .string sep] w fun en w' => en = .returned (.string s) ∧ w' = w := by
  have bl := World.block_lt_of_cell? w ⟨b, 0, none⟩ h
  simp only at bl
  go_enter Tryz.func283, Tryz.ntmps283
  go_wp2
  go_ret
  exact ⟨rfl, rfl⟩
set_option maxRecDepth 20000 in
set_option maxHeartbeats 2000000 in
theorem textsOf_one (m g F : Nat) (caps : List Value) (y : Value) (hy : ∃ F2 c2, y = .func (.func F2) #[] c2) (hcf : ∀ (args : Array Value) (w : World), (callFunc F args).run Tryz.prog w = .ok (.enter F args) w) (k : Nat) (hk : k ≤ 100000) (s : ByteArray) (w : World) (hg : w.heap[g]? = some (.cells #[.func (.func F) #[] caps.toArray, y] 338 (0, 0))) (htab : Lib.TabIs Tryz.prog w "internal/strconv.uint64pow10" .u64 Lib.pow10Tab)
    (HW : ∀ W, Only (fun _ => False) w W → Calls Tryz.prog F (.pointer (some ⟨m, 0, none⟩) :: caps).toArray W fun en w' => en = .returned (.agg #[.int .i64 1, .int .i64 k, .string s]) ∧ Only (fun _ => False) W w') :
    Calls Tryz.prog 281 #[.pointer (some ⟨m, 0, none⟩), .slice (some ⟨g, 0, none⟩) 1 1] w fun en w' => en = .returned (.slice (some ⟨w.heap.size, 0, none⟩) 1 1) ∧ w'.heap[w.heap.size]? = some (.cells #[.string ⟨(Lib.itoa k).toArray⟩] 9 (0, 0)) ∧ Only (fun _ => False) w w' := by
  obtain ⟨F2, c2, rfl⟩ := hy
  have hm := mk23one
  have hsf := hsfT
  have g0 : w.cell? ⟨g, 0, none⟩ = some (.func (.func F) #[] caps.toArray) := cell_of hg rfl
  have g1 : w.cell? ⟨g, 1, none⟩ = some (.func (.func F2) #[] c2) := cell_of hg rfl
  have gl := heap_lt hg
  have O2 := (onlyA w (.cells #[.string ⟨#[]⟩] 9)).alloc (.cells #[.func (.func F) #[] caps.toArray, .func (.func F2) #[] c2] 338)
  have HW1 := hide (HW _ O2)
  have HTx := hide (fun W (hW : Only (fun _ => False) w W) => text_num k hk s W (tab_only htab hW))
  have HO2 := hide O2
  clear hg htab HW O2
  go_enter Tryz.func281, Tryz.ntmps281
  go_wp2
  go_loopg [13] 1 (fun gh s13 wr => (gh = 1 ∧ s13 = .int .i64 0 ∧ wr = w.alloc (.cells #[.string ⟨#[]⟩] 9)) ∨ (gh = 0 ∧ s13 = .int .i64 1 ∧ wr.heap[w.heap.size]? = some (.cells #[.string ⟨(Lib.itoa k).toArray⟩] 9 (0, 0)) ∧ Only (fun _ => False) w wr))
  case atStart => exact Or.inl ⟨rfl, rfl, rfl⟩
  case round =>
    rcases hrel with ⟨hgh, rfl, hw⟩ | ⟨hgh, rfl, h1, h3⟩
    · subst hw
      go_wp2_with fail
      refine (HW1.out).mono ?_
      rintro en w2 ⟨rfl, ho2⟩
      have hO2 := HO2.out.trans ho2 (fun _ _ e => e)
      have HT2 := hide (HTx.out w2 hO2)
      have hb2 := (ho2.block w.heap.size (by simp; omega) (fun e => e)).trans ((Below.heap_alloc _ _ _ (by simp)).trans (new0 w (.cells #[.string ⟨#[]⟩] 9)))
      have HB2 := hide hb2
      have HOw := hide hO2
      clear ho2 hO2 hb2 HW1 HTx
      go_wp2_with (go_at_call 235; refine (HT2.out).mono ?_; rintro en w3 ⟨rfl, ho3⟩; have hb3 := (ho3.block w.heap.size (heap_lt HB2.out) (fun e => e)).trans HB2.out; have r0 : w3.cell? ⟨w.heap.size, 0, none⟩ = some (.string ⟨#[]⟩) := cell_of hb3 rfl; have rf := free_of hb3; have rl := heap_lt hb3; have HB3 := hide hb3; have HO3 := hide (HOw.out.trans ho3 (fun _ _ e => e)); clear hb3 ho3)
      go_roundg 0
      case measure => omega
      case rel => exact Or.inr ⟨rfl, rfl, set1 HB3.out _, HO3.out.setCell (p := ⟨w.heap.size, 0, none⟩) (fun h => absurd h (by show ¬ w.heap.size < w.heap.size; omega)) _⟩
    · go_wp2
      go_ret
      exact ⟨rfl, h1, h3⟩
set_option maxRecDepth 20000 in
set_option maxHeartbeats 4000000 in
/-- The print of NR, done: its digits are put out. -/
theorem print_nr (C B m ab vb sb : Nat) (v : Value) (k : Nat) (hk : k ≤ 100000) (txt : ByteArray) (flds : Value) (n code : Nat) (hit : (Lib.itoa k).length ≤ 30) (w : World) (hCw : C ≤ w.heap.size) (h : MAt w m ab vb txt flds (.slice (some ⟨sb, 0, none⟩) 1 1) 0 n code) (hS : w.heap[sb]? = some (.cells #[.string ⟨#[]⟩, .slice none 0 0] 142 (0, 0)))
    (x0 : w.cell? ⟨vb, 0, none⟩ = some (.int .i64 1)) (x1 : w.cell? ⟨vb, 1, none⟩ = some (.int .i64 k)) (x2 : w.cell? ⟨vb, 2, none⟩ = some (.string ⟨#[]⟩))
    (y0 : w.cell? ⟨vb, 9, none⟩ = some (.int .i64 2)) (y1 : w.cell? ⟨vb, 10, none⟩ = some (.int .i64 0)) (y2 : w.cell? ⟨vb, 11, none⟩ = some (.string ⟨#[32]⟩))
    (v0 : w.cell? ⟨vb, 12, none⟩ = some (.int .i64 2)) (v1 : w.cell? ⟨vb, 13, none⟩ = some (.int .i64 0)) (v2 : w.cell? ⟨vb, 14, none⟩ = some (.string ⟨#[10]⟩))
    (hp : PrintN B w v) (htab : Lib.TabIs Tryz.prog w "internal/strconv.uint64pow10" .u64 Lib.pow10Tab) :
    ∃ lb eb, v = .func (.func 280) #[] #[.pointer (some ⟨lb, 0, none⟩), .pointer (some ⟨eb, 0, none⟩)] ∧ Calls Tryz.prog 280 #[.pointer (some ⟨m, 0, none⟩), .pointer (some ⟨lb, 0, none⟩), .pointer (some ⟨eb, 0, none⟩)] w fun en w' => en = .returned (.int .i64 0) ∧ MAt w' m ab vb txt flds (.slice (some ⟨sb, 0, none⟩) 1 1) (⟨(Lib.itoa k).toArray⟩ ++ ⟨#[10]⟩ : ByteArray).size n code ∧ (∃ tv, w'.heap[sb]? = some (.cells #[.string ⟨#[]⟩, tv] 142 (0, 0)) ∧ w'.ownsRow C 5 1 tv (⟨(Lib.itoa k).toArray⟩ ++ ⟨#[10]⟩ : ByteArray).size (Lib.strCells (⟨(Lib.itoa k).toArray⟩ ++ ⟨#[10]⟩))) ∧ Only (fun k => k = m ∨ k = sb ∨ C ≤ k) w w' := by
  obtain ⟨lb, eb, c, g, x, y, z, rfl, _, hlb, hg, ⟨vg, nb, hxy, _, _, hvg, hnb⟩, heb, hc⟩ := hp
  refine ⟨lb, eb, rfl, ?_⟩
  have hx : x = .func (.func 386) #[] #[.pointer (some ⟨vg, 0, none⟩)] := by injection hxy with e; have := congrArg (fun a => a[0]?) e; simpa using this
  have hy : y = .func (.func 307) #[] #[.pointer (some ⟨nb, 0, none⟩)] := by injection hxy with e; have := congrArg (fun a => a[1]?) e; simpa using this
  subst hx hy
  have hvl := World.block_lt_of_cell? w ⟨vb, 0, none⟩ x0
  simp only at hvl
  have hcf := cf480
  have HT := hide (textsOf_one m g 386 [.pointer (some ⟨vg, 0, none⟩)] _ ⟨_, _, rfl⟩ cf370 k hk ⟨#[]⟩ w hg htab (fun W hW => vwork_do vg nb m ab vb txt flds _ 0 n code k ⟨#[]⟩ W (h.only hW (fun e => e)) ((hW.cell (p := ⟨vb, 0, none⟩) hvl (fun e => e)).trans x0) ((hW.cell (p := ⟨vb, 1, none⟩) hvl (fun e => e)).trans x1) ((hW.cell (p := ⟨vb, 2, none⟩) hvl (fun e => e)).trans x2) (cell_of ((hW.block vg (heap_lt hvg) (fun e => e)).trans hvg) rfl) (cell_of ((hW.block nb (heap_lt hnb) (fun e => e)).trans hnb) rfl)))
  have HC : Hid (∀ W, Only (fun _ => False) w W → Calls Tryz.prog 298 #[.pointer (some ⟨m, 0, none⟩), .pointer (some ⟨c, 0, none⟩)] W fun en w' => en = .returned (.agg #[.int .i64 0, .int .i64 0, .string ⟨#[]⟩]) ∧ Only (fun _ => False) W w') := hide (fun W hW => by
    have hcW := (hW.block c (heap_lt hc) (fun e => e)).trans hc
    refine (const_do (some ⟨m, 0, none⟩) c 0 0 ⟨#[]⟩ W (cell_of hcW rfl) (cell_of hcW rfl) (cell_of hcW rfl)).mono ?_
    rintro en w' ⟨e, rfl⟩
    exact ⟨e, onlyA _ _⟩)
  have HX : Hid (∀ W, Calls Tryz.prog 235 #[.agg #[.int .i64 0, .int .i64 0, .string ⟨#[]⟩]] W fun en w' => en = .returned (.string ⟨#[]⟩) ∧ Only (fun _ => False) W w') := hide (fun W => (text_any 0 0 ⟨#[]⟩ W (by decide)).mono (fun _ _ h => ⟨h.1, Only.ofBelow h.2 (fun _ => False)⟩))
  have HR : Hid (∀ W, Only (fun _ => False) w W → Calls Tryz.prog 282 #[.pointer (some ⟨m, 0, none⟩)] W fun en w' => en = .returned (.string txt) ∧ w' = W) := hide (fun W hW => record_text m ab vb txt flds _ 0 n code W (h.only hW (fun e => e)))
  have HO3 : Hid (∀ W, Only (fun _ => False) w W → Calls Tryz.prog 168 #[.pointer (some ⟨m, 0, none⟩), .int .i64 3] W fun en w' => en = .returned (.string ⟨#[32]⟩) ∧ Only (fun _ => False) W w') := hide (fun W hW => mtext m ab vb txt flds _ 0 n code 3 2 0 ⟨#[32]⟩ (by decide) (by omega) W (h.only hW (fun e => e)) ((hW.cell (p := ⟨vb, 9, none⟩) hvl (fun e => e)).trans y0) ((hW.cell (p := ⟨vb, 10, none⟩) hvl (fun e => e)).trans y1) ((hW.cell (p := ⟨vb, 11, none⟩) hvl (fun e => e)).trans y2))
  have HO4 : Hid (∀ W, Only (fun _ => False) w W → Calls Tryz.prog 168 #[.pointer (some ⟨m, 0, none⟩), .int .i64 4] W fun en w' => en = .returned (.string ⟨#[10]⟩) ∧ Only (fun _ => False) W w') := hide (fun W hW => mtext m ab vb txt flds _ 0 n code 4 2 0 ⟨#[10]⟩ (by decide) (by omega) W (h.only hW (fun e => e)) ((hW.cell (p := ⟨vb, 12, none⟩) hvl (fun e => e)).trans v0) ((hW.cell (p := ⟨vb, 13, none⟩) hvl (fun e => e)).trans v1) ((hW.cell (p := ⟨vb, 14, none⟩) hvl (fun e => e)).trans v2))
  have HPut : Hid (∀ W, Only (fun _ => False) w W → Calls Tryz.prog 284 #[.pointer (some ⟨m, 0, none⟩), .string ⟨#[]⟩, .string (⟨(Lib.itoa k).toArray⟩ ++ ⟨#[10]⟩)] W fun en w' => en = .returned (.tuple #[]) ∧ MAt w' m ab vb txt flds (.slice (some ⟨sb, 0, none⟩) 1 1) (⟨(Lib.itoa k).toArray⟩ ++ ⟨#[10]⟩ : ByteArray).size n code ∧ (∃ tv, w'.heap[sb]? = some (.cells #[.string ⟨#[]⟩, tv] 142 (0, 0)) ∧ w'.ownsRow C 5 1 tv (⟨(Lib.itoa k).toArray⟩ ++ ⟨#[10]⟩ : ByteArray).size (Lib.strCells (⟨(Lib.itoa k).toArray⟩ ++ ⟨#[10]⟩))) ∧ Only (fun k => k = m ∨ k = sb ∨ C ≤ k) W w') := hide (fun W hW => by
    have hs : (⟨(Lib.itoa k).toArray⟩ ++ ⟨#[10]⟩ : ByteArray).size ≤ 31 := by rw [ByteArray.size_append]; show (Lib.itoa k).toArray.size + 1 ≤ 31; simp; omega
    have hee : (⟨#[]⟩ : ByteArray) ++ (⟨(Lib.itoa k).toArray⟩ ++ ⟨#[10]⟩) = ⟨(Lib.itoa k).toArray⟩ ++ ⟨#[10]⟩ := by apply ByteArray.ext; simp [ByteArray.data_append]
    have := mput_more C m ab vb sb txt flds (.slice none 0 0) n code ⟨#[]⟩ (⟨(Lib.itoa k).toArray⟩ ++ ⟨#[10]⟩) (by omega) (by show 0 + _ ≤ 4000; omega) W (Nat.le_trans hCw hW.size) (h.only hW (fun e => e)) ((hW.block sb (heap_lt hS) (fun e => e)).trans hS) (World.ownsRow_nil _ _ _ _)
    rw [hee] at this
    exact this)
  have l0 : w.cell? ⟨lb, 0, none⟩ = some (.slice (some ⟨g, 0, none⟩) 1 1) := cell_of hlb rfl
  have ll := heap_lt hlb
  have e0 : w.cell? ⟨eb, 0, none⟩ = some (.func (.func 298) #[] #[.pointer (some ⟨c, 0, none⟩)]) := cell_of heb rfl
  have el := heap_lt heb
  clear h hS x0 x1 x2 y0 y1 y2 v0 v1 v2 hlb hg hvg hnb heb hc htab hxy
  go_enter Tryz.func280, Tryz.ntmps280
  go_wp2_with fail
  refine (HT.out).mono ?_
  rintro en w2 ⟨rfl, hb2, ho2⟩
  have e2 := (ho2.cell (p := ⟨eb, 0, none⟩) el (fun e => e)).trans e0
  have l2 := (ho2.cell (p := ⟨lb, 0, none⟩) ll (fun e => e)).trans l0
  have HC2 := hide (HC.out w2 ho2)
  have HB2 := hide hb2
  have HOa := hide ho2
  clear hb2 ho2 HT HC
  go_wp2_with fail
  refine (HC2.out).mono ?_
  rintro en w3 ⟨rfl, ho3⟩
  have HOb := hide (HOa.out.trans ho3 (fun _ _ e => e))
  have HB3 := hide ((ho3.block w.heap.size (heap_lt HB2.out) (fun e => e)).trans HB2.out)
  clear ho3 HC2
  go_wp2_with fail
  refine (HX.out w3).mono ?_
  rintro en w4 ⟨rfl, ho4⟩
  have hOc := HOb.out.trans ho4 (fun _ _ e => e)
  have HB4 := hide ((ho4.block w.heap.size (heap_lt HB3.out) (fun e => e)).trans HB3.out)
  have l4 := (hOc.cell (p := ⟨lb, 0, none⟩) ll (fun e => e)).trans l0
  have HR4 := hide (HR.out w4 hOc)
  have HS4 := hide (HO3.out w4 hOc)
  have HOc := hide hOc
  clear ho4 hOc HX HR HO3
  go_wp2_with (go_at_call 282; refine (HR4.out).mono ?_; rintro en w' ⟨rfl, h3⟩; subst w')
  refine (HS4.out).mono ?_
  rintro en w5 ⟨rfl, ho5⟩
  have hOd := HOc.out.trans ho5 (fun _ _ e => e)
  have hb5 := (ho5.block w.heap.size (heap_lt HB4.out) (fun e => e)).trans HB4.out
  have HJ := hide (join_one w.heap.size 1 ⟨(Lib.itoa k).toArray⟩ ⟨#[32]⟩ w5 (cell_of hb5 rfl))
  have HS5 := hide (HO4.out w5 hOd)
  have HOd := hide hOd
  clear ho5 hOd hb5 HO4
  go_wp2_with (go_at_call 283; refine (HJ.out).mono ?_; rintro en w' ⟨rfl, h3⟩; subst w')
  refine (HS5.out).mono ?_
  rintro en w6 ⟨rfl, ho6⟩
  have hOe := HOd.out.trans ho6 (fun _ _ e => e)
  have HP6 := hide (HPut.out w6 hOe)
  have HOe := hide hOe
  clear ho6 hOe HPut
  go_wp2_with (go_at_call 284; refine (HP6.out).mono ?_; rintro en w7 ⟨rfl, h1, h2, h3⟩; have H1 := hide h1; have H2 := hide h2; have H3 := hide h3; clear h1 h2 h3)
  go_ret
  exact ⟨rfl, H1.out, H2.out, (HOe.out.mono (E := fun k => k = m ∨ k = sb ∨ C ≤ k) (fun _ _ e => e.elim)).trans H3.out (fun _ _ e => e)⟩
end Go.Proofs.YtdbdbaepmdmnfaaGreatDoor
namespace Go.Proofs.YtdbdbaepmdmnfaaGreatDoor
open Go.RowKit
set_option maxRecDepth 20000 in
set_option maxHeartbeats 2000000 in
theorem doAll_one (m g cap F : Nat) (caps : List Value) (hcf : ∀ (args : Array Value) (w : World), (callFunc F args).run Tryz.prog w = .ok (.enter F args) w) (Q : World → Prop) (w : World) (hg : w.cell? ⟨g, 0, none⟩ = some (.func (.func F) #[] caps.toArray))
    (H : Calls Tryz.prog F (.pointer (some ⟨m, 0, none⟩) :: caps).toArray (w.alloc (.cells #[.func (.func F) #[] caps.toArray] 185)) fun en w' => en = .returned (.int .i64 0) ∧ Q w') :
    Calls Tryz.prog 63 #[.pointer (some ⟨m, 0, none⟩), .slice (some ⟨g, 0, none⟩) 1 cap] w fun en w' => en = .returned (.tuple #[]) ∧ Q w' := by
  have hsf := hsfT
  have gl := World.block_lt_of_cell? w ⟨g, 0, none⟩ hg
  simp only at gl
  have H1 := hide H
  clear H
  go_enter Tryz.func63, Tryz.ntmps63
  go_wp2
  go_loopg [8] 1 (fun gh s wr => (gh = 1 ∧ s = .int .i64 0 ∧ wr = w) ∨ (gh = 0 ∧ s = .int .i64 1 ∧ Q wr))
  case atStart => exact Or.inl ⟨rfl, rfl, rfl⟩
  case round =>
    rcases hrel with ⟨hgh, rfl, hw⟩ | ⟨hgh, rfl, hq⟩
    · subst wr
      go_wp2_with fail
      refine (H1.out).mono ?_
      rintro en w2 ⟨rfl, hq⟩
      have HQ := hide hq
      clear hq
      go_wp2
      go_roundg 0
      case measure => omega
      case rel => exact Or.inr ⟨rfl, rfl, HQ.out⟩
    · go_wp2
      go_end0
      exact ⟨rfl, hq⟩
set_option maxRecDepth 20000 in
set_option maxHeartbeats 2000000 in
theorem run2_one (mc pc m p : Nat) (po : Option Addr) (l c : Nat) (Q : World → Prop) (w : World) (h0 : w.cell? ⟨mc, 0, none⟩ = some (.pointer (some ⟨m, 0, none⟩))) (h1 : w.cell? ⟨pc, 0, none⟩ = some (.pointer (some ⟨p, 0, none⟩))) (h2 : w.cell? ⟨p, 2, none⟩ = some (.slice po l c))
    (H : Calls Tryz.prog 63 #[.pointer (some ⟨m, 0, none⟩), .slice po l c] w.drew fun en w' => en = .returned (.tuple #[]) ∧ Q w') :
    Calls Tryz.prog 65 #[.pointer (some ⟨mc, 0, none⟩), .pointer (some ⟨pc, 0, none⟩)] w fun en w' => en = .returned (.tuple #[]) ∧ Q w' := by
  have HD := hide H
  clear H
  go_enter Tryz.func65, Tryz.ntmps65
  go_wp2
  go_region_with (go_at_call 63; refine (HD.out).mono ?_; rintro en w' ⟨rfl, h3⟩; have H3 := hide h3; clear h3)
  all_goals
    go_wp2
    go_end0
    exact ⟨rfl, H3.out⟩
/-- NR's digits and the end of a line, put out. -/
def nrOut (k : Nat) : ByteArray := ⟨(Lib.itoa k).toArray⟩ ++ ⟨#[10]⟩
/-- What the block for the end leaves behind. -/
structure ResN (wN W0 : World) (m ab vb sb k : Nat) (w' : World) : Prop where
  mm : ∃ txt flds n, MAt w' m ab vb txt flds (.slice (some ⟨sb, 0, none⟩) 1 1) (nrOut k).size n 0
  s : ∃ tv, w'.heap[sb]? = some (.cells #[.string ⟨#[]⟩, tv] 142 (0, 0)) ∧ w'.ownsRow W0.heap.size 5 1 tv (nrOut k).size (Lib.strCells (nrOut k))
  oN : Only (fun _ => False) wN w'
  o0 : Only (fun q => q = m ∨ q = sb ∨ W0.heap.size ≤ q) W0 w'
/-- The statement that prints NR, done. -/
theorem print_stmt_nr (B : Nat) (wN wS : World) (x : Value) (hx : StF PrintN B wN x) (m ab vb sb n k : Nat) (hk : k ≤ 100000) (hit : (Lib.itoa k).length ≤ 30) (cs : List Value) (hcs : VsN cs k) (hn : n ≤ 100000) (txt : ByteArray) (htab : Lib.TabIs Tryz.prog wN "internal/strconv.uint64pow10" .u64 Lib.pow10Tab) (W0 W : World) (hNW : wN.heap.size ≤ W0.heap.size) (h0 : Only (fun _ => False) W0 W) (h : UnderE wN wS W m ab vb sb txt (n + 1) cs) :
    ∃ b, x = .func (.func 162) #[] #[.pointer (some ⟨b, 0, none⟩)] ∧ Calls Tryz.prog 162 #[.pointer (some ⟨m, 0, none⟩), .pointer (some ⟨b, 0, none⟩)] W fun en w' => en = .returned (.int .i64 0) ∧ ResN wN W0 m ab vb sb k w' := by
  obtain ⟨hNS, lm, lv, ls, hS⟩ := h.step
  obtain ⟨_, _, _, _, hU⟩ := h
  obtain ⟨b, f, rfl, _, hb, hf⟩ := hx
  have hfS := printN_keeps.keep _ _ _ _ hf (hS.hO.mono (fun _ _ e => e.elim))
  obtain ⟨po, pn, pc, hM⟩ := hU.hM
  obtain ⟨po1, pn1, pc1, hM1⟩ := hS.hM
  obtain ⟨⟨⟨_, _, _, _, g0, g1, g2⟩, v0, v1, v2⟩, y0, y1, y2⟩ := hcs
  have hWz : W0.heap.size ≤ (W.setCell ⟨m, 7, none⟩ (.int .i64 n)).heap.size := by rw [size_setCell]; exact h0.size
  obtain ⟨lb, eb, rfl, hC⟩ := print_nr W0.heap.size B m ab vb sb f k hk txt (.slice po1 pn1 pc1) n 0 hit _ hWz hM1 hS.hS (hS.hV.cell v0) (hS.hV.cell v1) (hS.hV.cell v2) (hS.hV.cell y0) (hS.hV.cell y1) (hS.hV.cell y2) (hS.hV.cell g0) (hS.hV.cell g1) (hS.hV.cell g2) hfS (tab_only htab hS.hO)
  have hbW := (hU.hO.block b (heap_lt hb) (fun e => e)).trans hb
  have hbm : b ≠ m := fun e => by have := heap_lt hb; have := hU.hm; omega
  refine ⟨b, rfl, stmt_do m ab vb b 280 cf462 [.pointer (some ⟨lb, 0, none⟩), .pointer (some ⟨eb, 0, none⟩)] txt (.slice po pn pc) (.slice (some ⟨sb, 0, none⟩) 1 1) 0 n 0 hn _ W hM hbm (cell_of hbW rfl) (hC.mono ?_)⟩
  rintro en w' ⟨e, h1, h2, h3⟩
  have hm := hS.hm
  have hs := hS.hs
  have hz := hU.hO.size
  have hoW : Only (fun q => q = m) W (W.setCell ⟨m, 7, none⟩ (.int .i64 n)) := (Only.refl (fun q => q = m) W).setCell (p := ⟨m, 7, none⟩) (fun _ => rfl) _
  refine ⟨e, ⟨_, _, _, h1⟩, h2, hS.hO.trans h3 (fun q hq e => by omega), ?_⟩
  exact ((h0.mono (E := fun q => q = m ∨ q = sb ∨ W0.heap.size ≤ q) (fun _ _ e => e.elim)).trans hoW (fun _ _ e => Or.inl e)).trans h3 (fun _ _ e => e)
/-- The block for the end, done. -/
theorem end_do (B : Nat) (wN wS : World) (x : Value) (hx : KN B wN x) (m ab vb sb n k : Nat) (hk : k ≤ 100000) (hit : (Lib.itoa k).length ≤ 30) (cs : List Value) (hcs : VsN cs k) (hn : n ≤ 100000) (txt : ByteArray) (htab : Lib.TabIs Tryz.prog wN "internal/strconv.uint64pow10" .u64 Lib.pow10Tab) (W0 W : World) (hNW : wN.heap.size ≤ W0.heap.size) (h0 : Only (fun _ => False) W0 W) (h : UnderE wN wS W m ab vb sb txt (n + 1) cs) :
    ∃ lc, x = .func (.func 127) #[] #[.pointer (some ⟨lc, 0, none⟩)] ∧ Calls Tryz.prog 127 #[.pointer (some ⟨m, 0, none⟩), .pointer (some ⟨lc, 0, none⟩)] W fun en w' => en = .returned (.int .i64 0) ∧ ResN wN W0 m ab vb sb k w' := by
  obtain ⟨lc, g, x0, rfl, _, hlc, hg, hx0⟩ := hx
  refine ⟨lc, rfl, ?_⟩
  have hw0 := fun W2 (hW2 : Only (fun _ => False) W0 W2) (c : UnderE wN wS W2 m ab vb sb txt (n + 1) cs) => print_stmt_nr B wN wS x0 hx0 m ab vb sb n k hk hit cs hcs hn txt htab W0 W2 hNW hW2 c
  obtain ⟨b0, y0, e0, _⟩ := hx0
  refine (block_do m lc g 1 1 (by omega) (fun _ => 162) (fun i _ => cf304) (fun _ => [.pointer (some ⟨b0, 0, none⟩)]) (fun i W2 => if i = 0 then (UnderE wN wS W2 m ab vb sb txt (n + 1) cs ∧ Only (fun _ => False) W0 W2) else ResN wN W0 m ab vb sb k W2) W (cell_of ((h.u.hO.block lc (heap_lt hlc) (fun e => e)).trans hlc) rfl) ⟨h, h0⟩ ?_ ?_).mono ?_
  · intro i W2 hJ
    have hO : Only (fun _ => False) wN W2 := by
      by_cases hi : i = 0
      · rw [if_pos hi] at hJ; exact hJ.1.u.hO
      · rw [if_neg hi] at hJ; exact hJ.oN
    have hb := (hO.block g (heap_lt hg) (fun e => e)).trans hg
    refine ⟨heap_lt hb, fun j hj => ?_⟩
    obtain rfl : j = 0 := by omega
    rw [cell_of hb (o := 0) rfl, e0]; rfl
  · intro i W2 hi hJ
    obtain rfl : i = 0 := by omega
    have hJ2 : UnderE wN wS W2 m ab vb sb txt (n + 1) cs ∧ Only (fun _ => False) W0 W2 := hJ
    obtain ⟨b, e, hC⟩ := hw0 (W2.alloc (.cells #[.func (.func 162) #[] #[.pointer (some ⟨b0, 0, none⟩)]] 185)) (hJ2.2.alloc _) (hJ2.1.calm (onlyA W2 _))
    rw [e0] at e
    have hce : b0 = b := by
      injection e with _ _ e3
      have := congrArg (fun a => a[0]?) e3
      simpa using this
    subst hce
    exact hC
  · rintro en w' ⟨rfl, hJ⟩
    exact ⟨rfl, hJ⟩
/-- The second part of the run: the program's one block for the end. -/
theorem run2_end (B mc pc p : Nat) (wN wS : World) (es : Value) (hp : wN.heap[p]? = some (.cells #[.slice none 0 0, .slice none 0 0, es, .int .i64 7, .int .i64 0] 135 (0, 0))) (x : Value) (hown : wN.ownsRow 0 185 1 es 1 [x]) (hx : KN B wN x) (m ab vb sb n k : Nat) (hk : k ≤ 100000) (hit : (Lib.itoa k).length ≤ 30) (cs : List Value) (hcs : VsN cs k) (hn : n ≤ 100000) (txt : ByteArray) (htab : Lib.TabIs Tryz.prog wN "internal/strconv.uint64pow10" .u64 Lib.pow10Tab) (W0 W : World) (hNW : wN.heap.size ≤ W0.heap.size) (h0 : Only (fun _ => False) W0 W) (h : UnderE wN wS W m ab vb sb txt (n + 1) cs) (c0 : W.cell? ⟨mc, 0, none⟩ = some (.pointer (some ⟨m, 0, none⟩))) (c1 : W.cell? ⟨pc, 0, none⟩ = some (.pointer (some ⟨p, 0, none⟩))) :
    Calls Tryz.prog 65 #[.pointer (some ⟨mc, 0, none⟩), .pointer (some ⟨pc, 0, none⟩)] W fun en w' => en = .returned (.tuple #[]) ∧ ResN wN W0 m ab vb sb k w' := by
  obtain ⟨g, cap, rfl, hgl, hgc⟩ := own_at hown (by omega)
  have hpW := (h.u.hO.block p (heap_lt hp) (fun e => e)).trans hp
  have hgW := (h.u.hO.cell (p := ⟨g, 0, none⟩) hgl (fun e => e)).trans (hgc 0 _ rfl)
  have hd := h.calm (toDrew (onlyA W (.cells #[x] 185)))
  refine run2_one mc pc m p (some ⟨g, 0, none⟩) 1 cap _ W c0 c1 (cell_of hpW rfl) ?_
  obtain ⟨lc, rfl, hC⟩ := end_do B wN wS x hx m ab vb sb n k hk hit cs hcs hn txt htab W0 (W.drew.alloc (.cells #[x] 185)) hNW ((toDrew h0).alloc _) hd
  exact doAll_one m g cap 127 [.pointer (some ⟨lc, 0, none⟩)] cf236 _ W.drew hgW hC
end Go.Proofs.YtdbdbaepmdmnfaaGreatDoor
namespace Go.Proofs.YtdbdbaepmdmnfaaGreatDoor
open Go.RowKit
set_option maxRecDepth 20000 in
set_option maxHeartbeats 8000000 in
theorem rule_made_end (kp : Option Addr) (K : Nat → World → Value → Prop) (hK : Keeps K) (pb r bl cap : Nat) (w : World) (hp : w.heap[pb]? = some (.cells #[.slice none 0 0, .slice none 0 0, .slice none 0 0, .int .i64 0, .int .i64 0] 135 (0, 0))) (HB : BodyOK kp w (.slice (some ⟨r, 0, none⟩) bl cap) K) :
    Calls Tryz.prog 92 #[.pointer kp, .pointer (some ⟨pb, 0, none⟩), .agg #[.int .i64 2, .slice none 0 0, .slice (some ⟨r, 0, none⟩) bl cap]] w fun en w' => en = .returned (.tuple #[]) ∧ ∃ a b c, w'.heap[pb]? = some (.cells #[a, b, c, .int .i64 0, .int .i64 0] 135 (0, 0)) ∧ EndG K w.heap.size w' a b c ∧ Only (fun k => k = pb) w w' := by
  obtain ⟨i0, hi0, hz0, hz1, hz2⟩ := info_parts info168
  have hmf := hmfT
  have hsf := hsfT
  have hsn := hsnT
  have hpl := heap_lt hp
  have p2 : w.cell? ⟨pb, 2, none⟩ = some (.slice none 0 0) := cell_of hp rfl
  have pne : pb ≠ w.heap.size := by omega
  have HP := hide hp
  have HB1 := hide HB
  have HK := hide hK
  clear hp HB hK
  go_enter Tryz.func92, Tryz.ntmps92
  go_upto_region 6 with fail
  have n2 : (w.alloc (.cells #[.int .i64 2, .slice none 0 0, .slice (some ⟨r, 0, none⟩) bl cap] 102)).cell? ⟨w.heap.size, 2, none⟩ = some (.slice (some ⟨r, 0, none⟩) bl cap) := cell_of (new0 w _) rfl
  have n2d : (w.alloc (.cells #[.int .i64 2, .slice none 0 0, .slice (some ⟨r, 0, none⟩) bl cap] 102)).drew.cell? ⟨w.heap.size, 2, none⟩ = some (.slice (some ⟨r, 0, none⟩) bl cap) := n2
  go_region_law
    (first
      | (rw [if_pos (by simp [Region.wanted])]; go_simp; go_at_call 91; refine (HB1.out _ (by repeat (first | with_reducible exact Only.refl _ _ | with_reducible refine Only.alloc ?_ _ | with_reducible refine toDrew ?_))).mono ?_; rintro en w2 ⟨z, rfl, hz, ho2⟩; obtain ⟨F, fcap, rfl⟩ := HK.out.isF _ _ _ hz; have hzl : w.heap.size + 1 ≤ w2.heap.size := (by have := ho2.size; simpa using this); have hOw : Only (fun _ => False) w w2 := Only.trans (by repeat (first | with_reducible exact Only.refl _ _ | with_reducible refine Only.alloc ?_ _ | with_reducible refine toDrew ?_)) ho2 (fun _ _ e => e); have hbp := (hOw.block pb hpl (fun e => e)).trans HP.out; have q1 : w2.cell? ⟨pb, 2, none⟩ = some (.slice none 0 0) := cell_of hbp rfl; have qf := free_of hbp; have ql := heap_lt hbp; have q3 : w2.cell? ⟨w.heap.size, 2, none⟩ = some (.slice (some ⟨r, 0, none⟩) bl cap) := (ho2.cell (p := ⟨w.heap.size, 2, none⟩) (by simp <;> omega) (fun e => e)).trans (by repeat (first | (with_reducible assumption) | (with_reducible refine past ?_ _) | (with_reducible refine pastD ?_ _))); have HBP := hide hbp; have HZ := hide hz; have HOw := hide hOw; clear hbp hz hOw ho2)
      | (refine step_append_lies _ (by rfl) _ _ _ (by rfl) 0 185 i0 _ 1 8 Tryz.underlying132 hi0 hz0 hz1 hz2 rfl (by omega) (.slice none 0 0) 0 [] (by rfl) (World.ownsRow_nil _ _ _ _) _ 1 1 [.func (.func F) #[] fcap] (by rfl) (by rfl) (World.news_of_block (cs := #[.func (.func F) #[] fcap]) (t := 185) (fr := (0, 0)) (new_at2 rfl _)) (by intro u hu; simp at hu; rcases hu with rfl; rfl) (by omega) (by unfold maxLen; omega) (by omega) (Nat.zero_le _) _ rfl ?_; intro gg cap2 w3 hown1 hgrow hat hlt; have hb3 := (hgrow.block pb (by simp; omega) (fun e => by cases e)).trans ((Below.heap_alloc _ _ _ (by omega)).trans HBP.out); have t1 : w3.cell? ⟨pb, 2, none⟩ = some (.slice none 0 0) := cell_of hb3 rfl; have tf := free_of hb3; have tl := heap_lt hb3; have t3 : w3.cell? ⟨w.heap.size, 2, none⟩ = some (.slice (some ⟨r, 0, none⟩) bl cap) := (World.cell?_of_block (hgrow.block w.heap.size (by simp; omega) (fun e => by cases e))).trans (past q3 _); have HB3 := hide hb3; clear hb3))
  all_goals
    have hne := own_tag hown1 HB3.out (by decide)
    have hOg := hide ((Only.refl (fun _ => False) _).grown hgrow (fun q hq _ => by cases hq))
    have hO3 := hide ((HOw.out.alloc _).grown hgrow (fun q hq _ => by cases hq))
    have hKx := hide (HK.out.keep _ _ _ _ (HK.out.keep _ _ _ _ HZ.out ((onlyA w2 _).mono (fun _ _ e => e.elim))) (hOg.out.mono (fun _ _ e => e.elim)))
    have HOwn := hide hown1
    clear hown1 hgrow hat hOg
    go_wp2
    go_end0
    refine ⟨rfl, .slice none 0 0, .slice none 0 0, .slice (some ⟨gg, 0, none⟩) 1 cap2, heap_setCell_same HB3.out _, ⟨rfl, rfl, .func (.func F) #[] fcap, ownsRow_of HOwn.out (fun k hk => Below.heap_setCell _ _ _ _ (fun e => hne (by rw [hk, e]))), HK.out.down _ _ _ _ (HK.out.keep _ _ _ _ hKx.out ((Only.refl _ w3).setCell (p := ⟨pb, 2, none⟩) (fun _ => by show pb < _; simp; omega) _)) (by simp)⟩, (hO3.out.mono (E := fun k => k = pb) (fun _ _ e => e.elim)).setCell (p := ⟨pb, 2, none⟩) (fun _ => rfl) _⟩
end Go.Proofs.YtdbdbaepmdmnfaaGreatDoor
namespace Go.Proofs.YtdbdbaepmdmnfaaGreatDoor
open Go.RowKit
theorem itoa_short (k : Nat) (hk : k ≤ 400) : (Lib.itoa (k : Int)).length ≤ 30 := by
  rw [Lib.itoa_nonneg, Lib.decDigits_length, Lib.nDigits]
  split
  · omega
  · rw [Lib.nDigits]
    split
    · omega
    · rw [Lib.nDigits, dif_pos (by omega)]
      omega
/-- What running the program that counts comes to. -/
def RunsToN (w : World) (a : Addr) (T : List UInt8) (en : Ending) (w' : World) : Prop :=
  ∃ sb tv out, ((AllFew (recs T) ∧ en = .returned (.agg #[.slice (some ⟨sb, 0, none⟩) 1 1, .int .i64 0, .nilIface]) ∧ out = nrOut (recs T).length) ∨ (¬ AllFew (recs T) ∧ en = .returned (.agg #[.slice (some ⟨sb, 0, none⟩) 1 1, .int .i64 0, .iface 558 (.pointer (some a))]))) ∧ w'.heap[sb]? = some (.cells #[.string ⟨#[]⟩, tv] 142 (0, 0)) ∧ w'.ownsRow 0 5 1 tv out.size (Lib.strCells out) ∧ Only (fun _ => False) w w'
set_option maxRecDepth 20000 in
set_option maxHeartbeats 8000000 in
theorem run_count (T : ByteArray) (hT : T.size ≤ 400) (a : Addr) (rs : Value) (r cap pg pgc : Nat) (w : World) (hrow : w.ownsRow 0 102 3 rs 1 [.int .i64 2, .slice none 0 0, .slice (some ⟨r, 0, none⟩) 1 cap]) (e0 : w.cell? ⟨r, 0, none⟩ = some (.iface 285 (.agg #[.slice (some ⟨pg, 0, none⟩) 1 pgc, .nilIface]))) (hpg : w.cell? ⟨pg, 0, none⟩ = some (.iface 92 (.agg #[.string ⟨#[78, 82]⟩, .int .i64 12]))) (htab : Lib.TabIs Tryz.prog w "internal/strconv.uint64pow10" .u64 Lib.pow10Tab) (hgl : w.cell? ⟨2, 0, none⟩ = some (.iface 558 (.pointer (some a)))) :
    Calls Tryz.prog 41 #[.agg #[.slice none 0 0, rs], .string T, .int .i64 2000] w (RunsToN w a T.data.toList) := by
  have hrl := World.block_lt_of_cell? w ⟨r, 0, none⟩ e0
  have hpl0 := World.block_lt_of_cell? w ⟨pg, 0, none⟩ hpg
  have hrc2 : (recs T.data.toList).length ≤ 400 := by have := recs_len T.data.toList; rw [len_eq] at this; omega
  obtain ⟨n0, hn0⟩ : ∃ n0, n0 + 1 + (recs T.data.toList).length = 2000 := ⟨2000 - 1 - (recs T.data.toList).length, by omega⟩
  obtain ⟨rg, rcap, rfl, hrgl, hrgc⟩ := own_at hrow (by omega)
  have hmf := hmfT
  have O1 := ((onlyA w (.cells #[.slice none 0 0, .slice (some ⟨rg, 0, none⟩) 1 rcap] 60)).alloc (.cells #[.string T] 9)).alloc (.cells #[.slice none 0 0, .int .i64 0, .nilIface] 76)
  have HRm := hide (ready_gen 2 (EndG KN) (endG_keeps kn_keeps) rg rcap r 1 cap _ (Nat.lt_of_lt_of_le hrgl O1.size) ((O1.cell (p := ⟨rg, 0, none⟩) hrgl (fun e => e)).trans (hrgc 0 _ rfl)) ((O1.cell (p := ⟨rg, 1, none⟩) hrgl (fun e => e)).trans (hrgc 1 _ rfl)) ((O1.cell (p := ⟨rg, 2, none⟩) hrgl (fun e => e)).trans (hrgc 2 _ rfl)) (fun kb mv ma mf sg pb W hW _ hM hp => rule_made_end (some ⟨kb, 0, none⟩) KN kn_keeps pb r 1 cap W hp (bodyN_ok kb mv ma mf sg 12 r cap pg pgc W hM (((O1.trans hW (fun _ _ e => e)).cell (p := ⟨r, 0, none⟩) hrl (fun e => e)).trans e0) (((O1.trans hW (fun _ _ e => e)).cell (p := ⟨pg, 0, none⟩) hpl0 (fun e => e)).trans hpg))))
  have HNm : Hid (∀ W, Calls Tryz.prog 60 #[.int .i64 7, .int .i64 0, .int .i64 2000] W fun en w' => ∃ m, en = .returned (.pointer (some ⟨m, 0, none⟩)) ∧ FreshM W w' m 2000 first7) := fun W => newMachine 2000 W
  have HRA := hide (fun pb es wN wS hp hg m ab vb sb W hU => readAll_none pb es wN wS hp a hg m ab vb sb (n0 + 1) (by omega) T hT W hU)
  have HIt : Hid ((Lib.itoa ((recs T.data.toList).length : Nat)).length ≤ 30) := hide (itoa_short _ hrc2)
  have HKg : Hid (Keeps KN) := hide kn_keeps
  have HTab := hide htab
  have HGl := hide hgl
  have hgw := World.block_lt_of_cell? w ⟨2, 0, none⟩ hgl
  clear hrow hrgc hrgl O1 e0 hpg hrl hpl0 htab hgl
  go_enter Tryz.func41, Tryz.ntmps41
  go_wp2_with fail
  refine (HRm.out).mono ?_
  rintro en w2 ⟨pb, _, _, esv, rfl, hpb, ⟨rfl, rfl, ex, hrule⟩, ho2⟩
  have hpl := heap_lt hpb
  have n1 : (w2.alloc (.cells #[.pointer (some ⟨pb, 0, none⟩)] 128)).cell? ⟨w2.heap.size, 0, none⟩ = some (.pointer (some ⟨pb, 0, none⟩)) := cell_of (new0 w2 _) rfl
  have n1d : (w2.alloc (.cells #[.pointer (some ⟨pb, 0, none⟩)] 128)).drew.cell? ⟨w2.heap.size, 0, none⟩ = some (.pointer (some ⟨pb, 0, none⟩)) := n1
  have n2 : w2.cell? ⟨pb, 3, none⟩ = some (.int .i64 7) := cell_of hpb rfl
  have n3 : w2.cell? ⟨pb, 4, none⟩ = some (.int .i64 0) := cell_of hpb rfl
  have hz2 : w.heap.size + 1 + 1 + 1 ≤ w2.heap.size := by have := ho2.size; simpa using this
  have hi2 : w2.heap[w.heap.size + 1]? = some (.cells #[.string T] 9 (0, 0)) := (ho2.block _ (by simp <;> omega) (fun e => e)).trans ((Below.heap_alloc _ _ _ (by simp <;> omega)).trans (new_at2 (by simp) _))
  have ho12 : w2.heap[w.heap.size + 1 + 1]? = some (.cells #[.slice none 0 0, .int .i64 0, .nilIface] 76 (0, 0)) := (ho2.block _ (by simp <;> omega) (fun e => e)).trans (new_at2 (by simp) _)
  have HPb := hide hpb
  have HRl := hide hrule
  have HI2 := hide hi2
  have HO12 := hide ho12
  have HO2 : Hid (Only (fun _ => False) w w2) := (((onlyA w _).alloc _).alloc _).trans ho2 (fun _ _ e => e)
  clear hpb hrule hi2 ho12 ho2 HRm
  go_upto_region 2 with fail
  go_cut [8] (fun s8 wc => ∃ b8 m ab vb sb, s8 = .pointer (some ⟨b8, 0, none⟩) ∧ wc.heap[b8]? = some (.cells #[.pointer (some ⟨m, 0, none⟩)] 130 (0, 0)) ∧ w2.heap.size + 1 ≤ b8 ∧ Under (w2.alloc (.cells #[.pointer (some ⟨pb, 0, none⟩)] 128)) wc wc m ab vb sb ⟨#[]⟩ 0 2000 (.slice none 0 0) first7)
  case first =>
    go_region_held3 (fun W => W.cell? ⟨w2.heap.size, 0, none⟩ = some (.pointer (some ⟨pb, 0, none⟩)) ∧ W.cell? ⟨pb, 3, none⟩ = some (.int .i64 7) ∧ W.cell? ⟨pb, 4, none⟩ = some (.int .i64 0)) (first | (refine ⟨?_, ?_, ?_⟩ <;> (repeat (first | (with_reducible assumption) | (with_reducible refine past ?_ _) | (with_reducible refine pastD ?_ _) | ((with_reducible refine farC ?_ ?_); (rotate_left; (focus (first | (simp; done) | (simp; omega) | omega))))))))
      (first | (go_at_call 60; refine (HNm.out _).mono ?_; rintro en w4 ⟨m, rfl, ab, vb, sb, k1, k2, k3, hM, hV, hS, ho4⟩; have hON : Only (fun _ => False) (w2.alloc (.cells #[.pointer (some ⟨pb, 0, none⟩)] 128)) w4 := Only.trans (by repeat (first | with_reducible exact Only.refl _ _ | with_reducible refine Only.alloc ?_ _ | with_reducible refine toDrew ?_)) ho4 (fun _ _ e => e); have g1 := (hON.cell (p := ⟨w2.heap.size, 0, none⟩) (by simp) (fun e => e)).trans n1; have g2 := (hON.cell (p := ⟨pb, 3, none⟩) (by simp; omega) (fun e => e)).trans (past n2 _); have g3 := (hON.cell (p := ⟨pb, 4, none⟩) (by simp; omega) (fun e => e)).trans (past n3 _); have kk1 : w2.heap.size + 1 ≤ m := (by simp at k1; omega); have kk2 : w2.heap.size + 1 ≤ vb := (by simp at k2; omega); have kk3 : w2.heap.size + 1 ≤ sb := (by simp at k3; omega); (try (refine lay (P := w4.heap[w2.heap.size + 1]? = some (.cells #[.pointer none] 130 (0, 0))) ?_ (fun b0 => ?_); (focus (refine (ho4.block _ ?_ (fun e => e)).trans ?_; (focus (first | (simp; done) | (simp; omega) | omega)); (repeat (first | ((with_reducible refine new_at2D ?_ _); focus (simp; done)) | ((with_reducible refine (heap_allocD _ _ ?_).trans ?_); (focus (first | (simp; done) | (simp; omega) | omega))) | ((with_reducible refine new_at2 ?_ _); focus (simp; done)) | ((with_reducible refine (Below.heap_alloc _ _ _ ?_).trans ?_); (focus (first | (simp; done) | (simp; omega) | omega))))); done)); have b0c : w4.cell? ⟨w2.heap.size + 1, 0, none⟩ = some (.pointer none) := cell_of b0 rfl; have b0f := free_of b0; have b0l := heap_lt b0; have Hb0 := hide b0; clear b0)); have HUn : Hid (Under (w2.alloc (.cells #[.pointer (some ⟨pb, 0, none⟩)] 128)) w4 w4 m ab vb sb ⟨#[]⟩ 0 2000 (.slice none 0 0) first7) := (by refine hide ⟨by simpa using kk1, by simpa using kk2, by simpa using kk3, ?_, ?_, ?_, ⟨none, 0, 0, hM⟩, hV, hS, hON, Only.refl _ _⟩; (intro e; rw [e] at hM; unfold MAt at hM; unfold VAt at hV; rw [hV] at hM; cases hM); (intro e; rw [e] at hM; unfold MAt at hM; rw [hS] at hM; cases hM); (intro e; rw [e] at hV; unfold VAt at hV; rw [hS] at hV; cases hV)); have hml := heap_lt hM; have hvl := heap_lt hV; have hsl := heap_lt hS; clear hM hV hS hON ho4 k1 k2 k3))
    all_goals
      go_wp2_with fail
      go_meet
      first
        | exact ⟨w4.heap.size, m, ab, vb, sb, rfl, new_at2 rfl _, by omega, HUn.out.only (D := fun _ => False) (onlyA w4 _) (fun e => e) (fun e => e) (fun e => e) (fun _ e => e.elim)⟩
        | (refine ⟨w2.heap.size + 1, m, ab, vb, sb, rfl, set1 Hb0.out _, by omega, HUn.out.only (D := fun k => k = w2.heap.size + 1) ((Only.refl (fun k => k = w2.heap.size + 1) w4).setCell (p := ⟨w2.heap.size + 1, 0, none⟩) (fun _ => rfl) _) ?_ ?_ ?_ (fun k e => by simp; omega)⟩
           · intro e
             obtain ⟨_, _, _, hM⟩ := HUn.out.hM
             unfold MAt at hM
             rw [e, Hb0.out] at hM
             cases hM
           · intro e
             have hV := HUn.out.hV
             unfold VAt at hV
             rw [e, Hb0.out] at hV
             cases hV
           · intro e
             have hS := HUn.out.hS
             rw [e, Hb0.out] at hS
             cases hS)
  case rest =>
    obtain ⟨b8, m, ab, vb, sb, rfl, hb8, k8, hU⟩ := hcut
    have hWz : (w2.alloc (.cells #[.pointer (some ⟨pb, 0, none⟩)] 128)).heap.size = w2.heap.size + 1 := by simp
    have HB8 := hide hb8
    have HU := hide hU
    have c8 : wc.cell? ⟨b8, 0, none⟩ = some (.pointer (some ⟨m, 0, none⟩)) := cell_of hb8 rfl
    have l8 := heap_lt hb8
    have hN0 : wc.heap[w2.heap.size]? = some (.cells #[.pointer (some ⟨pb, 0, none⟩)] 128 (0, 0)) := (hU.hO.block _ (by simp) (fun e => e)).trans (new0 w2 _)
    have hIn : wc.heap[w.heap.size + 1]? = some (.cells #[.string T] 9 (0, 0)) := (hU.hO.block _ (by simp; omega) (fun e => e)).trans ((Below.heap_alloc _ _ _ (heap_lt HI2.out)).trans HI2.out)
    have hP0 : wc.heap[pb]? = some (.cells #[.slice none 0 0, .slice none 0 0, esv, .int .i64 7, .int .i64 0] 135 (0, 0)) := (hU.hO.block _ (by simp; omega) (fun e => e)).trans ((Below.heap_alloc _ _ _ hpl).trans HPb.out)
    have nbm : b8 ≠ m := fun e => by obtain ⟨_, _, _, hM⟩ := hU.hM; unfold MAt at hM; rw [← e, hb8] at hM; cases hM
    have nbv : b8 ≠ vb := fun e => by have hV := hU.hV; unfold VAt at hV; rw [← e, hb8] at hV; cases hV
    have nbs : b8 ≠ sb := fun e => by have hS := hU.hS; rw [← e, hb8] at hS; cases hS
    have hml := hU.hm
    have hvl := hU.hv
    have hsl := hU.hs
    have hRl : (w2.alloc (.cells #[.pointer (some ⟨pb, 0, none⟩)] 128)).ownsRow 0 185 1 esv 1 [ex] ∧ KN w.heap.size (w2.alloc (.cells #[.pointer (some ⟨pb, 0, none⟩)] 128)) ex :=
      ⟨HRl.out.1.alloc _, HKg.out.down _ _ _ _ (HKg.out.keep _ _ _ _ HRl.out.2 ((onlyA w2 _).mono (fun _ _ e => e.elim))) (by simp <;> omega)⟩
    have hpN : (w2.alloc (.cells #[.pointer (some ⟨pb, 0, none⟩)] 128)).heap[pb]? = some (.cells #[.slice none 0 0, .slice none 0 0, esv, .int .i64 7, .int .i64 0] 135 (0, 0)) := (Below.heap_alloc _ _ _ hpl).trans HPb.out
    have mlt : m < wc.heap.size := by obtain ⟨_, _, _, hM⟩ := hU.hM; exact heap_lt hM
    have vlt := heap_lt hU.hV
    have slt := heap_lt hU.hS
    have hgN : (w2.alloc (.cells #[.pointer (some ⟨pb, 0, none⟩)] 128)).cell? ⟨2, 0, none⟩ = some (.iface 558 (.pointer (some a))) := ((HO2.out.alloc _).cell (p := ⟨2, 0, none⟩) hgw (fun e => e)).trans HGl.out
    have HA1 := hide (attempt_any m 62 cf91 #[.pointer (some ⟨b8, 0, none⟩), .pointer (some ⟨w2.heap.size, 0, none⟩), .pointer (some ⟨w.heap.size + 1, 0, none⟩)] (fun k => k = m ∨ k = vb ∨ k = sb) (fun w' => AllFew (recs T.data.toList) ∧ ∃ wS txt cs, VsN cs (recs T.data.toList).length ∧ UnderE (w2.alloc (.cells #[.pointer (some ⟨pb, 0, none⟩)] 128)) wS w' m ab vb sb txt (n0 + 1) cs) (fun w' => ¬ AllFew (recs T.data.toList) ∧ ∃ wS txt n cs, UnderE (w2.alloc (.cells #[.pointer (some ⟨pb, 0, none⟩)] 128)) wS w' m ab vb sb txt n cs) a wc (fun k e => by rcases e with rfl | rfl | rfl <;> assumption) (fun W hW => by
      refine run1_any b8 w2.heap.size (w.heap.size + 1) m pb T _ W (cell_of ((hW.block _ l8 (fun e => e)).trans HB8.out) rfl) (cell_of ((hW.block _ (heap_lt hN0) (fun e => e)).trans hN0) rfl) (cell_of ((hW.block _ (heap_lt hP0) (fun e => e)).trans hP0) rfl) (cell_of ((hW.block _ (heap_lt hIn) (fun e => e)).trans hIn) rfl) ?_
      have hUW := hU.only (D := fun _ => False) (toDrew hW) (fun e => e) (fun e => e) (fun e => e) (fun _ e => e.elim)
      have hWz2 := hW.size
      have hNz := hU.hO.size
      refine (HRA.out pb esv (w2.alloc (.cells #[.pointer (some ⟨pb, 0, none⟩)] 128)) W.drew hpN hgN m ab vb sb W.drew ⟨Nat.le_trans hNz hWz2, Nat.lt_of_lt_of_le mlt hWz2, Nat.lt_of_lt_of_le vlt hWz2, Nat.lt_of_lt_of_le slt hWz2, by rw [hn0]; exact hUW⟩).mono ?_
      rintro en w' (⟨hf, e, txt, cs, hvs, hUL⟩ | ⟨hf, e, txt, n, cs, hUL⟩)
      · exact ⟨Or.inl ⟨e, ⟨hf, _, txt, cs, hvs, hUL⟩, fromDrew hUL.u.hT⟩, Or.inl e⟩
      · obtain ⟨po, pn, pc, hM⟩ := hUL.u.hM
        exact ⟨Or.inr ⟨e, ⟨hf, _, txt, n, cs, hUL⟩, ⟨_, _, _, _, _, _, _, _, hM⟩, fromDrew hUL.u.hT⟩, Or.inr ⟨_, e⟩⟩))
    have HTN : Hid (Lib.TabIs Tryz.prog (w2.alloc (.cells #[.pointer (some ⟨pb, 0, none⟩)] 128)) "internal/strconv.uint64pow10" .u64 Lib.pow10Tab) := hide (tab_only HTab.out (HO2.out.alloc _))
    have HRow := hide hRl
    have HPN := hide hpN
    have HN0 := hide hN0
    have HP0 := hide hP0
    clear hb8 hU hN0 hIn hP0 HRA HPb HRl hRl hpN hgN
    go_wp2_with fail
    refine (HA1.out).mono ?_
    rintro en w5 (⟨rfl, ⟨w1, ⟨hf, wS, txt, cs, hvs, hUL⟩, hbx, ho1⟩, ho5⟩ | ⟨rfl, ⟨w1, ⟨hf, wS, txt, n, cs, hUL⟩, hbx, hmap, ho1⟩, ho5⟩)
    · have hU1 := hUL.u
      have HF := hide hf
      clear hf
      have hU5 := hU1.only ho1 (by omega) (by omega) (by omega) (fun k e => by rw [hWz]; omega)
      have hb85 : w5.heap[b8]? = some (.cells #[.pointer (some ⟨m, 0, none⟩)] 130 (0, 0)) := (ho5.block b8 l8 (fun e => by rcases e with e | e | e; exact nbm e; exact nbv e; exact nbs e)).trans HB8.out
      have e8 : w5.cell? ⟨b8, 0, none⟩ = some (.pointer (some ⟨m, 0, none⟩)) := cell_of hb85 rfl
      have i8 := heap_lt hb85
      have hN5 : w5.heap[w2.heap.size]? = some (.cells #[.pointer (some ⟨pb, 0, none⟩)] 128 (0, 0)) := (hU5.hO.block _ (by simp) (fun e => e)).trans (new0 w2 _)
      have hP5 : w5.heap[pb]? = some (.cells #[.slice none 0 0, .slice none 0 0, esv, .int .i64 7, .int .i64 0] 135 (0, 0)) := (ho5.block pb (heap_lt HP0.out) (fun e => by simp at hml hvl hsl; rcases e with e | e | e <;> omega)).trans HP0.out
      have hm5 : m < w5.heap.size := by obtain ⟨_, _, _, hM⟩ := hU5.hM; exact heap_lt hM
      have hs5 := heap_lt hU5.hS
      have hv5 := heap_lt hU5.hV
      have hN5z := hU5.hO.size
      have HA2 := hide (attempt_ok2 m 65 cf94 #[.pointer (some ⟨b8, 0, none⟩), .pointer (some ⟨w2.heap.size, 0, none⟩)] (fun q => q = m ∨ q = sb) (fun w' => ∃ W0, w5.heap.size ≤ W0.heap.size ∧ ResN (w2.alloc (.cells #[.pointer (some ⟨pb, 0, none⟩)] 128)) W0 m ab vb sb (recs T.data.toList).length w') w5 (fun k e => by rcases e with rfl | rfl <;> assumption) (fun W hW => by
        refine (run2_end w.heap.size b8 w2.heap.size pb _ w5 esv HPN.out ex HRow.out.1 HRow.out.2 m ab vb sb n0 (recs T.data.toList).length (by omega) HIt.out cs hvs (by omega) txt HTN.out W W (Nat.le_trans hN5z hW.size) (Only.refl _ _) ⟨hN5z, hm5, hv5, hs5, ⟨hU5.hm, hU5.hv, hU5.hs, hU5.nmv, hU5.nms, hU5.nvs, (hU5.calm hW).hM, (hU5.calm hW).hV, (hU5.calm hW).hS, (hU5.calm hW).hO, hW.mono (fun _ _ e => e.elim)⟩⟩ (cell_of ((hW.block _ i8 (fun e => e)).trans hb85) rfl) (cell_of ((hW.block _ (heap_lt hN5) (fun e => e)).trans hN5) rfl)).mono ?_
        rintro en w' ⟨e, hres⟩
        exact ⟨e, ⟨W, hW.size, hres⟩, hres.o0.mono (fun q hq e => by rcases e with e | e | e; exact Or.inl e; exact Or.inr e; omega)⟩))
      have HU5 := hide hU5
      have HB85 := hide hb85
      clear ho1 hbx hU1 hU5 hb85 hN5 hP5 HA1 ho5
      go_wp2_with fail
      refine (HA2.out).mono ?_
      rintro en w6 ⟨rfl, ⟨w7, ⟨W0, hW0, hres⟩, hbx6, ho67⟩, ho6⟩
      obtain ⟨⟨txt6, flds6, n6, hM7⟩, ⟨tv, hS7, hown7⟩, hoN7, _⟩ := hres
      have hnm7 : m ≠ w5.heap.size + 1 := by omega
      have hM6 := hM7.only ho67 hnm7
      have hS6 : w6.heap[sb]? = some (.cells #[.string ⟨#[]⟩, tv] 142 (0, 0)) := (ho67.block sb (heap_lt hS7) (by omega)).trans hS7
      have hne7 := own_tag hown7 hbx6 (by decide)
      have hown6 : w6.ownsRow W0.heap.size 5 1 tv (nrOut (recs T.data.toList).length).size (Lib.strCells (nrOut (recs T.data.toList).length)) := ownsRow_of hown7 (fun k hk => ho67.block k (hown7.lt k hk).2 (fun e => hne7 (by rw [hk, e])))
      have hO6 : Only (fun _ => False) (w2.alloc (.cells #[.pointer (some ⟨pb, 0, none⟩)] 128)) w6 := hoN7.trans ho67 (fun q hq e => by omega)
      have hR6 : w6.heap[w.heap.size + 1 + 1]? = some (.cells #[.slice none 0 0, .int .i64 0, .nilIface] 76 (0, 0)) := (hO6.block _ (by simp; omega) (fun e => e)).trans ((Below.heap_alloc _ _ _ (heap_lt HO12.out)).trans HO12.out)
      have r0 : w6.cell? ⟨w.heap.size + 1 + 1, 0, none⟩ = some (.slice none 0 0) := cell_of hR6 rfl
      have r1 : w6.cell? ⟨w.heap.size + 1 + 1, 1, none⟩ = some (.int .i64 0) := cell_of hR6 rfl
      have r2 : w6.cell? ⟨w.heap.size + 1 + 1, 2, none⟩ = some .nilIface := cell_of hR6 rfl
      have rf := free_of hR6
      have rl := heap_lt hR6
      have hb86 := (ho6.block b8 i8 (fun e => by rcases e with e | e; exact nbm e; exact nbs e)).trans HB85.out
      have f8 : w6.cell? ⟨b8, 0, none⟩ = some (.pointer (some ⟨m, 0, none⟩)) := cell_of hb86 rfl
      have f8d : w6.drew.cell? ⟨b8, 0, none⟩ = some (.pointer (some ⟨m, 0, none⟩)) := f8
      have j8 := heap_lt hb86
      have HSt : Hid (Calls Tryz.prog 66 #[.pointer (some ⟨m, 0, none⟩)] w6.drew fun en w' => en = .returned (.slice (some ⟨sb, 0, none⟩) 1 1) ∧ w' = w6.drew) := streams_at m ab vb txt6 flds6 (some ⟨sb, 0, none⟩) 1 1 (nrOut (recs T.data.toList).length).size n6 0 w6.drew hM6
      have HCo : Hid (Calls Tryz.prog 67 #[.pointer (some ⟨m, 0, none⟩)] w6.drew fun en w' => en = .returned (.int .i64 0) ∧ w' = w6.drew) := code_at m ab vb txt6 flds6 (.slice (some ⟨sb, 0, none⟩) 1 1) (nrOut (recs T.data.toList).length).size n6 0 w6.drew hM6
      have HS6 := hide hS6
      have HOw6 := hide hown6
      have HR6 := hide hR6
      have nbr : b8 ≠ w.heap.size + 1 + 1 := by omega
      have HO6 : Hid (Only (fun _ => False) w w6) := (HO2.out.alloc _).trans hO6 (fun _ _ e => e)
      clear hO6 hR6 hb86 hM6 hM7 hS7 hS6 hown7 hown6 hoN7 hbx6 ho67 ho6 HA2
      go_upto_region 8 with fail
      go_region_held3 (fun W => W.cell? ⟨b8, 0, none⟩ = some (.pointer (some ⟨m, 0, none⟩))) (first | (repeat (first | (with_reducible assumption) | (with_reducible refine past ?_ _) | (with_reducible refine pastD ?_ _) | ((with_reducible refine farC ?_ ?_); (rotate_left; (focus (first | (simp; done) | (simp; omega) | omega)))) | ((with_reducible refine farCD ?_ ?_); (rotate_left; (focus (first | (simp; done) | (simp; omega) | omega)))))))
        (first | (go_at_call 66; refine (HSt.out).mono ?_; rintro en w' ⟨rfl, h3⟩; subst w') | (go_at_call 67; refine (HCo.out).mono ?_; rintro en w' ⟨rfl, h3⟩; subst w'))
      all_goals
        go_wp2
        have hol : Only (fun k => k = w.heap.size + 1 + 1) w6 (((w6.setCell ⟨w.heap.size + 1 + 1, 0, none⟩ (.slice (some ⟨sb, 0, none⟩) 1 1)).setCell ⟨w.heap.size + 1 + 1, 1, none⟩ (.int .i64 0)).setCell ⟨w.heap.size + 1 + 1, 2, none⟩ .nilIface).drew := toDrew ((((Only.refl (fun k => k = w.heap.size + 1 + 1) w6).setCell (p := ⟨w.heap.size + 1 + 1, 0, none⟩) (fun _ => rfl) _).setCell (p := ⟨w.heap.size + 1 + 1, 1, none⟩) (fun _ => rfl) _).setCell (p := ⟨w.heap.size + 1 + 1, 2, none⟩) (fun _ => rfl) _)
        have hne6 := own_tag HOw6.out HR6.out (by decide)
        have hsb : sb ≠ w.heap.size + 1 + 1 := by simp at hsl; omega
        refine bodyPost_ret (v := .agg #[.slice (some ⟨sb, 0, none⟩) 1 1, .int .i64 0, .nilIface]) (by simp [results, Tryz.results41, go_sem, r0, r1, r2]) rfl ⟨sb, tv, _, Or.inl ⟨HF.out, rfl, rfl⟩, (hol.block sb (heap_lt HS6.out) hsb).trans HS6.out, base0 (ownsRow_of HOw6.out (fun k hk => hol.block k (HOw6.out.lt k hk).2 (fun e => hne6 (by rw [hk, e])))), HO6.out.trans hol (fun q h e => by omega)⟩
    · have hU1 := hUL.u
      have HF := hide hf
      clear hf
      obtain ⟨po1, pn1, pc1, hM1⟩ := hU1.hM
      have hM5 := hmap _ _ _ _ _ _ _ _ hM1
      have hsb5 : w5.heap[sb]? = some (.cells #[.string ⟨#[]⟩, .slice none 0 0] 142 (0, 0)) := (ho1.block sb (heap_lt hU1.hS) (fun e => e.elim (fun e => by omega) (fun e => hU1.nms e.symm))).trans hU1.hS
      have hb85 : w5.heap[b8]? = some (.cells #[.pointer (some ⟨m, 0, none⟩)] 130 (0, 0)) := (ho5.block b8 l8 (fun e => by rcases e with (e | e | e) | e; exact nbm e; exact nbv e; exact nbs e; exact nbm e)).trans HB8.out
      have e8 : w5.cell? ⟨b8, 0, none⟩ = some (.pointer (some ⟨m, 0, none⟩)) := cell_of hb85 rfl
      have i8 := heap_lt hb85
      have hO5 : Only (fun _ => False) (w2.alloc (.cells #[.pointer (some ⟨pb, 0, none⟩)] 128)) w5 := hU1.hO.trans ho1 (fun q hq e => by simp at hq hml; omega)
      have hR5 : w5.heap[w.heap.size + 1 + 1]? = some (.cells #[.slice none 0 0, .int .i64 0, .nilIface] 76 (0, 0)) := (hO5.block _ (by simp; omega) (fun e => e)).trans ((Below.heap_alloc _ _ _ (heap_lt HO12.out)).trans HO12.out)
      have r0 : w5.cell? ⟨w.heap.size + 1 + 1, 0, none⟩ = some (.slice none 0 0) := cell_of hR5 rfl
      have r1 : w5.cell? ⟨w.heap.size + 1 + 1, 1, none⟩ = some (.int .i64 0) := cell_of hR5 rfl
      have r2 : w5.cell? ⟨w.heap.size + 1 + 1, 2, none⟩ = some .nilIface := cell_of hR5 rfl
      have rf := free_of hR5
      have rl := heap_lt hR5
      have HSt := hide (streams_at m ab vb txt (.slice po1 pn1 pc1) (some ⟨sb, 0, none⟩) 1 1 0 n 0 w5 hM5)
      have HO5 : Hid (Only (fun _ => False) w w5) := (HO2.out.alloc _).trans hO5 (fun _ _ e => e)
      have HS5 := hide hsb5
      have HR5 := hide hR5
      clear hO5 hR5 hb85 hM5 hsb5 ho1 ho5 hbx hU1 hM1 HA1 hmap
      go_wp2_with (go_at_call 66; refine (HSt.out).mono ?_; rintro en w' ⟨rfl, h3⟩; subst w')
      have hol : Only (fun k => k = w.heap.size + 1 + 1) w5 (((w5.setCell ⟨w.heap.size + 1 + 1, 0, none⟩ (.slice (some ⟨sb, 0, none⟩) 1 1)).setCell ⟨w.heap.size + 1 + 1, 1, none⟩ (.int .i64 0)).setCell ⟨w.heap.size + 1 + 1, 2, none⟩ (.iface 558 (.pointer (some a)))) := (((Only.refl (fun k => k = w.heap.size + 1 + 1) w5).setCell (p := ⟨w.heap.size + 1 + 1, 0, none⟩) (fun _ => rfl) _).setCell (p := ⟨w.heap.size + 1 + 1, 1, none⟩) (fun _ => rfl) _).setCell (p := ⟨w.heap.size + 1 + 1, 2, none⟩) (fun _ => rfl) _
      have hsb : sb ≠ w.heap.size + 1 + 1 := by simp at hsl; omega
      refine bodyPost_ret (v := .agg #[.slice (some ⟨sb, 0, none⟩) 1 1, .int .i64 0, .iface 558 (.pointer (some a))]) (by simp [results, Tryz.results41, go_sem, r0, r1, r2]) rfl ⟨sb, .slice none 0 0, ⟨#[]⟩, Or.inr ⟨HF.out, rfl⟩, (hol.block sb (heap_lt HS5.out) hsb).trans HS5.out, World.ownsRow_nil _ _ _ _, HO5.out.trans hol (fun q h e => by omega)⟩
end Go.Proofs.YtdbdbaepmdmnfaaGreatDoor
