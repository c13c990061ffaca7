import Derived.Test.YtdbdbaepmdmnfaaGreatDoorZ40
import Derived.Test.YtdbdbaepmdmnfaaGreatDoorZ34
import Derived.Test.YtdbdbaepmdmnfaaGreatDoorZ36
import Derived.Test.YtdbdbaepmdmnfaaGreatDoorZ35
import Derived.Recover
namespace Go.Proofs.YtdbdbaepmdmnfaaGreatDoor
open Go.RowKit
theorem line_of {l : List UInt8} (h : ∀ b ∈ l, b ≠ 10) : lineOf l = l ∧ restOf l = [] := by
  induction l with
  | nil => exact ⟨rfl, rfl⟩
  | cons c l ih =>
    have hc := h c (by simp)
    obtain ⟨h1, h2⟩ := ih (fun b hb => h b (by simp [hb]))
    exact ⟨by rw [lineOf, if_neg hc, h1], by rw [restOf, if_neg hc, h2]⟩
set_option maxRecDepth 20000 in
set_option maxHeartbeats 4000000 in
theorem readAll_oneR (p : Pl8) (htab : Lib.TabIs Tryz.prog p.wN "internal/strconv.uint64pow10" .u64 Lib.pow10Tab) (S : List UInt8) (hS : S.length ≤ 100) (R : Pat) (hR : wholeP S = some R) (T : ByteArray) (F : AS) (hF : Came R T.data.toList F) (hT : T.size ≤ 60) (h0 : 0 < T.size) (hno : ∀ b ∈ T.data.toList, b ≠ 10) (dd30 : ∀ k, k ≤ 400 → (Lib.decDigits k).length ≤ 30) (B pb : Nat) (a rs : Value) (hp : p.wN.heap[pb]? = some (.cells #[a, rs, .slice none 0 0, .int .i64 8, .int .i64 0] 135 (0, 0))) (hr : RuleF (BlockK (KMs S) 3) B p.wN rs) (w : World) (h : On8 p (stR [] 0 0 0 [] 1999) w) :
    Calls Tryz.prog 64 #[.pointer (some ⟨pb, 0, none⟩), .pointer (some ⟨p.m, 0, none⟩), .string T] w fun en w' => en = .returned (.tuple #[]) ∧ On8 p (stR (left T.data.toList F) 1 1 F.count (outR T.data.toList F) 1995) w' ∧ Kept p w w' := by
  have htl : T.data.toList.length ≤ 60 := by rw [len_eq]; exact hT
  obtain ⟨cg, x, hown, hx⟩ := hr
  obtain ⟨g, cap, ers, hgl2, hgc⟩ := own_at hown (by simp)
  obtain ⟨Fn, caps, ex, hcf, hD⟩ := body_doesR p htab S T.data.toList hS R hR F hF htl hno dd30 B x hx
  generalize hs' : stR (left T.data.toList F) 1 1 F.count (outR T.data.toList F) 1995 = s' at *
  have HDo : Hid (∀ W, On8 p (stR T.data.toList 1 0 0 [] 1998) W → Calls Tryz.prog 101 #[.pointer (some ⟨pb, 0, none⟩), .pointer (some ⟨p.m, 0, none⟩)] W fun en w' => en = .returned (.tuple #[]) ∧ (On8 p s' w' ∧ Kept p W w')) := hide (fun W hW => by
    have hpW := (hW.O.block pb (heap_lt hp) (fun e => e)).trans hp
    have c0 := (hW.O.cell (p := ⟨g, 0, none⟩) hgl2 (fun e => e)).trans (hgc 0 _ rfl)
    have c2 := (hW.O.cell (p := ⟨g, 2, none⟩) hgl2 (fun e => e)).trans (hgc 2 _ rfl)
    rw [ex] at c2
    refine doRules_one pb p.m g cap Fn (some ⟨cg, 0, none⟩) 0 hcf caps (fun w' => On8 p s' w' ∧ Kept p W w') W ?_ c0 c2 (hD W hW)
    have c1 : W.cell? ⟨pb, 1, none⟩ = some rs := cell_of hpW rfl
    rw [c1, ers])
  have HSt := hide (step_on p (stR [] 0 0 0 [] 1998) (by decide) w h)
  have HC : Hid (∀ W, Calls Tryz.prog 99 #[.string T, .string ⟨#[10]⟩] W fun en w' => ∃ q, en = .returned (.tuple #[.string T, .string ⟨#[]⟩, .bool q]) ∧ Only (fun _ => False) W w') := hide (fun W => (cutS_any T (by omega) W).mono (fun en w' h => by
    obtain ⟨e1, e2⟩ := line_of hno
    rw [e1, e2] at h
    exact ⟨_, h.1, h.2⟩))
  have HRd : Hid (∀ W, On8 p (stR [] 0 0 0 [] 1998) W → Calls Tryz.prog 100 #[.pointer (some ⟨p.m, 0, none⟩), .string T] W fun en w' => en = .returned (.tuple #[]) ∧ On8 p (stR T.data.toList 1 0 0 [] 1998) w' ∧ Kept p W w') := hide (fun W hW => by
    have := read_onN p (stR [] 0 0 0 [] 1998) T (by omega) hno (by have := lnF_len T.data.toList; omega) _ _ _ rfl rfl rfl rfl rfl rfl rfl rfl rfl W hW
    exact this)
  have he : T.toList.isEmpty = false := by
    rw [ByteArray.toList_eq]
    have hl : 0 < T.data.toList.length := h0
    cases hd : T.data.toList with
    | nil => rw [hd] at hl; simp at hl
    | cons a r => rfl
  clear h hown hgc hgl2 ers hp hx hD hcf hno htl hF hs'
  go_enter Tryz.func64, Tryz.ntmps64
  go_wp2
  go_loopg [2] 1 (fun gh s2 wr => (gh = 1 ∧ s2 = .string T ∧ wr = w) ∨ (gh = 0 ∧ s2 = .string ⟨#[]⟩ ∧ Hid (On8 p s' wr ∧ Kept p w wr)))
  case atStart => exact Or.inl ⟨rfl, rfl, rfl⟩
  case round =>
    rcases hrel with ⟨rfl, rfl, rfl⟩ | ⟨rfl, rfl, HR⟩
    · go_wp2_with fail
      refine (HSt.out).mono ?_
      rintro en w2 ⟨rfl, hn2, hk2⟩
      have HN2 := hide hn2
      have HK2 := hide hk2
      clear hn2 hk2 HSt
      go_wp2_with fail
      refine (HC.out _).mono ?_
      rintro en w3 ⟨q, rfl, ho3⟩
      have HN3 := hide (HRd.out w3 (HN2.out.calm ho3))
      have HK3 := hide (HK2.out.trans (Kept.of (p := p) ho3))
      clear ho3 HN2 HRd
      go_wp2_with fail
      refine (HN3.out).mono ?_
      rintro en w4 ⟨rfl, hn4, hk4⟩
      have HD4 := hide (HDo.out w4 hn4)
      have HK4 := hide (HK3.out.trans hk4)
      clear hn4 hk4 HN3 HDo
      go_wp2_with fail
      refine (HD4.out).mono ?_
      rintro en w5 ⟨rfl, hn5, hk5⟩
      have HR5 := hide (And.intro hn5 (HK4.out.trans hk5))
      clear hn5 hk5 HD4
      go_wp2
      go_roundg 0
      case measure => omega
      case rel => exact Or.inr ⟨rfl, rfl, HR5⟩
    · have he0 : (⟨#[]⟩ : ByteArray).toList.isEmpty = true := by rw [ByteArray.toList_eq]; rfl
      go_wp2
      go_end0
      exact ⟨rfl, HR.out.1, HR.out.2⟩
/-- The first part of a run: the beginning, and the input. -/
theorem run1R (p : Pl8) (htab : Lib.TabIs Tryz.prog p.wN "internal/strconv.uint64pow10" .u64 Lib.pow10Tab) (S : List UInt8) (hS : S.length ≤ 100) (R : Pat) (hR : wholeP S = some R) (T : ByteArray) (F : AS) (hF : Came R T.data.toList F) (hT : T.size ≤ 60) (h0 : 0 < T.size) (hno : ∀ b ∈ T.data.toList, b ≠ 10) (dd30 : ∀ k, k ≤ 400 → (Lib.decDigits k).length ≤ 30) (B pb mc pc ic : Nat) (a rs : Value) (hp : p.wN.heap[pb]? = some (.cells #[a, rs, .slice none 0 0, .int .i64 8, .int .i64 0] 135 (0, 0))) (ha : BegF (BlockK KBs 1) B p.wN a) (hr : RuleF (BlockK (KMs S) 3) B p.wN rs) (hpc : p.wN.heap[pc]? = some (.cells #[.pointer (some ⟨pb, 0, none⟩)] 128 (0, 0))) (hic : p.wN.heap[ic]? = some (.cells #[.string T] 9 (0, 0))) (nm : mc ≠ p.m) (nv : mc ≠ p.vb) (ns : mc ≠ p.sb) (w : World) (hmc : w.heap[mc]? = some (.cells #[.pointer (some ⟨p.m, 0, none⟩)] 130 (0, 0))) (h : On8 p st0 w) :
    Calls Tryz.prog 62 #[.pointer (some ⟨mc, 0, none⟩), .pointer (some ⟨pc, 0, none⟩), .pointer (some ⟨ic, 0, none⟩)] w fun en w' => en = .returned (.tuple #[]) ∧ On8 p (stR (left T.data.toList F) 1 1 F.count (outR T.data.toList F) 1995) w' ∧ Kept p w w' := by
  obtain ⟨x, hown, hx⟩ := ha
  obtain ⟨g, cap, rfl, hgl, hgc⟩ := own_at hown (by simp)
  obtain ⟨Fn, caps, ex, hcf, hD⟩ := begin_does p B x hx
  subst ex
  refine run1_two mc pc ic p.m pb g cap T _ (fun W => On8 p (stR [] 0 0 0 [] 1999) W ∧ Kept p w W) w (cell_of hmc rfl) (cell_of ((h.O.block pc (heap_lt hpc) (fun e => e)).trans hpc) rfl) (cell_of ((h.O.block pb (heap_lt hp) (fun e => e)).trans hp) rfl) (fun W hW => ?_) (fun W hW => ?_) (fun W hW => ?_)
  · have hUW := h.calm hW
    exact doAll_oneB p.m g cap Fn hcf caps _ W ((hUW.O.cell (p := ⟨g, 0, none⟩) hgl (fun e => e)).trans (hgc 0 _ rfl)) (Nat.lt_of_lt_of_le hgl hUW.O.size) ((hD _ (hUW.calm (onlyA W _))).mono (fun en w' h => ⟨h.1, h.2.1, (Kept.of (hW.alloc _)).trans h.2.2⟩))
  · exact ⟨cell_of (hW.2.2 mc _ _ nm nv ns (by decide) (by decide) hmc) rfl, cell_of ((hW.1.O.block pc (heap_lt hpc) (fun e => e)).trans hpc) rfl, cell_of ((hW.1.O.block ic (heap_lt hic) (fun e => e)).trans hic) rfl⟩
  · exact (readAll_oneR p htab S hS R hR T F hF hT h0 hno dd30 B pb _ rs hp hr W hW.1).mono (fun en w' h => ⟨⟨h.1, h.2.1, hW.2.trans h.2.2⟩, h.1⟩)
end Go.Proofs.YtdbdbaepmdmnfaaGreatDoor

namespace Go.Proofs.YtdbdbaepmdmnfaaGreatDoor
open Go.RowKit
set_option maxRecDepth 20000 in
set_option maxHeartbeats 4000000 in
/-- A part of a run that comes to its end. -/
theorem attempt_kept (p : Pl8) (F : Nat) (hcf : ∀ (args : Array Value) (w : World), (callFunc F args).run Tryz.prog w = .ok (.enter F args) w) (caps : Array Value) (Q : World → Prop) (w : World) (lm : p.m < w.heap.size) (lv : p.vb < w.heap.size) (ls : p.sb < w.heap.size)
    (h1 : ∀ W, Only (fun _ => False) w W → Calls Tryz.prog F caps W fun en w' => en = .returned (.tuple #[]) ∧ Q w' ∧ Kept p W w') :
    Calls Tryz.prog 61 #[.pointer (some ⟨p.m, 0, none⟩), .func (.func F) #[] caps] w fun en w' => en = .returned .nilIface ∧ ∃ w1, Q w1 ∧ Kept p w w1 ∧ w1.heap[w.heap.size + 1]? = some (.cells #[.nilIface] 74 (0, 0)) ∧ w' = w1.setCell ⟨w.heap.size + 1, 0, none⟩ .nilIface := by
  have hmf : ∀ (fn : Fn) (first cap : Array Value) (w : World), (Instr.makeFunc fn first cap).run Tryz.prog w = .ok (.func fn first cap) w := fun _ _ _ _ => rfl
  have H1 := hide (h1 ((w.alloc (.cells #[.pointer (some ⟨p.m, 0, none⟩)] 130)).alloc (.cells #[.nilIface] 74)) ((onlyA w _).alloc _))
  clear h1
  go_enter_defers Tryz.func61, Tryz.ntmps61
  go_wp2_with fail
  refine (H1.out).mono ?_
  rintro en w1 ⟨rfl, hQ, hk⟩
  have hb := hk.2 (w.heap.size + 1) _ _ (by omega) (by omega) (by omega) (by decide) (by decide) (new_at2 (W := w.alloc (.cells #[.pointer (some ⟨p.m, 0, none⟩)] 130)) (by simp) (.cells #[.nilIface] 74))
  have c0 : w1.cell? ⟨w.heap.size + 1, 0, none⟩ = some .nilIface := cell_of hb rfl
  have cf := free_of hb
  have HQ := hide hQ
  have HBb := hide hb
  have HK := hide ((Kept.of (p := p) ((onlyA w _).alloc _)).trans hk)
  clear hQ hk hb H1
  go_wp2
  refine leaves_cons (f := 97) (args := #[.pointer (some ⟨w.heap.size, 0, none⟩), .pointer (some ⟨w.heap.size + 1, 0, none⟩)]) (by simp) (by simp [go_sem]) ?_
  refine (caught_idle _ _ _).mono ?_
  rintro e u' w'' ⟨rfl, rfl, rfl⟩
  refine ⟨.nilIface, ?_, rfl, w1, HQ.out, HK.out, HBb.out, rfl⟩
  simp [results, Tryz.results61, go_sem, c0]
theorem streams_at8 {p : Pl8} {s : St8} {W : World} (h : On8 p s W) : Calls Tryz.prog 66 #[.pointer (some ⟨p.m, 0, none⟩)] W fun en w' => en = .returned (.slice (some ⟨p.sb, 0, none⟩) 1 1) ∧ w' = W := by
  obtain ⟨fv, hM, _⟩ := h.M
  have c5 : W.cell? ⟨p.m, 5, none⟩ = some (.slice (some ⟨p.sb, 0, none⟩) 1 1) := cell_of hM rfl
  clear h hM
  go_enter Tryz.func66, Tryz.ntmps66
  go_wp2
  go_ret
  exact ⟨rfl, rfl⟩
theorem code_at8 {p : Pl8} {s : St8} {W : World} (h : On8 p s W) : Calls Tryz.prog 67 #[.pointer (some ⟨p.m, 0, none⟩)] W fun en w' => en = .returned (.int .i64 0) ∧ w' = W := by
  obtain ⟨fv, hM, _⟩ := h.M
  have c8 : W.cell? ⟨p.m, 8, none⟩ = some (.int .i64 0) := cell_of hM rfl
  clear h hM
  go_enter Tryz.func67, Tryz.ntmps67
  go_wp2
  go_ret
  exact ⟨rfl, rfl⟩
theorem progN_stab (S : List UInt8) (pbp : Nat) {w w' : World} {v : Value} (h : ProgN 2 kdR (BR pbp S) w v) (ho : Only (fun _ => False) w w') : ProgN 2 kdR (BR pbp S) w' v := by
  obtain ⟨rs, us, rfl, hr, hu⟩ := h
  exact ⟨rs, us, rfl, ownsRow_of hr (fun k hk => ho.block k (hr.lt k hk).2 (fun e => e)), fun i hi => br_stab3 pbp S i w w' _ (fun _ => False) (hu i hi) ho (fun k e => e.elim)⟩
set_option maxRecDepth 20000 in
set_option maxHeartbeats 8000000 in
theorem runR (S : List UInt8) (hS : S.length ≤ 100) (R : Pat) (hR : wholeP S = some R) (T : ByteArray) (F : AS) (hF : Came R T.data.toList F) (hT : T.size ≤ 60) (hT0 : 0 < T.size) (hno : ∀ b ∈ T.data.toList, b ≠ 10) (dd30 : ∀ k, k ≤ 400 → (Lib.decDigits k).length ≤ 30) (pbp : Nat) (rg rcap : Nat) (w : World) (hB : ProgN 2 kdR (BR pbp S) w (.agg #[.slice none 0 0, .slice (some ⟨rg, 0, none⟩) 2 rcap])) (htab : Lib.TabIs Tryz.prog w "internal/strconv.uint64pow10" .u64 Lib.pow10Tab) :
    Calls Tryz.prog 41 #[.agg #[.slice none 0 0, .slice (some ⟨rg, 0, none⟩) 2 rcap], .string T, .int .i64 2000] w fun en w' => ∃ sb tv, en = .returned (.agg #[.slice (some ⟨sb, 0, none⟩) 1 1, .int .i64 0, .nilIface]) ∧ w'.heap[sb]? = some (.cells #[.string ⟨#[]⟩, tv] 142 (0, 0)) ∧ w'.ownsRow 0 5 1 tv (ofB (outR T.data.toList F)).size (Lib.strCells (ofB (outR T.data.toList F))) ∧ Only (fun _ => False) w w' := by
  have hmf := hmfT
  have O1 := ((onlyA w (.cells #[.slice none 0 0, .slice (some ⟨rg, 0, none⟩) 2 rcap] 60)).alloc (.cells #[.string T] 9)).alloc (.cells #[.slice none 0 0, .int .i64 0, .nilIface] 76)
  have HRm := hide (readyR S pbp _ _ (progN_stab S pbp hB O1))
  have HNm : Hid (∀ W, Calls Tryz.prog 60 #[.int .i64 8, .int .i64 0, .int .i64 2000] W fun en w' => ∃ m, en = .returned (.pointer (some ⟨m, 0, none⟩)) ∧ FreshM8 W w' m 2000 first8) := fun W => newMachine8 2000 W
  have HTab := hide htab
  have HRA := hide (fun (p : Pl8) (ht : Only (fun _ => False) w p.wN) B pb mc pc ic a rs hp ha hr hpc hic nm nv ns W hmc hW => run1R p (tab_only htab ht) S hS R hR T F hF hT hT0 hno dd30 B pb mc pc ic a rs hp ha hr hpc hic nm nv ns W hmc hW)
  clear O1 hB htab hno dd30 hR hF
  generalize hs9 : stR (left T.data.toList F) 1 1 F.count (outR T.data.toList F) 1995 = s9 at *
  have HS' : Hid (s9.out = ofB (outR T.data.toList F)) := hide (by rw [← hs9]; rfl)
  clear hs9
  go_enter Tryz.func41, Tryz.ntmps41
  go_wp2_with fail
  refine (HRm.out).mono ?_
  rintro en w2 ⟨pb, av, rsv, rfl, hpb, hbeg, hrule, ho2⟩
  have hpl := heap_lt hpb
  have n1 : (w2.alloc (.cells #[.pointer (some ⟨pb, 0, none⟩)] 128)).cell? ⟨w2.heap.size, 0, none⟩ = some (.pointer (some ⟨pb, 0, none⟩)) := cell_of (new0 w2 _) rfl
  have n1d : (w2.alloc (.cells #[.pointer (some ⟨pb, 0, none⟩)] 128)).drew.cell? ⟨w2.heap.size, 0, none⟩ = some (.pointer (some ⟨pb, 0, none⟩)) := n1
  have n2 : w2.cell? ⟨pb, 3, none⟩ = some (.int .i64 8) := cell_of hpb rfl
  have n3 : w2.cell? ⟨pb, 4, none⟩ = some (.int .i64 0) := cell_of hpb rfl
  have hz2 : w.heap.size + 1 + 1 + 1 ≤ w2.heap.size := by have := ho2.size; simpa using this
  have hi2 : w2.heap[w.heap.size + 1]? = some (.cells #[.string T] 9 (0, 0)) := (ho2.block _ (by simp <;> omega) (fun e => e)).trans ((Below.heap_alloc _ _ _ (by simp <;> omega)).trans (new_at2 (by simp) _))
  have ho12 : w2.heap[w.heap.size + 1 + 1]? = some (.cells #[.slice none 0 0, .int .i64 0, .nilIface] 76 (0, 0)) := (ho2.block _ (by simp <;> omega) (fun e => e)).trans (new_at2 (by simp) _)
  have HPb := hide hpb
  have HRl := hide hrule
  have HBg := hide hbeg
  have HI2 := hide hi2
  have HO12 := hide ho12
  have HO2 : Hid (Only (fun _ => False) w w2) := (((onlyA w _).alloc _).alloc _).trans ho2 (fun _ _ e => e)
  clear hpb hrule hbeg hi2 ho12 ho2 HRm
  go_upto_region 2 with fail
  go_cut [8] (fun s8 wc => ∃ b8 m ab vb sb, s8 = .pointer (some ⟨b8, 0, none⟩) ∧ wc.heap[b8]? = some (.cells #[.pointer (some ⟨m, 0, none⟩)] 130 (0, 0)) ∧ w2.heap.size + 1 ≤ b8 ∧ b8 ≠ m ∧ b8 ≠ vb ∧ b8 ≠ sb ∧ On8 ⟨w2.alloc (.cells #[.pointer (some ⟨pb, 0, none⟩)] 128), m, ab, vb, sb⟩ st0 wc)
  case first =>
    go_region_held3 (fun W => W.cell? ⟨w2.heap.size, 0, none⟩ = some (.pointer (some ⟨pb, 0, none⟩)) ∧ W.cell? ⟨pb, 3, none⟩ = some (.int .i64 8) ∧ W.cell? ⟨pb, 4, none⟩ = some (.int .i64 0)) (first | (refine ⟨?_, ?_, ?_⟩ <;> (repeat (first | (with_reducible assumption) | (with_reducible refine past ?_ _) | (with_reducible refine pastD ?_ _) | ((with_reducible refine farC ?_ ?_); (rotate_left; (focus (first | (simp; done) | (simp; omega) | omega))))))))
      (first | (go_at_call 60; refine (HNm.out _).mono ?_; rintro en w4 ⟨m, rfl, ab, vb, sb, k1, k2, k3, hM, hV, hS, ho4⟩; have hON : Only (fun _ => False) (w2.alloc (.cells #[.pointer (some ⟨pb, 0, none⟩)] 128)) w4 := Only.trans (by repeat (first | with_reducible exact Only.refl _ _ | with_reducible refine Only.alloc ?_ _ | with_reducible refine toDrew ?_)) ho4 (fun _ _ e => e); have g1 := (hON.cell (p := ⟨w2.heap.size, 0, none⟩) (by simp) (fun e => e)).trans n1; have g2 := (hON.cell (p := ⟨pb, 3, none⟩) (by simp; omega) (fun e => e)).trans (past n2 _); have g3 := (hON.cell (p := ⟨pb, 4, none⟩) (by simp; omega) (fun e => e)).trans (past n3 _); have kk1 : w2.heap.size + 1 ≤ m := (by simp at k1; omega); have kk2 : w2.heap.size + 1 ≤ vb := (by simp at k2; omega); have kk3 : w2.heap.size + 1 ≤ sb := (by simp at k3; omega); (try (refine lay (P := w4.heap[w2.heap.size + 1]? = some (.cells #[.pointer none] 130 (0, 0))) ?_ (fun b0 => ?_); (focus (refine (ho4.block _ ?_ (fun e => e)).trans ?_; (focus (first | (simp; done) | (simp; omega) | omega)); (repeat (first | ((with_reducible refine new_at2D ?_ _); focus (simp; done)) | ((with_reducible refine (heap_allocD _ _ ?_).trans ?_); (focus (first | (simp; done) | (simp; omega) | omega))) | ((with_reducible refine new_at2 ?_ _); focus (simp; done)) | ((with_reducible refine (Below.heap_alloc _ _ _ ?_).trans ?_); (focus (first | (simp; done) | (simp; omega) | omega))))); done)); have b0c : w4.cell? ⟨w2.heap.size + 1, 0, none⟩ = some (.pointer none) := cell_of b0 rfl; have b0f := free_of b0; have b0l := heap_lt b0; have Hb0 := hide b0; clear b0)); have HUn : Hid (On8 ⟨w2.alloc (.cells #[.pointer (some ⟨pb, 0, none⟩)] 128), m, ab, vb, sb⟩ st0 w4) := (by refine hide ⟨by simpa using kk1, by simpa using kk2, by simpa using kk3, ?_, ?_, ?_, ⟨_, hM, World.ownsRow_nil _ _ _ _⟩, hV, ⟨_, hS, World.ownsRow_nil _ _ _ _⟩, hON⟩; (intro (e : m = vb); rw [e] at hM; unfold MAt8 at hM; unfold VAt at hV; rw [hV] at hM; cases hM); (intro (e : m = sb); rw [e] at hM; unfold MAt8 at hM; rw [hS] at hM; cases hM); (intro (e : vb = sb); rw [e] at hV; unfold VAt at hV; rw [hS] at hV; cases hV)); have hml := heap_lt hM; have hvl := heap_lt hV; have hsl := heap_lt hS; clear hM hV hS hON ho4 k1 k2 k3))
    all_goals
      go_wp2_with fail
      go_meet
      first
        | exact ⟨w4.heap.size, m, ab, vb, sb, rfl, new_at2 rfl _, by omega, by omega, by omega, by omega, HUn.out.calm (onlyA w4 _)⟩
        | (have e1 : w2.heap.size + 1 ≠ m := (by
             intro e
             obtain ⟨_, hM, _⟩ := HUn.out.M
             unfold MAt8 at hM
             rw [show w4.heap[m]? = _ from (congrArg (fun q => w4.heap[q]?) e.symm).trans Hb0.out] at hM
             cases hM)
           have e2 : w2.heap.size + 1 ≠ vb := (by
             intro e
             have hV := HUn.out.V
             unfold VAt at hV
             rw [show w4.heap[vb]? = _ from (congrArg (fun q => w4.heap[q]?) e.symm).trans Hb0.out] at hV
             cases hV)
           have e3 : w2.heap.size + 1 ≠ sb := (by
             intro e
             obtain ⟨_, hS, _⟩ := HUn.out.S
             rw [show w4.heap[sb]? = _ from (congrArg (fun q => w4.heap[q]?) e.symm).trans Hb0.out] at hS
             cases hS)
           exact ⟨w2.heap.size + 1, m, ab, vb, sb, rfl, set1 Hb0.out _, by omega, e1, e2, e3, HUn.out.other Hb0.out e1 e2 e3 (by decide) (by decide) (by simp) 0 _⟩)
  case rest =>
    obtain ⟨b8, m, ab, vb, sb, rfl, hb8, k8, nbm, nbv, nbs, hU⟩ := hcut
    have hWz : (w2.alloc (.cells #[.pointer (some ⟨pb, 0, none⟩)] 128)).heap.size = w2.heap.size + 1 := by simp
    have c8 : wc.cell? ⟨b8, 0, none⟩ = some (.pointer (some ⟨m, 0, none⟩)) := cell_of hb8 rfl
    have l8 := heap_lt hb8
    have hOc := hU.O
    have hN0 : wc.heap[w2.heap.size]? = some (.cells #[.pointer (some ⟨pb, 0, none⟩)] 128 (0, 0)) := (hOc.block _ (by simp) (fun e => e)).trans (new0 w2 _)
    have hIn : wc.heap[w.heap.size + 1]? = some (.cells #[.string T] 9 (0, 0)) := (hOc.block _ (by simp; omega) (fun e => e)).trans ((Below.heap_alloc _ _ _ (heap_lt HI2.out)).trans HI2.out)
    have hpN : (w2.alloc (.cells #[.pointer (some ⟨pb, 0, none⟩)] 128)).heap[pb]? = some (.cells #[av, rsv, .slice none 0 0, .int .i64 8, .int .i64 0] 135 (0, 0)) := (Below.heap_alloc _ _ _ hpl).trans HPb.out
    have hP0 : wc.heap[pb]? = some (.cells #[av, rsv, .slice none 0 0, .int .i64 8, .int .i64 0] 135 (0, 0)) := (hOc.block _ (by simp; omega) (fun e => e)).trans hpN
    have hRl : RuleF (BlockK (KMs S) 3) w.heap.size (w2.alloc (.cells #[.pointer (some ⟨pb, 0, none⟩)] 128)) rsv := by
      obtain ⟨cg, x, hown, hx⟩ := HRl.out
      exact ⟨cg, x, hown.alloc _, (kmb_keeps S).down _ _ _ _ ((kmb_keeps S).keep _ _ _ _ hx ((onlyA w2 _).mono (fun _ _ e => e.elim))) (by simp <;> omega)⟩
    have hBg : BegF (BlockK KBs 1) w.heap.size (w2.alloc (.cells #[.pointer (some ⟨pb, 0, none⟩)] 128)) av := begF_down kbb_keeps (begF_keep kbb_keeps HBg.out ((onlyA w2 _).mono (fun _ _ e => e.elim))) (by simp <;> omega)
    have hInN : (w2.alloc (.cells #[.pointer (some ⟨pb, 0, none⟩)] 128)).heap[w.heap.size + 1]? = some (.cells #[.string T] 9 (0, 0)) := (Below.heap_alloc _ _ _ (heap_lt HI2.out)).trans HI2.out
    obtain ⟨fv0, hM0, _⟩ := hU.M
    obtain ⟨tv0, hS0, _⟩ := hU.S
    have lm : m < wc.heap.size := heap_lt hM0
    have lv : vb < wc.heap.size := heap_lt hU.V
    have ls : sb < wc.heap.size := heap_lt hS0
    have hml : w2.heap.size + 1 ≤ m := by have := hU.hm; simpa using this
    have hvl : w2.heap.size + 1 ≤ vb := by have := hU.hv; simpa using this
    have hsl : w2.heap.size + 1 ≤ sb := by have := hU.hs; simpa using this
    have HA1 := hide (attempt_kept ⟨w2.alloc (.cells #[.pointer (some ⟨pb, 0, none⟩)] 128), m, ab, vb, sb⟩ 62 cf91 #[.pointer (some ⟨b8, 0, none⟩), .pointer (some ⟨w2.heap.size, 0, none⟩), .pointer (some ⟨w.heap.size + 1, 0, none⟩)] (fun w' => On8 ⟨w2.alloc (.cells #[.pointer (some ⟨pb, 0, none⟩)] 128), m, ab, vb, sb⟩ s9 w') wc lm lv ls (fun W hW => by
      have hU2 := hU.calm hW
      have hm2 := (hW.block _ l8 (fun e => e)).trans hb8
      exact HRA.out ⟨w2.alloc (.cells #[.pointer (some ⟨pb, 0, none⟩)] 128), m, ab, vb, sb⟩ (HO2.out.alloc _) w.heap.size pb b8 w2.heap.size (w.heap.size + 1) av rsv hpN hBg hRl (new0 w2 _) hInN nbm nbv nbs W hm2 hU2))
    have HB8 := hide hb8
    clear hb8 hU hN0 hIn hP0 HRA HPb HRl hRl HBg hBg hInN hM0 hS0 hOc
    go_wp2_with fail
    refine (HA1.out).mono ?_
    rintro en w5 ⟨rfl, w1, hn1, hk1, hbx, hw5⟩
    have hU5 : On8 ⟨w2.alloc (.cells #[.pointer (some ⟨pb, 0, none⟩)] 128), m, ab, vb, sb⟩ s9 w5 := by
      rw [hw5]
      exact hn1.other hbx (by show wc.heap.size + 1 ≠ m; omega) (by show wc.heap.size + 1 ≠ vb; omega) (by show wc.heap.size + 1 ≠ sb; omega) (by decide) (by decide) (by show (w2.alloc _).heap.size ≤ _; rw [hWz]; omega) 0 _
    have hb85 : w5.heap[b8]? = some (.cells #[.pointer (some ⟨m, 0, none⟩)] 130 (0, 0)) := by
      rw [hw5]
      exact (Below.heap_setCell _ _ _ _ (by show b8 ≠ wc.heap.size + 1; omega)).trans (hk1.2 b8 _ _ nbm nbv nbs (by decide) (by decide) HB8.out)
    clear hw5 hbx hk1 hn1
    have e8 : w5.cell? ⟨b8, 0, none⟩ = some (.pointer (some ⟨m, 0, none⟩)) := cell_of hb85 rfl
    have i8 := heap_lt hb85
    have hN5 : w5.heap[w2.heap.size]? = some (.cells #[.pointer (some ⟨pb, 0, none⟩)] 128 (0, 0)) := (hU5.O.block _ (by simp) (fun e => e)).trans (new0 w2 _)
    have hP5 : w5.heap[pb]? = some (.cells #[av, rsv, .slice none 0 0, .int .i64 8, .int .i64 0] 135 (0, 0)) := (hU5.O.block _ (by simp; omega) (fun e => e)).trans hpN
    have HA2 := hide (attempt_ok m 65 cf94 #[.pointer (some ⟨b8, 0, none⟩), .pointer (some ⟨w2.heap.size, 0, none⟩)] (fun _ => False) (fun _ => True) w5 (fun k e => e.elim) (fun W hW => by
      refine (run2_do b8 w2.heap.size m pb W (cell_of ((hW.block _ i8 (fun e => e)).trans hb85) rfl) (cell_of ((hW.block _ (heap_lt hN5) (fun e => e)).trans hN5) rfl) (cell_of ((hW.block _ (heap_lt hP5) (fun e => e)).trans hP5) rfl)).mono ?_
      rintro en w' ⟨e, rfl⟩
      exact ⟨e, trivial, toDrew (Only.refl _ _)⟩))
    have HU5 := hide hU5
    have HB85 := hide hb85
    clear hU5 hb85 hN5 hP5 HA1 hpN
    go_wp2_with fail
    refine (HA2.out).mono ?_
    rintro en w6 ⟨rfl, _, ho6⟩
    have hU6 := HU5.out.calm ho6
    have hO6 : Only (fun _ => False) (w2.alloc (.cells #[.pointer (some ⟨pb, 0, none⟩)] 128)) w6 := hU6.O
    have hR6 : w6.heap[w.heap.size + 1 + 1]? = some (.cells #[.slice none 0 0, .int .i64 0, .nilIface] 76 (0, 0)) := (hO6.block _ (by simp; omega) (fun e => e)).trans ((Below.heap_alloc _ _ _ (heap_lt HO12.out)).trans HO12.out)
    have r0 : w6.cell? ⟨w.heap.size + 1 + 1, 0, none⟩ = some (.slice none 0 0) := cell_of hR6 rfl
    have r1 : w6.cell? ⟨w.heap.size + 1 + 1, 1, none⟩ = some (.int .i64 0) := cell_of hR6 rfl
    have r2 : w6.cell? ⟨w.heap.size + 1 + 1, 2, none⟩ = some .nilIface := cell_of hR6 rfl
    have rf := free_of hR6
    have rl := heap_lt hR6
    have hb86 := (ho6.block b8 i8 (fun e => e)).trans HB85.out
    have f8 : w6.cell? ⟨b8, 0, none⟩ = some (.pointer (some ⟨m, 0, none⟩)) := cell_of hb86 rfl
    have f8d : w6.drew.cell? ⟨b8, 0, none⟩ = some (.pointer (some ⟨m, 0, none⟩)) := f8
    have j8 := heap_lt hb86
    have hU6d := hU6.calm (toDrew (Only.refl _ w6))
    have HSt : Hid (Calls Tryz.prog 66 #[.pointer (some ⟨m, 0, none⟩)] w6.drew fun en w' => en = .returned (.slice (some ⟨sb, 0, none⟩) 1 1) ∧ w' = w6.drew) := by
      have h := streams_at8 hU6d
      exact hide h
    have HCo : Hid (Calls Tryz.prog 67 #[.pointer (some ⟨m, 0, none⟩)] w6.drew fun en w' => en = .returned (.int .i64 0) ∧ w' = w6.drew) := by
      have h := code_at8 hU6d
      exact hide h
    obtain ⟨tv, hS6, hown6⟩ := hU6.S
    rw [HS'.out] at hown6
    have HS6 := hide hS6
    have HOw6 := hide hown6
    have HR6 := hide hR6
    have nbr : b8 ≠ w.heap.size + 1 + 1 := by omega
    have HO6 : Hid (Only (fun _ => False) w w6) := (HO2.out.alloc _).trans hO6 (fun _ _ e => e)
    clear hO6 hR6 hb86 hU6 hU6d ho6 HA2 hS6 hown6
    go_upto_region 8 with fail
    go_region_held3 (fun W => W.cell? ⟨b8, 0, none⟩ = some (.pointer (some ⟨m, 0, none⟩))) (first | (repeat (first | (with_reducible assumption) | (with_reducible refine past ?_ _) | (with_reducible refine pastD ?_ _) | ((with_reducible refine farC ?_ ?_); (rotate_left; (focus (first | (simp; done) | (simp; omega) | omega)))) | ((with_reducible refine farCD ?_ ?_); (rotate_left; (focus (first | (simp; done) | (simp; omega) | omega)))))))
      (first | (go_at_call 66; refine (HSt.out).mono ?_; rintro en w' ⟨rfl, h3⟩; subst w') | (go_at_call 67; refine (HCo.out).mono ?_; rintro en w' ⟨rfl, h3⟩; subst w'))
    all_goals
      go_wp2
      have hol : Only (fun k => k = w.heap.size + 1 + 1) w6 (((w6.setCell ⟨w.heap.size + 1 + 1, 0, none⟩ (.slice (some ⟨sb, 0, none⟩) 1 1)).setCell ⟨w.heap.size + 1 + 1, 1, none⟩ (.int .i64 0)).setCell ⟨w.heap.size + 1 + 1, 2, none⟩ .nilIface).drew := toDrew ((((Only.refl (fun k => k = w.heap.size + 1 + 1) w6).setCell (p := ⟨w.heap.size + 1 + 1, 0, none⟩) (fun _ => rfl) _).setCell (p := ⟨w.heap.size + 1 + 1, 1, none⟩) (fun _ => rfl) _).setCell (p := ⟨w.heap.size + 1 + 1, 2, none⟩) (fun _ => rfl) _)
      have hne6 := own_tag HOw6.out HR6.out (by decide)
      have hsb : sb ≠ w.heap.size + 1 + 1 := by omega
      refine bodyPost_ret (v := .agg #[.slice (some ⟨sb, 0, none⟩) 1 1, .int .i64 0, .nilIface]) (by simp [results, Tryz.results41, go_sem, r0, r1, r2]) rfl ⟨sb, tv, rfl, (hol.block sb (heap_lt HS6.out) hsb).trans HS6.out, base0 (ownsRow_of HOw6.out (fun k hk => hol.block k (HOw6.out.lt k hk).2 (fun e => hne6 (by rw [hk, e])))), HO6.out.trans hol (fun q h e => by omega)⟩
end Go.Proofs.YtdbdbaepmdmnfaaGreatDoor

