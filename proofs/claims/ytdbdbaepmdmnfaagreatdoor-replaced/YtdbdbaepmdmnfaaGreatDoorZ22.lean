import Derived.Test.YtdbdbaepmdmnfaaGreatDoorZ21
namespace Go.Proofs.YtdbdbaepmdmnfaaGreatDoor
open Go.RowKit
set_option maxHeartbeats 1000000 in
theorem caught_idle (a b : Addr) (w : World) :
    CallsD Tryz.prog 97 #[.pointer (some a), .pointer (some b)] .returning w fun e u' w' => e = .returned (.tuple #[]) ∧ u' = .returning ∧ w' = w := by
  refine callsD_of_wpS Tryz.func97 rfl fun c₀ cs hu => ?_
  apply wpS_seq
  apply wpS_region
  simp [wpOpsS, go_sem, recoverD, hu, Tryz.ntmps97, Exit.thenS]
  refine wpS_of_wp ?_
  go_wp2
  cases c₀
  simp_all [bodyPostS, results, Tryz.results97]
set_option maxRecDepth 20000 in
set_option maxHeartbeats 4000000 in
theorem attempt_ok (m F : Nat) (hcf : ∀ (args : Array Value) (w : World), (callFunc F args).run Tryz.prog w = .ok (.enter F args) w) (caps : Array Value) (D : Nat → Prop) (Q : World → Prop) (w : World) (hD : ∀ k, D k → k < w.heap.size)
    (h1 : ∀ W, Only (fun _ => False) w W → Calls Tryz.prog F caps W fun en w' => en = .returned (.tuple #[]) ∧ Q w' ∧ Only D W w') :
    Calls Tryz.prog 61 #[.pointer (some ⟨m, 0, none⟩), .func (.func F) #[] caps] w fun en w' => en = .returned .nilIface ∧ (∃ w1, Q w1 ∧ Only (fun k => k = w.heap.size + 1) w1 w') ∧ Only D w w' := by
  have hmf : ∀ (fn : Fn) (first cap : Array Value) (w : World), (Instr.makeFunc fn first cap).run Tryz.prog w = .ok (.func fn first cap) w := fun _ _ _ _ => rfl
  have H1 := hide (h1 ((w.alloc (.cells #[.pointer (some ⟨m, 0, none⟩)] 130)).alloc (.cells #[.nilIface] 74)) ((onlyA w _).alloc _))
  have HD := hide hD
  clear h1 hD
  go_enter_defers Tryz.func61, Tryz.ntmps61
  go_wp2_with fail
  refine (H1.out).mono ?_
  rintro en w1 ⟨rfl, hQ, ho⟩
  have hb := (ho.block (w.heap.size + 1) (by simp) (fun e => by have := HD.out _ e; omega)).trans (new_at2 (W := w.alloc (.cells #[.pointer (some ⟨m, 0, none⟩)] 130)) (by simp) (.cells #[.nilIface] 74))
  have c0 : w1.cell? ⟨w.heap.size + 1, 0, none⟩ = some .nilIface := cell_of hb rfl
  have cf := free_of hb
  have HQ := hide hQ
  have HO := hide (fromAlloc (fromAlloc ho))
  clear hQ ho hb H1
  go_wp2
  refine leaves_cons (f := 97) (args := #[.pointer (some ⟨w.heap.size, 0, none⟩), .pointer (some ⟨w.heap.size + 1, 0, none⟩)]) (by simp) (by simp [go_sem]) ?_
  refine (caught_idle _ _ _).mono ?_
  rintro e u' w'' ⟨rfl, rfl, rfl⟩
  refine ⟨.nilIface, ?_, rfl, ⟨w1, HQ.out, (Only.refl (fun k => k = w.heap.size + 1) w1).setCell (p := ⟨w.heap.size + 1, 0, none⟩) (fun _ => rfl) _⟩, HO.out.setCell (p := ⟨w.heap.size + 1, 0, none⟩) (fun h => absurd h (by show ¬ w.heap.size + 1 < w.heap.size; omega)) _⟩
  simp [results, Tryz.results61, go_sem, c0]
set_option maxRecDepth 20000 in
set_option maxHeartbeats 1000000 in
theorem doAll_nil (p : Option Addr) (w : World) : Calls Tryz.prog 63 #[.pointer p, .slice none 0 0] w fun en w' => en = .returned (.tuple #[]) ∧ w' = w := by
  go_enter Tryz.func63, Tryz.ntmps63
  go_wp2
  go_loop [8] (fun s => s = .int .i64 0) (fun _ => 0)
  case atStart => exact rfl
  case round =>
    subst hrel
    go_wp2
    go_end0
    exact ⟨rfl, rfl⟩
end Go.Proofs.YtdbdbaepmdmnfaaGreatDoor

namespace Go.Proofs.YtdbdbaepmdmnfaaGreatDoor
open Go.RowKit
theorem MAt.lt {w m ab vb txt flds lst size fuel code} (h : MAt w m ab vb txt flds lst size fuel code) : m < w.heap.size := heap_lt h
theorem MAt.only {w w' m ab vb txt flds lst size fuel code D} (h : MAt w m ab vb txt flds lst size fuel code) (ho : Only D w w') (hd : ¬ D m) : MAt w' m ab vb txt flds lst size fuel code := (ho.block _ (heap_lt h) hd).trans h
theorem MAt.setFuel {w m ab vb txt flds lst size fuel code} (h : MAt w m ab vb txt flds lst size fuel code) (n : Nat) : MAt (w.setCell ⟨m, 7, none⟩ (.int .i64 n)) m ab vb txt flds lst size n code := heap_setCell_same h _
set_option maxRecDepth 20000 in
set_option maxHeartbeats 1000000 in
theorem check_nil (p : Option Addr) (w : World) : Calls Tryz.prog 166 #[.pointer p, .nilIface] w fun en w' => en = .returned (.tuple #[]) ∧ w' = w := by
  go_enter Tryz.func166, Tryz.ntmps166
  go_wp2
  go_end0
  exact ⟨rfl, rfl⟩
set_option maxRecDepth 20000 in
set_option maxHeartbeats 1000000 in
theorem named_main (m o sb : Nat) (w : World) (h0 : w.cell? ⟨m, o, none⟩ = some (.slice (some ⟨sb, 0, none⟩) 1 1)) (h1 : w.cell? ⟨sb, 0, none⟩ = some (.string ⟨#[]⟩)) :
    Calls Tryz.prog 434 #[.pointer (some ⟨m, o, none⟩), .string ⟨#[]⟩] w fun en w' => en = .returned (.pointer (some ⟨sb, 0, none⟩)) ∧ w' = w := by
  go_enter Tryz.func434, Tryz.ntmps434
  go_wp2
  go_loop [11] (fun s => s = .int .i64 0) (fun _ => 0)
  case atStart => exact rfl
  case round =>
    subst hrel
    go_wp2
    go_ret
    exact ⟨rfl, rfl⟩
end Go.Proofs.YtdbdbaepmdmnfaaGreatDoor

namespace Go.Proofs.YtdbdbaepmdmnfaaGreatDoor
open Go.RowKit
theorem MAt.setSize {w m ab vb txt flds lst size fuel code} (h : MAt w m ab vb txt flds lst size fuel code) (n : Nat) : MAt (w.setCell ⟨m, 6, none⟩ (.int .i64 n)) m ab vb txt flds lst n fuel code := heap_setCell_same h _
end Go.Proofs.YtdbdbaepmdmnfaaGreatDoor

namespace Go.Proofs.YtdbdbaepmdmnfaaGreatDoor
open Go.RowKit
set_option maxRecDepth 100000 in
theorem mk25 (w : World) : (Instr.makeSlice 23 (.int .i64 0) (.int .i64 0)).run Tryz.prog w = .ok (.slice (some ⟨w.heap.size, 0, none⟩) 0 0) (w.alloc (.cells #[] 9)) := by kernel_rfl
set_option maxRecDepth 20000 in
set_option maxHeartbeats 1000000 in
theorem textsOf_none (p po : Option Addr) (cap : Nat) (w : World) : Calls Tryz.prog 281 #[.pointer p, .slice po 0 cap] w fun en w' => en = .returned (.slice (some ⟨w.heap.size, 0, none⟩) 0 0) ∧ w' = w.alloc (.cells #[] 9) := by
  have hm := mk25
  go_enter Tryz.func281, Tryz.ntmps281
  go_wp2
  go_loop [13] (fun s => s = .int .i64 0) (fun _ => 0)
  case atStart => exact rfl
  case round =>
    subst hrel
    go_wp2
    go_ret
    exact ⟨rfl, rfl⟩
set_option maxRecDepth 20000 in
set_option maxHeartbeats 1000000 in
theorem const_do (p : Option Addr) (c : Nat) (k n : Int) (s : ByteArray) (w : World) (h0 : w.cell? ⟨c, 0, none⟩ = some (.int .i64 k)) (h1 : w.cell? ⟨c, 1, none⟩ = some (.int .i64 n)) (h2 : w.cell? ⟨c, 2, none⟩ = some (.string s)) :
    Calls Tryz.prog 298 #[.pointer p, .pointer (some ⟨c, 0, none⟩)] w fun en w' => en = .returned (.agg #[.int .i64 k, .int .i64 n, .string s]) ∧ w' = w.alloc (.cells #[.int .i64 k, .int .i64 n, .string s] 203) := by
  have hc : c < w.heap.size := by
    have h := h0
    unfold World.cell? at h
    rcases Nat.lt_or_ge c w.heap.size with h' | h'
    · exact h'
    · simp [Array.getElem?_eq_none h'] at h
  go_enter Tryz.func298, Tryz.ntmps298
  go_wp2
  exact bodyPost_ret (v := .agg #[.int .i64 k, .int .i64 n, .string s]) (by simp [results, Tryz.results298, go_sem]) rfl ⟨rfl, rfl⟩
theorem cf480 (args : Array Value) (w : World) : (callFunc 298 args).run Tryz.prog w = .ok (.enter 298 args) w := callFunc_in Tryz.func298 (by kernel_rfl) rfl args w
end Go.Proofs.YtdbdbaepmdmnfaaGreatDoor

namespace Go.Proofs.YtdbdbaepmdmnfaaGreatDoor
open Go.RowKit
set_option maxRecDepth 20000 in
set_option maxHeartbeats 4000000 in
theorem block_do (m lc g cap n : Nat) (hn100 : n ≤ 100) (Ff : Nat → Nat) (hcf : ∀ i, i < n → ∀ (args : Array Value) (w : World), (callFunc (Ff i) args).run Tryz.prog w = .ok (.enter (Ff i) args) w) (Cf : Nat → List Value) (J : Nat → World → Prop) (w : World) (hl : w.cell? ⟨lc, 0, none⟩ = some (.slice (some ⟨g, 0, none⟩) n cap)) (h0 : J 0 w)
    (hc : ∀ i W, J i W → g < W.heap.size ∧ ∀ j, j < n → W.cell? ⟨g, j, none⟩ = some (.func (.func (Ff j)) #[] (Cf j).toArray))
    (H : ∀ i W, i < n → J i W → Calls Tryz.prog (Ff i) (.pointer (some ⟨m, 0, none⟩) :: Cf i).toArray (W.alloc (.cells #[.func (.func (Ff i)) #[] (Cf i).toArray] 185)) fun en w' => en = .returned (.int .i64 0) ∧ J (i + 1) w') :
    Calls Tryz.prog 127 #[.pointer (some ⟨m, 0, none⟩), .pointer (some ⟨lc, 0, none⟩)] w fun en w' => en = .returned (.int .i64 0) ∧ J n w' := by
  have hsf : ∀ (a : Addr) (fn : Fn) (x y : Array Value) (W : World), (store a (.func fn x y)).run Tryz.prog W = stored Tryz.prog W a (.func fn x y) .plain := fun a fn x y W => run_store _ W a _ _ rfl
  have H1 := hide H
  have HC := hide hc
  have HF := hide hcf
  have H0 := hide h0
  clear H hc hcf h0
  go_enter Tryz.func127, Tryz.ntmps127
  go_wp2
  go_loopg [9] n (fun gh s wr => ∃ k : Nat, k ≤ n ∧ gh = n - k ∧ s = .int .i64 k ∧ J k wr)
  case atStart => exact ⟨0, by omega, rfl, rfl, H0.out⟩
  case round =>
    obtain ⟨k, hk, hgh, rfl, hj⟩ := hrel
    have HJk := hide hj
    have HG := hide hgh
    by_cases hlt : k < n
    · have hli : (k : Int) < (n : Int) := by omega
      obtain ⟨hg, hcs⟩ := HC.out k wr hj
      have c0 := hcs k hlt
      have hcf := HF.out k hlt
      have HSk := hide (H1.out k wr hlt hj)
      clear hcs hj hgh
      go_wp2_with fail
      refine (HSk.out).mono ?_
      rintro en w2 ⟨rfl, h3⟩
      have H3 := hide h3
      clear h3 HSk
      go_wp2
      go_roundg (n - (k + 1))
      case measure => rw [HG.out]; omega
      case rel => exact ⟨k + 1, by omega, rfl, by go_num, H3.out⟩
    · obtain rfl : k = n := by omega
      have hli : ¬ (k : Int) < (k : Int) := by omega
      clear hj hgh
      go_wp2
      go_ret
      exact ⟨rfl, HJk.out⟩
end Go.Proofs.YtdbdbaepmdmnfaaGreatDoor

