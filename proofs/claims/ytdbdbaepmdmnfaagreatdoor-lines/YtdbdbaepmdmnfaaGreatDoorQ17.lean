import Derived.Test.YtdbdbaepmdmnfaaGreatDoorQ16
namespace Go.Proofs.YtdbdbaepmdmnfaaGreatDoor
open Go.RowKit
set_option maxHeartbeats 1000000 in
theorem caught_idle (a b : Addr) (w : World) :
    CallsD Tryz.prog 97 #[.pointer (some a), .pointer (some b)] .returning w fun e u' w' => e = .returned (.tuple #[]) ∧ u' = .returning ∧ w' = w := by
  refine callsD_of_wpS Tryz.func97 rfl fun c₀ cs hu => ?_
  apply wpS_seq
  apply wpS_region
  simp [wpOpsS, go_sem, recoverD, hu, Tryz.ntmps97, Exit.thenS]
  refine wpS_of_wp ?_
  go_wp2
  cases c₀
  simp_all [bodyPostS, results, Tryz.results97]
set_option maxRecDepth 20000 in
set_option maxHeartbeats 4000000 in
theorem attempt_ok (m F : Nat) (hcf : ∀ (args : Array Value) (w : World), (callFunc F args).run Tryz.prog w = .ok (.enter F args) w) (caps : Array Value) (D : Nat → Prop) (Q : World → Prop) (w : World) (hD : ∀ k, D k → k < w.heap.size)
    (h1 : ∀ W, Only (fun _ => False) w W → Calls Tryz.prog F caps W fun en w' => en = .returned (.tuple #[]) ∧ Q w' ∧ Only D W w') :
    Calls Tryz.prog 61 #[.pointer (some ⟨m, 0, none⟩), .func (.func F) #[] caps] w fun en w' => en = .returned .nilIface ∧ (∃ w1, Q w1 ∧ Only (fun k => k = w.heap.size + 1) w1 w') ∧ Only D w w' := by
  have hmf : ∀ (fn : Fn) (first cap : Array Value) (w : World), (Instr.makeFunc fn first cap).run Tryz.prog w = .ok (.func fn first cap) w := fun _ _ _ _ => rfl
  have H1 := hide (h1 ((w.alloc (.cells #[.pointer (some ⟨m, 0, none⟩)] 130)).alloc (.cells #[.nilIface] 74)) ((onlyA w _).alloc _))
  have HD := hide hD
  clear h1 hD
  go_enter_defers Tryz.func61, Tryz.ntmps61
  go_wp2_with fail
  refine (H1.out).mono ?_
  rintro en w1 ⟨rfl, hQ, ho⟩
  have hb := (ho.block (w.heap.size + 1) (by simp) (fun e => by have := HD.out _ e; omega)).trans (new_at2 (W := w.alloc (.cells #[.pointer (some ⟨m, 0, none⟩)] 130)) (by simp) (.cells #[.nilIface] 74))
  have c0 : w1.cell? ⟨w.heap.size + 1, 0, none⟩ = some .nilIface := cell_of hb rfl
  have cf := free_of hb
  have HQ := hide hQ
  have HO := hide (fromAlloc (fromAlloc ho))
  clear hQ ho hb H1
  go_wp2
  refine leaves_cons (f := 97) (args := #[.pointer (some ⟨w.heap.size, 0, none⟩), .pointer (some ⟨w.heap.size + 1, 0, none⟩)]) (by simp) (by simp [go_sem]) ?_
  refine (caught_idle _ _ _).mono ?_
  rintro e u' w'' ⟨rfl, rfl, rfl⟩
  refine ⟨.nilIface, ?_, rfl, ⟨w1, HQ.out, (Only.refl (fun k => k = w.heap.size + 1) w1).setCell (p := ⟨w.heap.size + 1, 0, none⟩) (fun _ => rfl) _⟩, HO.out.setCell (p := ⟨w.heap.size + 1, 0, none⟩) (fun h => absurd h (by show ¬ w.heap.size + 1 < w.heap.size; omega)) _⟩
  simp [results, Tryz.results61, go_sem, c0]
set_option maxRecDepth 20000 in
set_option maxHeartbeats 1000000 in
theorem doAll_nil (p : Option Addr) (w : World) : Calls Tryz.prog 63 #[.pointer p, .slice none 0 0] w fun en w' => en = .returned (.tuple #[]) ∧ w' = w := by
  go_enter Tryz.func63, Tryz.ntmps63
  go_wp2
  go_loop [8] (fun s => s = .int .i64 0) (fun _ => 0)
  case atStart => exact rfl
  case round =>
    subst hrel
    go_wp2
    go_end0
    exact ⟨rfl, rfl⟩
end Go.Proofs.YtdbdbaepmdmnfaaGreatDoor
namespace Go.Proofs.YtdbdbaepmdmnfaaGreatDoor
open Go.RowKit
theorem MAt.lt {w m ab vb txt flds lst size fuel code} (h : MAt w m ab vb txt flds lst size fuel code) : m < w.heap.size := heap_lt h
theorem MAt.only {w w' m ab vb txt flds lst size fuel code D} (h : MAt w m ab vb txt flds lst size fuel code) (ho : Only D w w') (hd : ¬ D m) : MAt w' m ab vb txt flds lst size fuel code := (ho.block _ (heap_lt h) hd).trans h
theorem MAt.setFuel {w m ab vb txt flds lst size fuel code} (h : MAt w m ab vb txt flds lst size fuel code) (n : Nat) : MAt (w.setCell ⟨m, 7, none⟩ (.int .i64 n)) m ab vb txt flds lst size n code := heap_setCell_same h _
set_option maxRecDepth 20000 in
set_option maxHeartbeats 1000000 in
theorem step_ok (m ab vb : Nat) (txt : ByteArray) (flds lst : Value) (size n code : Nat) (hn : n ≤ 100000) (w : World) (h : MAt w m ab vb txt flds lst size (n + 1) code) :
    Calls Tryz.prog 98 #[.pointer (some ⟨m, 0, none⟩)] w fun en w' => en = .returned (.tuple #[]) ∧ w' = w.setCell ⟨m, 7, none⟩ (.int .i64 n) := by
  have c7 : w.cell? ⟨m, 7, none⟩ = some (.int .i64 ((n : Int) + 1)) := cell_of h rfl
  have cf := free_of h
  have d0 : (((n : Int) + 1) == 0) = false := by simp; omega
  clear h
  go_enter Tryz.func98, Tryz.ntmps98
  go_wp2
  go_end0
  exact ⟨rfl, rfl⟩
set_option maxRecDepth 20000 in
set_option maxHeartbeats 1000000 in
theorem record_text (m ab vb : Nat) (txt : ByteArray) (flds lst : Value) (size n code : Nat) (w : World) (h : MAt w m ab vb txt flds lst size n code) :
    Calls Tryz.prog 282 #[.pointer (some ⟨m, 0, none⟩)] w fun en w' => en = .returned (.string txt) ∧ w' = w := by
  have c2 : w.cell? ⟨m, 2, none⟩ = some (.string txt) := cell_of h rfl
  clear h
  go_enter Tryz.func282, Tryz.ntmps282
  go_wp2
  go_ret
  exact ⟨rfl, rfl⟩
set_option maxRecDepth 20000 in
set_option maxHeartbeats 1000000 in
theorem check_nil (p : Option Addr) (w : World) : Calls Tryz.prog 166 #[.pointer p, .nilIface] w fun en w' => en = .returned (.tuple #[]) ∧ w' = w := by
  go_enter Tryz.func166, Tryz.ntmps166
  go_wp2
  go_end0
  exact ⟨rfl, rfl⟩
set_option maxRecDepth 20000 in
set_option maxHeartbeats 1000000 in
theorem mtext (m ab vb : Nat) (txt : ByteArray) (flds lst : Value) (size n code : Nat) (j : Nat) (k q : Int) (s : ByteArray) (hk : (k == 1) = false) (hj : j < 7) (w : World) (h : MAt w m ab vb txt flds lst size n code) (h0 : w.cell? ⟨vb, j * 3, none⟩ = some (.int .i64 k)) (h1 : w.cell? ⟨vb, j * 3 + 1, none⟩ = some (.int .i64 q)) (h2 : w.cell? ⟨vb, j * 3 + 2, none⟩ = some (.string s)) :
    Calls Tryz.prog 168 #[.pointer (some ⟨m, 0, none⟩), .int .i64 j] w fun en w' => en = .returned (.string s) ∧ Only (fun _ => False) w w' := by
  have c1 : w.cell? ⟨m, 1, none⟩ = some (.slice (some ⟨vb, 0, none⟩) 7 7) := cell_of h rfl
  have HT := hide (text_any k q s w hk)
  have hli : 0 ≤ (j : Int) ∧ (j : Int) < 7 := by omega
  clear h
  go_enter Tryz.func168, Tryz.ntmps168
  go_wp2_with (go_at_call 235; refine (HT.out).mono ?_; rintro en w2 ⟨rfl, hb⟩; have HB := hide hb; clear hb)
  go_ret
  exact ⟨rfl, Only.ofBelow HB.out (fun _ => False)⟩
set_option maxRecDepth 20000 in
set_option maxHeartbeats 1000000 in
theorem named_main (m o sb : Nat) (w : World) (h0 : w.cell? ⟨m, o, none⟩ = some (.slice (some ⟨sb, 0, none⟩) 1 1)) (h1 : w.cell? ⟨sb, 0, none⟩ = some (.string ⟨#[]⟩)) :
    Calls Tryz.prog 434 #[.pointer (some ⟨m, o, none⟩), .string ⟨#[]⟩] w fun en w' => en = .returned (.pointer (some ⟨sb, 0, none⟩)) ∧ w' = w := by
  go_enter Tryz.func434, Tryz.ntmps434
  go_wp2
  go_loop [11] (fun s => s = .int .i64 0) (fun _ => 0)
  case atStart => exact rfl
  case round =>
    subst hrel
    go_wp2
    go_ret
    exact ⟨rfl, rfl⟩
end Go.Proofs.YtdbdbaepmdmnfaaGreatDoor
namespace Go.Proofs.YtdbdbaepmdmnfaaGreatDoor
open Go.RowKit
theorem MAt.setSize {w m ab vb txt flds lst size fuel code} (h : MAt w m ab vb txt flds lst size fuel code) (n : Nat) : MAt (w.setCell ⟨m, 6, none⟩ (.int .i64 n)) m ab vb txt flds lst n fuel code := heap_setCell_same h _
end Go.Proofs.YtdbdbaepmdmnfaaGreatDoor
namespace Go.Proofs.YtdbdbaepmdmnfaaGreatDoor
open Go.RowKit
set_option maxRecDepth 100000 in
theorem mk25 (w : World) : (Instr.makeSlice 23 (.int .i64 0) (.int .i64 0)).run Tryz.prog w = .ok (.slice (some ⟨w.heap.size, 0, none⟩) 0 0) (w.alloc (.cells #[] 9)) := by kernel_rfl
set_option maxRecDepth 20000 in
set_option maxHeartbeats 1000000 in
theorem textsOf_none (p po : Option Addr) (cap : Nat) (w : World) : Calls Tryz.prog 281 #[.pointer p, .slice po 0 cap] w fun en w' => en = .returned (.slice (some ⟨w.heap.size, 0, none⟩) 0 0) ∧ w' = w.alloc (.cells #[] 9) := by
  have hm := mk25
  go_enter Tryz.func281, Tryz.ntmps281
  go_wp2
  go_loop [13] (fun s => s = .int .i64 0) (fun _ => 0)
  case atStart => exact rfl
  case round =>
    subst hrel
    go_wp2
    go_ret
    exact ⟨rfl, rfl⟩
set_option maxRecDepth 20000 in
set_option maxHeartbeats 1000000 in
theorem const_do (p : Option Addr) (c : Nat) (k n : Int) (s : ByteArray) (w : World) (h0 : w.cell? ⟨c, 0, none⟩ = some (.int .i64 k)) (h1 : w.cell? ⟨c, 1, none⟩ = some (.int .i64 n)) (h2 : w.cell? ⟨c, 2, none⟩ = some (.string s)) :
    Calls Tryz.prog 298 #[.pointer p, .pointer (some ⟨c, 0, none⟩)] w fun en w' => en = .returned (.agg #[.int .i64 k, .int .i64 n, .string s]) ∧ w' = w.alloc (.cells #[.int .i64 k, .int .i64 n, .string s] 203) := by
  have hc : c < w.heap.size := by
    have h := h0
    unfold World.cell? at h
    rcases Nat.lt_or_ge c w.heap.size with h' | h'
    · exact h'
    · simp [Array.getElem?_eq_none h'] at h
  go_enter Tryz.func298, Tryz.ntmps298
  go_wp2
  exact bodyPost_ret (v := .agg #[.int .i64 k, .int .i64 n, .string s]) (by simp [results, Tryz.results298, go_sem]) rfl ⟨rfl, rfl⟩
theorem cf480 (args : Array Value) (w : World) : (callFunc 298 args).run Tryz.prog w = .ok (.enter 298 args) w := callFunc_in Tryz.func298 (by kernel_rfl) rfl args w
end Go.Proofs.YtdbdbaepmdmnfaaGreatDoor
namespace Go.Proofs.YtdbdbaepmdmnfaaGreatDoor
open Go.RowKit
set_option maxRecDepth 20000 in
set_option maxHeartbeats 2000000 in
theorem stmt_do (m ab vb sc F : Nat) (hcf : ∀ (args : Array Value) (w : World), (callFunc F args).run Tryz.prog w = .ok (.enter F args) w) (caps : List Value) (txt : ByteArray) (flds lst : Value) (size n code : Nat) (hn : n ≤ 100000) (Q : World → Prop) (w : World) (h : MAt w m ab vb txt flds lst size (n + 1) code) (hsc : sc ≠ m) (hs : w.cell? ⟨sc, 0, none⟩ = some (.func (.func F) #[] caps.toArray))
    (H : Calls Tryz.prog F (.pointer (some ⟨m, 0, none⟩) :: caps).toArray (w.setCell ⟨m, 7, none⟩ (.int .i64 n)) fun en w' => en = .returned (.int .i64 0) ∧ Q w') :
    Calls Tryz.prog 162 #[.pointer (some ⟨m, 0, none⟩), .pointer (some ⟨sc, 0, none⟩)] w fun en w' => en = .returned (.int .i64 0) ∧ Q w' := by
  have HS := hide (step_ok m ab vb txt flds lst size n code hn w h)
  have H1 := hide H
  have hs2 : (w.setCell ⟨m, 7, none⟩ (.int .i64 n)).cell? ⟨sc, 0, none⟩ = some (.func (.func F) #[] caps.toArray) := (World.cell?_of_block (Below.heap_setCell _ _ _ _ hsc)).trans hs
  clear h H
  go_enter Tryz.func162, Tryz.ntmps162
  go_wp2_with (go_at_call 98; refine (HS.out).mono ?_; rintro en w2 ⟨rfl, hw2⟩; subst hw2)
  refine (H1.out).mono ?_
  rintro en w3 ⟨rfl, h3⟩
  have H3 := hide h3
  clear h3 H1
  go_wp2
  go_ret
  exact ⟨rfl, H3.out⟩
set_option maxRecDepth 20000 in
set_option maxHeartbeats 4000000 in
theorem block_do (m lc g cap n : Nat) (hn100 : n ≤ 100) (Ff : Nat → Nat) (hcf : ∀ i, i < n → ∀ (args : Array Value) (w : World), (callFunc (Ff i) args).run Tryz.prog w = .ok (.enter (Ff i) args) w) (Cf : Nat → List Value) (J : Nat → World → Prop) (w : World) (hl : w.cell? ⟨lc, 0, none⟩ = some (.slice (some ⟨g, 0, none⟩) n cap)) (h0 : J 0 w)
    (hc : ∀ i W, J i W → g < W.heap.size ∧ ∀ j, j < n → W.cell? ⟨g, j, none⟩ = some (.func (.func (Ff j)) #[] (Cf j).toArray))
    (H : ∀ i W, i < n → J i W → Calls Tryz.prog (Ff i) (.pointer (some ⟨m, 0, none⟩) :: Cf i).toArray (W.alloc (.cells #[.func (.func (Ff i)) #[] (Cf i).toArray] 185)) fun en w' => en = .returned (.int .i64 0) ∧ J (i + 1) w') :
    Calls Tryz.prog 127 #[.pointer (some ⟨m, 0, none⟩), .pointer (some ⟨lc, 0, none⟩)] w fun en w' => en = .returned (.int .i64 0) ∧ J n w' := by
  have hsf : ∀ (a : Addr) (fn : Fn) (x y : Array Value) (W : World), (store a (.func fn x y)).run Tryz.prog W = stored Tryz.prog W a (.func fn x y) .plain := fun a fn x y W => run_store _ W a _ _ rfl
  have H1 := hide H
  have HC := hide hc
  have HF := hide hcf
  have H0 := hide h0
  clear H hc hcf h0
  go_enter Tryz.func127, Tryz.ntmps127
  go_wp2
  go_loopg [9] n (fun gh s wr => ∃ k : Nat, k ≤ n ∧ gh = n - k ∧ s = .int .i64 k ∧ J k wr)
  case atStart => exact ⟨0, by omega, rfl, rfl, H0.out⟩
  case round =>
    obtain ⟨k, hk, hgh, rfl, hj⟩ := hrel
    have HJk := hide hj
    have HG := hide hgh
    by_cases hlt : k < n
    · have hli : (k : Int) < (n : Int) := by omega
      obtain ⟨hg, hcs⟩ := HC.out k wr hj
      have c0 := hcs k hlt
      have hcf := HF.out k hlt
      have HSk := hide (H1.out k wr hlt hj)
      clear hcs hj hgh
      go_wp2_with fail
      refine (HSk.out).mono ?_
      rintro en w2 ⟨rfl, h3⟩
      have H3 := hide h3
      clear h3 HSk
      go_wp2
      go_roundg (n - (k + 1))
      case measure => rw [HG.out]; omega
      case rel => exact ⟨k + 1, by omega, rfl, by go_num, H3.out⟩
    · obtain rfl : k = n := by omega
      have hli : ¬ (k : Int) < (k : Int) := by omega
      clear hj hgh
      go_wp2
      go_ret
      exact ⟨rfl, HJk.out⟩
end Go.Proofs.YtdbdbaepmdmnfaaGreatDoor
namespace Go.Proofs.YtdbdbaepmdmnfaaGreatDoor
open Go.RowKit
set_option maxRecDepth 20000 in
set_option maxHeartbeats 2000000 in
theorem applies_none (g : Nat) (po p : Option Addr) (cap : Nat) (w : World) (h : w.cell? ⟨g, 0, none⟩ = some (.slice po 0 cap)) :
    Calls Tryz.prog 133 #[.pointer (some ⟨g, 0, none⟩), .pointer p] w fun en w' => en = .returned (.bool true) ∧ w' = w := by
  go_enter Tryz.func133, Tryz.ntmps133
  go_wp2
  go_ret
  exact ⟨rfl, rfl⟩
set_option maxRecDepth 20000 in
set_option maxHeartbeats 4000000 in
theorem doRules_one (p m g cr F : Nat) (po : Option Addr) (cap : Nat) (hcf : ∀ (args : Array Value) (w : World), (callFunc F args).run Tryz.prog w = .ok (.enter F args) w) (caps : List Value) (Q : World → Prop) (w : World)
    (hp : w.cell? ⟨p, 1, none⟩ = some (.slice (some ⟨g, 0, none⟩) 1 cr)) (h0 : w.cell? ⟨g, 0, none⟩ = some (.slice po 0 cap)) (h2 : w.cell? ⟨g, 2, none⟩ = some (.func (.func F) #[] caps.toArray))
    (H : Calls Tryz.prog F (.pointer (some ⟨m, 0, none⟩) :: caps).toArray w fun en w' => en = .returned (.int .i64 0) ∧ Q w') :
    Calls Tryz.prog 101 #[.pointer (some ⟨p, 0, none⟩), .pointer (some ⟨m, 0, none⟩)] w fun en w' => en = .returned (.tuple #[]) ∧ Q w' := by
  have HA := hide (applies_none g po (some ⟨m, 0, none⟩) cap w h0)
  have H1 := hide H
  clear H
  go_enter Tryz.func101, Tryz.ntmps101
  go_wp2
  go_loopg [11] 1 (fun gh s wr => (gh = 1 ∧ s = .int .i64 0 ∧ wr = w) ∨ (gh = 0 ∧ s = .int .i64 1 ∧ Q wr))
  case atStart => exact Or.inl ⟨rfl, rfl, rfl⟩
  case round =>
    rcases hrel with ⟨hgh, rfl, hw⟩ | ⟨hgh, rfl, hq⟩
    · subst wr
      go_wp2_with (go_at_call 133; refine (HA.out).mono ?_; rintro en w' ⟨rfl, h3⟩; subst w')
      refine (H1.out).mono ?_
      rintro en w2 ⟨rfl, h3⟩
      have H3 := hide h3
      clear h3 H1 HA
      go_wp2
      go_roundg 0
      case measure => omega
      case rel => exact Or.inr ⟨rfl, rfl, H3.out⟩
    · go_wp2
      go_end0
      exact ⟨rfl, hq⟩
end Go.Proofs.YtdbdbaepmdmnfaaGreatDoor
