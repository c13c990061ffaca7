import Derived.Test.YtdbdbaepmdmnfaaGreatDoorQ12
namespace Go.Proofs.YtdbdbaepmdmnfaaGreatDoor
open Go.RowKit
theorem tenil_188 (w : World) : (Instr.typeAssert .nilIface 238 92 true).run Tryz.prog w = .ok (.tuple #[.agg #[.string ⟨#[]⟩, .int .i64 0], .bool false]) w := by kernel_rfl
theorem tenil_439 (w : World) : (Instr.typeAssert .nilIface 238 306 true).run Tryz.prog w = .ok (.tuple #[.agg #[.string ⟨#[]⟩, .int .i64 0, .slice none 0 0], .bool false]) w := by kernel_rfl
theorem tenil_442 (w : World) : (Instr.typeAssert .nilIface 238 309 true).run Tryz.prog w = .ok (.tuple #[.agg #[.nilIface], .bool false]) w := by kernel_rfl
theorem tenil_444 (w : World) : (Instr.typeAssert .nilIface 238 311 true).run Tryz.prog w = .ok (.tuple #[.agg #[.string ⟨#[]⟩, .int .i64 0, .slice none 0 0], .bool false]) w := by kernel_rfl
theorem tenil_445 (w : World) : (Instr.typeAssert .nilIface 238 312 true).run Tryz.prog w = .ok (.tuple #[.agg #[.string ⟨#[]⟩, .int .i64 0, .slice none 0 0], .bool false]) w := by kernel_rfl
theorem tenil_447 (w : World) : (Instr.typeAssert .nilIface 238 314 true).run Tryz.prog w = .ok (.tuple #[.agg #[.string ⟨#[]⟩, .nilIface], .bool false]) w := by kernel_rfl
theorem tenil_449 (w : World) : (Instr.typeAssert .nilIface 238 316 true).run Tryz.prog w = .ok (.tuple #[.agg #[.nilIface, .string ⟨#[]⟩, .nilIface], .bool false]) w := by kernel_rfl
theorem tenil_452 (w : World) : (Instr.typeAssert .nilIface 238 319 true).run Tryz.prog w = .ok (.tuple #[.agg #[.nilIface, .nilIface], .bool false]) w := by kernel_rfl
theorem tenil_454 (w : World) : (Instr.typeAssert .nilIface 238 321 true).run Tryz.prog w = .ok (.tuple #[.agg #[.nilIface, .string ⟨#[]⟩, .int .i64 0], .bool false]) w := by kernel_rfl
theorem tenil_456 (w : World) : (Instr.typeAssert .nilIface 238 323 true).run Tryz.prog w = .ok (.tuple #[.agg #[.nilIface, .nilIface, .nilIface], .bool false]) w := by kernel_rfl
theorem tenil_459 (w : World) : (Instr.typeAssert .nilIface 238 326 true).run Tryz.prog w = .ok (.tuple #[.agg #[.nilIface, .string ⟨#[]⟩, .nilIface], .bool false]) w := by kernel_rfl
theorem te188_188 (v : Value) (w : World) : (Instr.typeAssert (.iface 92 v) 238 92 true).run Tryz.prog w = .ok (.tuple #[v, .bool true]) w := by kernel_rfl
theorem ts419_191 (v : Value) (w : World) : (Instr.typeAssert (.iface 285 v) 235 95 true).run Tryz.prog w = .ok (.tuple #[.slice none 0 0, .bool false]) w := by kernel_rfl
theorem ts419_424 (v : Value) (w : World) : (Instr.typeAssert (.iface 285 v) 235 290 true).run Tryz.prog w = .ok (.tuple #[.agg #[.nilIface, .slice none 0 0, .bool false, .slice none 0 0], .bool false]) w := by kernel_rfl
theorem ts419_427 (v : Value) (w : World) : (Instr.typeAssert (.iface 285 v) 235 293 true).run Tryz.prog w = .ok (.tuple #[.agg #[.nilIface, .slice none 0 0], .bool false]) w := by kernel_rfl
theorem ts419_429 (v : Value) (w : World) : (Instr.typeAssert (.iface 285 v) 235 295 true).run Tryz.prog w = .ok (.tuple #[.agg #[.nilIface, .nilIface, .nilIface, .slice none 0 0], .bool false]) w := by kernel_rfl
theorem ts419_432 (v : Value) (w : World) : (Instr.typeAssert (.iface 285 v) 235 298 true).run Tryz.prog w = .ok (.tuple #[.agg #[.string ⟨#[]⟩, .int .i64 0, .string ⟨#[]⟩, .int .i64 0, .slice none 0 0], .bool false]) w := by kernel_rfl
theorem ts419_507 (v : Value) (w : World) : (Instr.typeAssert (.iface 285 v) 235 350 true).run Tryz.prog w = .ok (.tuple #[.agg #[.nilIface], .bool false]) w := by kernel_rfl
theorem ts419_419 (v : Value) (w : World) : (Instr.typeAssert (.iface 285 v) 235 285 true).run Tryz.prog w = .ok (.tuple #[v, .bool true]) w := by kernel_rfl
set_option maxRecDepth 20000 in
set_option maxHeartbeats 4000000 in
theorem uexpr_nil (p : Option Addr) (w : World) : Calls Tryz.prog 145 #[.pointer p, .nilIface] w fun en w' => en = .returned (.tuple #[]) ∧ w' = w := by
  have q0 := tenil_188
  have q1 := tenil_439
  have q2 := tenil_442
  have q3 := tenil_444
  have q4 := tenil_445
  have q5 := tenil_447
  have q6 := tenil_449
  have q7 := tenil_452
  have q8 := tenil_454
  have q9 := tenil_456
  have q10 := tenil_459
  go_enter Tryz.func145, Tryz.ntmps145
  go_wp2
  go_end0
  exact ⟨rfl, rfl⟩
set_option maxRecDepth 20000 in
set_option maxHeartbeats 4000000 in
theorem uexpr_name (cb M : Nat) (rec : Bool) (x : ByteArray) (a : Nat) (w : World) (h : UAt w cb M (.slice none 0 0) rec) :
    Calls Tryz.prog 145 #[.pointer (some ⟨cb, 0, none⟩), nameV x a] w fun en w' => en = .returned (.tuple #[]) ∧ ∃ v, UsT x a w' v ∧ UAt w' cb M v rec ∧ Only (fun k => k = cb) w w' := by
  have q0 := te188_188 (.agg #[.string x, .int .i64 a])
  have HN := hide (uname_first cb M rec x a _ (h.alloc (.cells #[.string x, .int .i64 a] 92)))
  clear h
  unfold nameV
  go_enter Tryz.func145, Tryz.ntmps145
  go_wp2_with (go_at_call 186; refine (HN.out).mono ?_; rintro en w2 ⟨rfl, v, h1, h2, h3⟩; have H1 := hide h1; have H2 := hide h2; have H3 := hide h3; clear h1 h2 h3)
  go_end0
  exact ⟨rfl, v, H1.out, H2.out, fromAlloc H3.out⟩
end Go.Proofs.YtdbdbaepmdmnfaaGreatDoor
namespace Go.Proofs.YtdbdbaepmdmnfaaGreatDoor
open Go.RowKit
theorem own_at {w : World} {B : Nat} {e : TypeId} {z : Nat} {v : Value} {n : Nat} {xs : List Value} (h : w.ownsRow B e z v n xs) (hn : 0 < n) : ∃ g cap, v = .slice (some ⟨g, 0, none⟩) n cap ∧ g < w.heap.size ∧ ∀ (j : Nat) u, xs[j]? = some u → w.cell? ⟨g, j, none⟩ = some u := by
  rcases h.2 with ⟨_, h0⟩ | ⟨g, cap, cur, rfl, _, h3, _, _, _, h7⟩
  · omega
  · refine ⟨g, cap, rfl, heap_lt h3, fun j u hu => cell_of h3 ?_⟩
    rw [← h7, List.getElem?_take] at hu
    split at hu
    · simpa using hu
    · cases hu
end Go.Proofs.YtdbdbaepmdmnfaaGreatDoor
namespace Go.Proofs.YtdbdbaepmdmnfaaGreatDoor
open Go.RowKit
/-- The uses: none, or one. -/
def UsX (o : Option (ByteArray × Nat)) (w : World) (v : Value) : Prop := match o with
  | none => v = .slice none 0 0
  | some (x, a) => UsT x a w v
def UX (w : World) (cb M : Nat) (o : Option (ByteArray × Nat)) (rec : Bool) : Prop := ∃ v, UAt w cb M v rec ∧ UsX o w v
theorem UsX.of {o w w' v} (h : UsX o w v) (hk : ∀ k, v.ownBlock = some k → w'.heap[k]? = w.heap[k]?) : UsX o w' v := by
  match o, h with
  | none, h => exact h
  | some (x, a), h => exact ownsRow_of h hk
theorem UsX.lt {o w v} (h : UsX o w v) : ∀ k, v.ownBlock = some k → k < w.heap.size ∧ ∀ c t, w.heap[k]? = some (.cells c t (0, 0)) → t = 227 := by
  match o, h with
  | none, h => intro k hk; cases h; cases hk
  | some (x, a), h =>
    intro k hk
    refine ⟨(World.ownsRow.lt h k hk).2, fun c t hc => ?_⟩
    by_cases e : t = 227
    · exact e
    · exact absurd hk (own_tag h hc (fun e2 => e e2.symm))
theorem UX.alloc {w cb M o rec} (h : UX w cb M o rec) (ob : Obj) : UX (w.alloc ob) cb M o rec := by
  obtain ⟨v, h1, h2⟩ := h
  exact ⟨v, h1.alloc ob, h2.of (fun k hk => Below.heap_alloc _ _ _ (h2.lt k hk).1)⟩
theorem UX.calm {w cb M o rec} (h : UX w cb M o rec) {w' : World} (ho : Only (fun _ => False) w w') : UX w' cb M o rec := by
  obtain ⟨v, h1, h2⟩ := h
  exact ⟨v, h1.only ho (fun e => e) (fun e => e), h2.of (fun k hk => ho.block k (h2.lt k hk).1 (fun e => e))⟩
theorem UX.setRec {w cb M o rec} (h : UX w cb M o rec) (r : Bool) : UX (w.setCell ⟨cb, 6, none⟩ (.bool r)) cb M o r := by
  obtain ⟨v, h1, h2⟩ := h
  refine ⟨v, ⟨heap_setCell_same h1.1 _, (Below.heap_setCell _ _ _ _ (by exact h1.ne)).trans h1.2⟩, h2.of (fun k hk => Below.heap_setCell _ _ _ _ (fun e => ?_))⟩
  have e2 : k = cb := e
  subst e2
  exact absurd ((h2.lt k hk).2 _ _ h1.1) (by decide)
set_option maxRecDepth 20000 in
set_option maxHeartbeats 4000000 in
theorem uexprs_nil (p : Option Addr) (w : World) : Calls Tryz.prog 114 #[.pointer p, .slice none 0 0] w fun en w' => en = .returned (.tuple #[]) ∧ w' = w := by
  go_enter Tryz.func114, Tryz.ntmps114
  go_wp2
  go_loop [8] (fun s => s = .int .i64 0) (fun _ => 0)
  case atStart => exact rfl
  case round =>
    subst hrel
    go_wp2
    go_end0
    exact ⟨rfl, rfl⟩
set_option maxRecDepth 20000 in
set_option maxHeartbeats 4000000 in
theorem ustmt_print (p : Option Addr) (w : World) :
    Calls Tryz.prog 144 #[.pointer p, printV] w fun en w' => en = .returned (.tuple #[]) ∧ Only (fun _ => False) w w' := by
  have q0 := ts419_191 (.agg #[.slice none 0 0, .nilIface])
  have q1 := ts419_424 (.agg #[.slice none 0 0, .nilIface])
  have q2 := ts419_427 (.agg #[.slice none 0 0, .nilIface])
  have q3 := ts419_429 (.agg #[.slice none 0 0, .nilIface])
  have q4 := ts419_432 (.agg #[.slice none 0 0, .nilIface])
  have q5 := ts419_507 (.agg #[.slice none 0 0, .nilIface])
  have q6 := ts419_419 (.agg #[.slice none 0 0, .nilIface])
  have H1 := hide (uexprs_nil p)
  have H2 := hide (uexpr_nil p)
  unfold printV
  go_enter Tryz.func144, Tryz.ntmps144
  go_wp2_with (first | (go_at_call 114; refine (H1.out _).mono ?_; rintro en w2 ⟨rfl, h3⟩; subst h3) | (go_at_call 145; refine (H2.out _).mono ?_; rintro en w2 ⟨rfl, h3⟩; subst h3))
  go_end0
  exact ⟨rfl, onlyA _ _⟩
set_option maxRecDepth 20000 in
set_option maxHeartbeats 4000000 in
theorem ublock (cb n : Nat) (hn100 : n ≤ 100) (v : Value) (vs : List Value) (J : Nat → World → Prop) (w : World) (hrow : w.ownsRow 0 235 1 v n vs) (hcb : v.ownBlock ≠ some cb) (hJ : ∀ i W, J i W → Only (fun k => k = cb) w W) (h0 : J 0 w)
    (hs : ∀ i u, vs[i]? = some u → ∀ W, J i W → Calls Tryz.prog 144 #[.pointer (some ⟨cb, 0, none⟩), u] W fun en w' => en = .returned (.tuple #[]) ∧ J (i + 1) w') :
    Calls Tryz.prog 113 #[.pointer (some ⟨cb, 0, none⟩), v] w fun en w' => en = .returned (.tuple #[]) ∧ J n w' := by
  have hlen : vs.length = n := by have := hrow.1; omega
  obtain ⟨po, cap, rfl⟩ := ownsRow_slice hrow
  have HRow := hide hrow
  have HJ := hide hJ
  have HS := hide hs
  have H0 := hide h0
  clear hrow hJ hs h0
  go_enter Tryz.func113, Tryz.ntmps113
  go_wp2
  go_loopg [8] n (fun gh s8 wr => ∃ k : Nat, k ≤ n ∧ gh = n - k ∧ s8 = .int .i64 k ∧ J k wr)
  case atStart => exact ⟨0, by omega, rfl, rfl, H0.out⟩
  case round =>
    obtain ⟨k, hk, hgh, rfl, hj⟩ := hrel
    have HJk := hide hj
    have HG := hide hgh
    by_cases hlt : k < n
    · have hli : (k : Int) < (n : Int) := by omega
      obtain ⟨u, hu⟩ : ∃ u, vs[k]? = some u := ⟨_, List.getElem?_eq_getElem (by omega)⟩
      have hrow2 := row_keep HRow.out hcb (HJ.out k wr hj)
      obtain ⟨g, cap2, he, hg, hc⟩ := own_at hrow2 (by omega)
      cases he
      have c0 : wr.cell? ⟨g, k, none⟩ = some u := hc k u hu
      have HSk := hide (HS.out k u hu wr hj)
      clear hrow2 hc hj hgh hu
      go_wp2_with (go_at_call 144; refine (HSk.out).mono ?_; rintro en w2 ⟨rfl, h3⟩; have H3 := hide h3; clear h3)
      go_roundg (n - (k + 1))
      case measure => rw [HG.out]; omega
      case rel => exact ⟨k + 1, by omega, rfl, by go_num, H3.out⟩
    · obtain rfl : k = n := by omega
      have hli : ¬ (k : Int) < (k : Int) := by omega
      clear hj hgh
      go_wp2
      go_end0
      exact ⟨rfl, HJk.out⟩
set_option maxRecDepth 20000 in
set_option maxHeartbeats 4000000 in
theorem urule (cb M : Nat) (o1 : Option (ByteArray × Nat)) (body : Value) (hsl : ∃ po n cap, body = .slice po n cap) (w : World) (h : UX w cb M none false)
    (h1 : ∀ W, UX W cb M none true → Only (fun k => k = cb) w W → Calls Tryz.prog 113 #[.pointer (some ⟨cb, 0, none⟩), body] W fun en w' => en = .returned (.tuple #[]) ∧ UX w' cb M o1 true ∧ Only (fun k => k = cb) W w') :
    Calls Tryz.prog 77 #[.pointer (some ⟨cb, 0, none⟩), .agg #[.int .i64 0, .slice none 0 0, body]] w fun en w' => en = .returned (.tuple #[]) ∧ UX w' cb M o1 false ∧ Only (fun k => k = cb) w w' := by
  obtain ⟨po, n, cap, rfl⟩ := hsl
  have HE := hide (uexprs_nil (some ⟨cb, 0, none⟩))
  have hu0 := (h.setRec true).alloc (.cells #[.int .i64 0, .slice none 0 0, .slice po n cap] 102)
  have hlc : cb < w.heap.size := by obtain ⟨v, h1, _⟩ := h; exact heap_lt h1.1
  have c6 : w.cell? ⟨cb, 6, none⟩ = some (.bool false) := by obtain ⟨v, h1, _⟩ := h; exact cell_of h1.1 rfl
  have cf : ∀ o, w.frozen? ⟨cb, o, none⟩ = false := by obtain ⟨v, h1, _⟩ := h; exact free_of h1.1
  have hO := (Only.refl (fun k => k = cb) w).setCell (p := ⟨cb, 6, none⟩) (fun _ => rfl) (.bool true)
  have hO2 := hO.alloc (.cells #[.int .i64 0, .slice none 0 0, .slice po n cap] 102)
  have H1 := hide (h1 _ hu0 hO2)
  have HO2 := hide hO2
  clear h h1 hu0 hO hO2
  go_enter Tryz.func77, Tryz.ntmps77
  go_wp2_with (go_at_call 114; refine (HE.out _).mono ?_; rintro en w2 ⟨rfl, h3⟩; subst h3)
  refine (H1.out).mono ?_
  rintro en w2 ⟨rfl, hu2, ho2⟩
  have d6 : w2.cell? ⟨cb, 6, none⟩ = some (.bool true) := by obtain ⟨v, h1, _⟩ := hu2; exact cell_of h1.1 rfl
  have df : ∀ o, w2.frozen? ⟨cb, o, none⟩ = false := by obtain ⟨v, h1, _⟩ := hu2; exact free_of h1.1
  have HU2 := hide hu2
  have HO3 := hide ho2
  clear hu2 ho2 H1
  go_wp2
  go_end0
  exact ⟨rfl, HU2.out.setRec false, (HO2.out.trans HO3.out (fun _ _ e => e)).setCell (p := ⟨cb, 6, none⟩) (fun _ => rfl) _⟩
end Go.Proofs.YtdbdbaepmdmnfaaGreatDoor
namespace Go.Proofs.YtdbdbaepmdmnfaaGreatDoor
open Go.RowKit
set_option maxRecDepth 20000 in
set_option maxHeartbeats 4000000 in
theorem len_0 (w : World) : Calls Tryz.prog 147 #[.int .u64 0] w fun en w' => (∃ l, en = .returned (.int .i64 l)) ∧ w' = w := by
  go_enter Tryz.func147, Tryz.ntmps147
  go_wp2
  go_ret
  exact ⟨⟨_, rfl⟩, rfl⟩
set_option maxRecDepth 20000 in
set_option maxHeartbeats 4000000 in
theorem len_1 (w : World) : Calls Tryz.prog 147 #[.int .u64 1] w fun en w' => (∃ l, en = .returned (.int .i64 l)) ∧ w' = w := by
  go_enter Tryz.func147, Tryz.ntmps147
  go_wp2
  go_ret
  exact ⟨⟨_, rfl⟩, rfl⟩
set_option maxRecDepth 20000 in
set_option maxHeartbeats 4000000 in
theorem insert_few (v f : Value) (n : Nat) (hn : n ≤ 1) (w : World) : Calls Tryz.prog 190 #[v, .int .i64 0, .int .i64 n, f] w fun en w' => en = .returned (.tuple #[]) ∧ w' = w := by
  have hli : ¬ (1 : Int) < (n : Int) := by omega
  go_enter Tryz.func190, Tryz.ntmps190
  go_wp2
  go_loop [8] (fun s => s = .int .i64 1) (fun _ => 0)
  case atStart => exact rfl
  case round =>
    subst hrel
    go_wp2
    go_end0
    exact ⟨rfl, rfl⟩
set_option maxRecDepth 20000 in
set_option maxHeartbeats 4000000 in
theorem pdq_0 (v f : Value) (l : Int) (w : World) : Calls Tryz.prog 146 #[v, .int .i64 0, .int .i64 0, .int .i64 l, f] w fun en w' => en = .returned (.tuple #[]) ∧ w' = w := by
  have HI := hide (insert_few v f 0 (by omega))
  go_enter Tryz.func146, Tryz.ntmps146
  go_wp2
  go_loop [1, 2] (fun s1 s2 => s1 = .int .i64 0 ∧ s2 = .int .i64 0) (fun _ _ => 0)
  case atStart => exact ⟨rfl, rfl⟩
  case round =>
    obtain ⟨rfl, rfl⟩ := hrel
    go_wp2_with (go_at_call 190; refine (HI.out _).mono ?_; rintro en w' ⟨rfl, rfl⟩)
    refine bodyPost_ret (results_none rfl _ _ _) rfl ?_
    exact ⟨rfl, rfl⟩
set_option maxRecDepth 20000 in
set_option maxHeartbeats 4000000 in
theorem sort_0 (po : Option Addr) (cap : Nat) (f : Value) (w : World) : Calls Tryz.prog 115 #[.slice po 0 cap, f] w fun en w' => en = .returned (.tuple #[]) ∧ w' = w := by
  have HL := hide len_0
  have HP := hide (fun l => pdq_0 (.slice po 0 cap) f l)
  go_enter Tryz.func115, Tryz.ntmps115
  go_wp2_with (first | (go_at_call 147; refine (HL.out _).mono ?_; rintro en w' ⟨⟨l, rfl⟩, rfl⟩) | (go_at_call 146; refine (HP.out _ _).mono ?_; rintro en w' ⟨rfl, rfl⟩))
  go_end0
  exact ⟨rfl, rfl⟩
set_option maxRecDepth 20000 in
set_option maxHeartbeats 4000000 in
theorem pdq_1 (v f : Value) (l : Int) (w : World) : Calls Tryz.prog 146 #[v, .int .i64 0, .int .i64 1, .int .i64 l, f] w fun en w' => en = .returned (.tuple #[]) ∧ w' = w := by
  have HI := hide (insert_few v f 1 (by omega))
  go_enter Tryz.func146, Tryz.ntmps146
  go_wp2
  go_loop [1, 2] (fun s1 s2 => s1 = .int .i64 0 ∧ s2 = .int .i64 1) (fun _ _ => 0)
  case atStart => exact ⟨rfl, rfl⟩
  case round =>
    obtain ⟨rfl, rfl⟩ := hrel
    go_wp2_with (go_at_call 190; refine (HI.out _).mono ?_; rintro en w' ⟨rfl, rfl⟩)
    refine bodyPost_ret (results_none rfl _ _ _) rfl ?_
    exact ⟨rfl, rfl⟩
set_option maxRecDepth 20000 in
set_option maxHeartbeats 4000000 in
theorem sort_1 (po : Option Addr) (cap : Nat) (f : Value) (w : World) : Calls Tryz.prog 115 #[.slice po 1 cap, f] w fun en w' => en = .returned (.tuple #[]) ∧ w' = w := by
  have HL := hide len_1
  have HP := hide (fun l => pdq_1 (.slice po 1 cap) f l)
  go_enter Tryz.func115, Tryz.ntmps115
  go_wp2_with (first | (go_at_call 147; refine (HL.out _).mono ?_; rintro en w' ⟨⟨l, rfl⟩, rfl⟩) | (go_at_call 146; refine (HP.out _ _).mono ?_; rintro en w' ⟨rfl, rfl⟩))
  go_end0
  exact ⟨rfl, rfl⟩
end Go.Proofs.YtdbdbaepmdmnfaaGreatDoor
