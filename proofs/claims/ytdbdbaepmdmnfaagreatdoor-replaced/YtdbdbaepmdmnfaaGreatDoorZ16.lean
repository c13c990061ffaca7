import Derived.Test.YtdbdbaepmdmnfaaGreatDoorZ15
namespace Go.Proofs.YtdbdbaepmdmnfaaGreatDoor
open Go.RowKit
theorem new_at2 {W : World} {n : Nat} (h : W.heap.size = n) (o : Obj) : (W.alloc o).heap[n]? = some o := by subst h; exact heap_alloc_new W o
set_option maxRecDepth 10000 in
set_option maxHeartbeats 8000000 in
theorem next_any (pb : Nat) (T : ByteArray) (i : Nat) (dv : Bool) (k : Nat) (x : ByteArray) (xa : Nat) (ge : Bool) (hi : i ≤ T.size) (h5 : T.size ≤ 65000) (hc : ∀ c, T.data.toList[runTo blankB T.data.toList i]? = some c → ((c.toNat : Int) == 35) = false)
    (k' : Nat) (x' : ByteArray) (e' : Nat) (hr : ReadsTo pb T (runTo blankB T.data.toList i) dv k' x' e') (w : World) (h : PSt w pb T i dv k x xa ge) :
    Calls Tryz.prog 105 #[.pointer (some ⟨pb, 0, none⟩)] w fun en w' => en = .returned (tokV k' x' (runTo blankB T.data.toList i)) ∧ PSt w' pb T e' (endsB k' x'.data.toList) k x xa ge ∧ Only (fun k => k = pb) w w' := by
  have hl := heap_lt h
  have HSk : ∀ o, Hid (Calls Tryz.prog 134 #[.pointer (some ⟨pb, 0, none⟩)] (w.alloc o) fun en w' => en = .returned (.tuple #[]) ∧ PSt w' pb T (runTo blankB T.data.toList i) dv k x xa ge ∧ Only (fun k => k = pb) (w.alloc o) w') := fun o => skip_all pb T i dv k x xa ge hi h5 hc (w.alloc o) ((Below.heap_alloc _ _ _ hl).trans h)
  obtain ⟨j, HJ⟩ : ∃ j, Hid (j = runTo blankB T.data.toList i) := ⟨_, rfl⟩
  rw [← HJ.out]
  rw [← HJ.out] at hr
  obtain ⟨d, HD⟩ : ∃ d, Hid (d = endsB k' x'.data.toList) := ⟨_, rfl⟩
  rw [← HD.out]
  have HR := hide hr
  clear hr hc h
  unfold tokV
  go_enter Tryz.func105, Tryz.ntmps105
  go_wp2_with fail
  refine ((HSk _).out).mono ?_
  rintro e w1 ⟨rfl, hp1, ho1⟩
  rw [← HJ.out] at hp1
  have hz1 : w.heap.size + 1 ≤ w1.heap.size := by have := ho1.size; simpa using this
  have hb1 := (ho1.block w.heap.size (by simp) (by intro e; omega)).trans (new0 w (.cells #[.int .i64 0, .string ⟨#[]⟩, .int .i64 0] 152))
  have HP1 := hide hp1
  have HB1 := hide hb1
  have HO1 : Hid (Only (fun k => k = pb) w w1) := ((Only.refl _ w).alloc _).trans ho1 (fun _ _ e => e)
  clear hp1 ho1 hb1 HSk
  go_wp2_with fail
  refine (HR.out w1 HP1.out.tk).mono ?_
  rintro e w2 ⟨rfl, ho2⟩
  have hz2 := ho2.size
  have hb2 := (ho2.block w.heap.size (by omega) (fun e => e)).trans HB1.out
  have hp2 := HP1.out.only ho2 (fun e => e)
  have q0 : w2.cell? ⟨w.heap.size, 0, none⟩ = some (.int .i64 0) := cell_of hb2 rfl
  have q1 : w2.cell? ⟨w.heap.size, 1, none⟩ = some (.string ⟨#[]⟩) := cell_of hb2 rfl
  have q2 : w2.cell? ⟨w.heap.size, 2, none⟩ = some (.int .i64 0) := cell_of hb2 rfl
  have qf := free_of hb2
  have r1 : w2.cell? ⟨pb, 1, none⟩ = some (.int .i64 j) := cell_of hp2 rfl
  have r2 : w2.cell? ⟨pb, 2, none⟩ = some (.bool dv) := cell_of hp2 rfl
  have rf := free_of hp2
  have hpn : pb ≠ w.heap.size := by omega
  have HP2 := hide hp2
  have HB2 := hide hb2
  have HO2 : Hid (Only (fun k => k = pb) w w2) := HO1.out.trans ho2 (fun _ _ e => e.elim)
  have hl2 : pb < w2.heap.size := by omega
  have hl3 : w.heap.size < w2.heap.size := by omega
  clear ho2 hb2 hp2 HO1 HP1 HB1
  unfold tokV
  go_wp2_with fail
  have hen := ends_any k' x' j ((w2.setCell ⟨pb, 1, none⟩ (.int .i64 e')).alloc (.cells #[.int .i64 k', .string x', .int .i64 j] 152))
  unfold tokV at hen
  rw [← HD.out] at hen
  refine hen.mono ?_
  rintro e w3 ⟨rfl, ho3⟩
  have hz3 := ho3.size
  have hs0 : (w2.setCell ⟨pb, 1, none⟩ (.int .i64 e')).heap.size = w2.heap.size := by simp [World.setCell]
  have hp3 : PSt w3 pb T e' dv k x xa ge := (ho3.block pb (by simp [hs0]; omega) (fun e => e)).trans ((Below.heap_alloc _ _ _ (by omega)).trans (HP2.out.setAt e'))
  have hx3 : w3.heap[w2.heap.size]? = some (.cells #[.int .i64 k', .string x', .int .i64 j] 152 (0, 0)) := (ho3.block w2.heap.size (by simp [hs0]) (fun e => e)).trans (new_at2 hs0 _)
  have hb3 : w3.heap[w.heap.size]? = some (.cells #[.int .i64 0, .string ⟨#[]⟩, .int .i64 0] 152 (0, 0)) := (ho3.block w.heap.size (by simp [hs0]; omega) (fun e => e)).trans ((Below.heap_alloc _ _ _ (by omega)).trans ((Below.heap_setCell _ _ _ _ (fun e => hpn e.symm)).trans HB2.out))
  have s0 : w3.cell? ⟨w.heap.size, 0, none⟩ = some (.int .i64 0) := cell_of hb3 rfl
  have s1 : w3.cell? ⟨w.heap.size, 1, none⟩ = some (.string ⟨#[]⟩) := cell_of hb3 rfl
  have s2 : w3.cell? ⟨w.heap.size, 2, none⟩ = some (.int .i64 0) := cell_of hb3 rfl
  have sf := free_of hb3
  have t0 : w3.cell? ⟨w2.heap.size, 0, none⟩ = some (.int .i64 k') := cell_of hx3 rfl
  have t1 : w3.cell? ⟨w2.heap.size, 1, none⟩ = some (.string x') := cell_of hx3 rfl
  have t2 : w3.cell? ⟨w2.heap.size, 2, none⟩ = some (.int .i64 j) := cell_of hx3 rfl
  have u2 : w3.cell? ⟨pb, 2, none⟩ = some (.bool dv) := cell_of hp3 rfl
  have uf := free_of hp3
  have hpx : pb ≠ w2.heap.size := by omega
  have HP3 := hide hp3
  have HO3 : Hid (Only (fun k => k = pb) w w3) := ((HO2.out.setCell (p := ⟨pb, 1, none⟩) (fun _ => rfl) _).alloc _).trans ho3 (fun _ _ e => e.elim)
  clear ho3 hp3 hx3 hb3 hen q0 q1 q2 qf r1 r2 rf HO2 HP2 HB2
  go_wp2
  refine bodyPost_ret (v := .agg #[.int .i64 k', .string x', .int .i64 j]) (by simp [results, Tryz.results105, go_sem, s0, s1, s2]) rfl ⟨rfl, ?_, ?_⟩
  · show _ = _
    rw [Below.heap_setCell _ _ _ _ hpn, Below.heap_setCell _ _ _ _ hpn, Below.heap_setCell _ _ _ _ hpn]
    exact HP3.out.setDv d
  · exact (((HO3.out.setCell (p := ⟨pb, 2, none⟩) (fun _ => rfl) _).setCell (p := ⟨w.heap.size, 0, none⟩) (fun h => absurd h (Nat.lt_irrefl _)) _).setCell (p := ⟨w.heap.size, 1, none⟩) (fun h => absurd h (Nat.lt_irrefl _)) _).setCell (p := ⟨w.heap.size, 2, none⟩) (fun h => absurd h (Nat.lt_irrefl _)) _
theorem PSt.setNow {w pb T i dv k x xa ge} (h : PSt w pb T i dv k x xa ge) (k' : Nat) (x' : ByteArray) (j : Nat) : PSt (((w.setCell ⟨pb, 3, none⟩ (.int .i64 k')).setCell ⟨pb, 4, none⟩ (.string x')).setCell ⟨pb, 5, none⟩ (.int .i64 j)) pb T i dv k' x' j ge := heap_setCell_same (heap_setCell_same (heap_setCell_same h _) _) _
/-- A step of a parser: from one token to the next. -/
def GoesOn (pb : Nat) (T : ByteArray) (i : Nat) (dv : Bool) (i' : Nat) (k' : Nat) (x' : ByteArray) (j' : Nat) : Prop :=
  ∀ w k x xa ge, PSt w pb T i dv k x xa ge → Calls Tryz.prog 73 #[.pointer (some ⟨pb, 0, none⟩)] w fun en w' => en = .returned (.tuple #[]) ∧ PSt w' pb T i' (endsB k' x'.data.toList) k' x' j' ge ∧ Only (fun k => k = pb) w w'
set_option maxRecDepth 10000 in
set_option maxHeartbeats 8000000 in
theorem goOn_any (pb : Nat) (T : ByteArray) (i : Nat) (dv : Bool) (hi : i ≤ T.size) (h5 : T.size ≤ 65000) (hc : ∀ c, T.data.toList[runTo blankB T.data.toList i]? = some c → ((c.toNat : Int) == 35) = false)
    (k' : Nat) (x' : ByteArray) (e' : Nat) (hr : ReadsTo pb T (runTo blankB T.data.toList i) dv k' x' e') : GoesOn pb T i dv e' k' x' (runTo blankB T.data.toList i) := by
  intro w k x xa ge h
  have HN := hide (next_any pb T i dv k x xa ge hi h5 hc k' x' e' hr w h)
  obtain ⟨j, HJ⟩ : ∃ j, Hid (j = runTo blankB T.data.toList i) := ⟨_, rfl⟩
  rw [← HJ.out] at HN ⊢
  obtain ⟨d, HD⟩ : ∃ d, Hid (d = endsB k' x'.data.toList) := ⟨_, rfl⟩
  rw [← HD.out] at HN ⊢
  clear hr hc h
  go_enter Tryz.func73, Tryz.ntmps73
  go_wp2_with fail
  refine (HN.out).mono ?_
  rintro e w1 ⟨rfl, hp1, ho1⟩
  have r3 : w1.cell? ⟨pb, 3, none⟩ = some (.int .i64 k) := cell_of hp1 rfl
  have r4 : w1.cell? ⟨pb, 4, none⟩ = some (.string x) := cell_of hp1 rfl
  have r5 : w1.cell? ⟨pb, 5, none⟩ = some (.int .i64 xa) := cell_of hp1 rfl
  have rf := free_of hp1
  have HP1 := hide hp1
  have HO1 := hide ho1
  clear hp1 ho1 HN
  unfold tokV
  go_wp2
  go_end0
  exact ⟨rfl, HP1.out.setNow k' x' j, ((HO1.out.setCell (p := ⟨pb, 3, none⟩) (fun _ => rfl) _).setCell (p := ⟨pb, 4, none⟩) (fun _ => rfl) _).setCell (p := ⟨pb, 5, none⟩) (fun _ => rfl) _⟩
/-- Does the parser look at that word or sign? -/
def seesB (k : Nat) (x t : List UInt8) : Bool := (k == 7 || k == 9) && x == t
set_option maxRecDepth 10000 in
set_option maxHeartbeats 8000000 in
theorem psees_any (pb : Nat) (T : ByteArray) (i : Nat) (dv : Bool) (k : Nat) (x : ByteArray) (xa : Nat) (ge : Bool) (t : ByteArray) (w : World) (h : PSt w pb T i dv k x xa ge) :
    Calls Tryz.prog 137 #[.pointer (some ⟨pb, 0, none⟩), .string t] w fun en w' => en = .returned (.bool (seesB k x.data.toList t.data.toList)) ∧ w' = w := by
  obtain ⟨v, HV⟩ : ∃ v, Hid (v = seesB k x.toList t.toList) := ⟨_, rfl⟩
  rw [← ByteArray.toList_eq, ← ByteArray.toList_eq, ← HV.out]
  have r3 : w.cell? ⟨pb, 3, none⟩ = some (.int .i64 k) := cell_of h rfl
  have r4 : w.cell? ⟨pb, 4, none⟩ = some (.string x) := cell_of h rfl
  clear h
  by_cases hk : k = 7 ∨ k = 9
  · rcases hk with rfl | rfl
    all_goals
      go_enter Tryz.func137, Tryz.ntmps137
      go_wp2
      go_ret
      refine ⟨ret_bool ?_, rfl⟩
      rw [HV.out]
      unfold seesB
      simp
  · have d7 : ((k : Int) == 7) = false := by rw [beq_eq_false_iff_ne]; omega
    have d9 : ((k : Int) == 9) = false := by rw [beq_eq_false_iff_ne]; omega
    have hv : v = false := by
      rw [HV.out]
      unfold seesB
      rw [Bool.and_eq_false_iff]
      left
      rw [Bool.or_eq_false_iff, beq_eq_false_iff_ne, beq_eq_false_iff_ne]
      omega
    subst hv
    clear hk
    go_enter Tryz.func137, Tryz.ntmps137
    go_wp2
    go_ret
    exact ⟨rfl, rfl⟩
end Go.Proofs.YtdbdbaepmdmnfaaGreatDoor

namespace Go.Proofs.YtdbdbaepmdmnfaaGreatDoor
open Go.RowKit
/-- Where a parser is: the reader's place, whether a slash divides, and the token it looks at. -/
structure TS where
  i : Nat
  dv : Bool
  k : Nat
  x : ByteArray
  xa : Nat
def PAt (w : World) (pb : Nat) (T : ByteArray) (s : TS) (ge : Bool) : Prop := PSt w pb T s.i s.dv s.k s.x s.xa ge
theorem PAt.only {w w' pb T s ge D} (h : PAt w pb T s ge) (ho : Only D w w') (hd : ¬ D pb) : PAt w' pb T s ge := PSt.only h ho hd
theorem PAt.lt {w pb T s ge} (h : PAt w pb T s ge) : pb < w.heap.size := heap_lt h
def seen (s : TS) (t : List UInt8) : Bool := seesB s.k s.x.data.toList t
theorem sees_at (pb : Nat) (T : ByteArray) (s : TS) (ge : Bool) (t : ByteArray) (v : Bool) (hv : seen s t.data.toList = v) (w : World) (h : PAt w pb T s ge) :
    Calls Tryz.prog 137 #[.pointer (some ⟨pb, 0, none⟩), .string t] w fun en w' => en = .returned (.bool v) ∧ w' = w := by
  subst hv; exact psees_any pb T s.i s.dv s.k s.x s.xa ge t w h
/-- From one token to the next. -/
def Nx (pb : Nat) (T : ByteArray) (s s' : TS) : Prop := GoesOn pb T s.i s.dv s'.i s'.k s'.x s'.xa ∧ s'.dv = endsB s'.k s'.x.data.toList
theorem Nx.on {pb T s s' ge w} (hn : Nx pb T s s') (h : PAt w pb T s ge) : Calls Tryz.prog 73 #[.pointer (some ⟨pb, 0, none⟩)] w fun en w' => en = .returned (.tuple #[]) ∧ PAt w' pb T s' ge ∧ Only (fun k => k = pb) w w' := by
  refine (hn.1 w _ _ _ _ h).mono ?_
  rintro en w' ⟨h1, h2, h3⟩
  refine ⟨h1, ?_, h3⟩
  unfold PAt
  rw [hn.2]
  exact h2
set_option maxHeartbeats 4000000 in
theorem oneOf_no (pb : Nat) (T : ByteArray) (s : TS) (ge : Bool) (b cap : Nat) (ss : List ByteArray) (hl : ss.length ≤ 1000) (hno : ∀ t ∈ ss, seen s t.data.toList = false) (w : World) (h : PAt w pb T s ge) (hA : ∀ (i : Nat) (t : ByteArray), ss[i]? = some t → w.cell? ⟨b, i, none⟩ = some (.string t)) :
    Calls Tryz.prog 184 #[.pointer (some ⟨pb, 0, none⟩), .slice (some ⟨b, 0, none⟩) ss.length cap] w fun en w' => en = .returned (.bool false) ∧ w' = w := by
  have HP := hide h
  have HN := hide hno
  have HA := hide hA
  clear h hno hA
  go_enter Tryz.func184, Tryz.ntmps184
  go_wp2
  go_loop [9] (fun s9 => ∃ k : Nat, s9 = .int .i64 k ∧ k ≤ ss.length) (fun s9 => ss.length - (intOf s9).toNat)
  case atStart => exact ⟨0, rfl, Nat.zero_le _⟩
  case round =>
    obtain ⟨k, rfl, hk⟩ := hrel
    by_cases hlt : k < ss.length
    · have hli : (k : Int) < (ss.length : Int) := by omega
      obtain ⟨t, ht⟩ : ∃ t, ss[k]? = some t := ⟨_, List.getElem?_eq_getElem hlt⟩
      have c0 := HA.out k t ht
      have HS := hide (sees_at pb T s ge t false (HN.out t (List.mem_of_getElem? ht)) w HP.out)
      clear ht
      go_wp2_with (go_at_call 137; refine (HS.out).mono ?_; rintro en w' ⟨rfl, rfl⟩)
      go_round
      case rel => exact ⟨k + 1, by go_num, by omega⟩
      case measure => simp [intOf]; omega
    · have hli : ¬ (k : Int) < (ss.length : Int) := by omega
      go_wp2
      go_ret
      exact ⟨rfl, rfl⟩
set_option maxHeartbeats 4000000 in
theorem passes_no (pb : Nat) (T : ByteArray) (s : TS) (ge : Bool) (t : ByteArray) (hv : seen s t.data.toList = false) (w : World) (h : PAt w pb T s ge) :
    Calls Tryz.prog 106 #[.pointer (some ⟨pb, 0, none⟩), .string t] w fun en w' => en = .returned (.bool false) ∧ w' = w := by
  have HS := hide (sees_at pb T s ge t false hv w h)
  clear h
  go_enter Tryz.func106, Tryz.ntmps106
  go_wp2_with (go_at_call 137; refine (HS.out).mono ?_; rintro en w' ⟨rfl, rfl⟩)
  go_ret
  exact ⟨rfl, rfl⟩
set_option maxHeartbeats 4000000 in
theorem passes_yes (pb : Nat) (T : ByteArray) (s s' : TS) (ge : Bool) (t : ByteArray) (hv : seen s t.data.toList = true) (hn : Nx pb T s s') (w : World) (h : PAt w pb T s ge) :
    Calls Tryz.prog 106 #[.pointer (some ⟨pb, 0, none⟩), .string t] w fun en w' => en = .returned (.bool true) ∧ PAt w' pb T s' ge ∧ Only (fun k => k = pb) w w' := by
  have HS := hide (sees_at pb T s ge t true hv w h)
  have HN := hide (hn.on h)
  clear h hn
  go_enter Tryz.func106, Tryz.ntmps106
  go_wp2_with (first | (go_at_call 137; refine (HS.out).mono ?_; rintro en w' ⟨rfl, rfl⟩) | (go_at_call 73; refine (HN.out).mono ?_; rintro en w1 ⟨rfl, hp, ho⟩))
  go_ret
  exact ⟨rfl, hp, ho⟩
set_option maxHeartbeats 4000000 in
theorem need_yes (pb : Nat) (T : ByteArray) (s s' : TS) (ge : Bool) (t : ByteArray) (hv : seen s t.data.toList = true) (hn : Nx pb T s s') (w : World) (h : PAt w pb T s ge) :
    Calls Tryz.prog 140 #[.pointer (some ⟨pb, 0, none⟩), .string t] w fun en w' => en = .returned (.tuple #[]) ∧ PAt w' pb T s' ge ∧ Only (fun k => k = pb) w w' := by
  have HS := hide (passes_yes pb T s s' ge t hv hn w h)
  clear h hn
  go_enter Tryz.func140, Tryz.ntmps140
  go_wp2_with (go_at_call 106; refine (HS.out).mono ?_; rintro en w1 ⟨rfl, hp, ho⟩)
  go_end0
  exact ⟨rfl, hp, ho⟩
set_option maxRecDepth 10000 in
set_option maxHeartbeats 4000000 in
theorem take_yes (pb : Nat) (T : ByteArray) (s s' : TS) (ge : Bool) (hn : Nx pb T s s') (w : World) (h : PAt w pb T s ge) :
    Calls Tryz.prog 139 #[.pointer (some ⟨pb, 0, none⟩)] w fun en w' => en = .returned (.agg #[.string s.x, .int .i64 s.xa]) ∧ PAt w' pb T s' ge ∧ Only (fun k => k = pb) w w' := by
  have hl := h.lt
  have r4 : w.cell? ⟨pb, 4, none⟩ = some (.string s.x) := cell_of h rfl
  have r5 : w.cell? ⟨pb, 5, none⟩ = some (.int .i64 s.xa) := cell_of h rfl
  have HP := hide h
  have HN := hide hn
  clear h hn
  go_enter Tryz.func139, Tryz.ntmps139
  go_wp2
  go_region
  all_goals
    have hp0 : PAt (((w.alloc (.cells #[.string ⟨#[]⟩, .int .i64 0] 92)).alloc (.cells #[.string s.x, .int .i64 s.xa] 92)).drew) pb T s ge := (Below.heap_alloc _ _ _ (by simp; omega)).trans ((Below.heap_alloc _ _ _ hl).trans HP.out)
    go_wp2_with fail
    refine (HN.out.on hp0).mono ?_
    rintro en w1 ⟨rfl, hp1, ho1⟩
    have hz1 : w.heap.size + 2 ≤ w1.heap.size := by have := ho1.size; simpa using this
    have hb0 : w1.heap[w.heap.size]? = some (.cells #[.string ⟨#[]⟩, .int .i64 0] 92 (0, 0)) := (ho1.block w.heap.size (by simp; omega) (by intro e; omega)).trans ((Below.heap_alloc _ _ _ (by simp)).trans (new0 w _))
    have hb1 : w1.heap[w.heap.size + 1]? = some (.cells #[.string s.x, .int .i64 s.xa] 92 (0, 0)) := (ho1.block (w.heap.size + 1) (by simp) (by intro e; omega)).trans (new_at2 (by simp) _)
    have q0 : w1.cell? ⟨w.heap.size, 0, none⟩ = some (.string ⟨#[]⟩) := cell_of hb0 rfl
    have q1 : w1.cell? ⟨w.heap.size, 1, none⟩ = some (.int .i64 0) := cell_of hb0 rfl
    have qf := free_of hb0
    have t0 : w1.cell? ⟨w.heap.size + 1, 0, none⟩ = some (.string s.x) := cell_of hb1 rfl
    have t1 : w1.cell? ⟨w.heap.size + 1, 1, none⟩ = some (.int .i64 s.xa) := cell_of hb1 rfl
    have HP1 := hide hp1
    have HO1 : Hid (Only (fun k => k = pb) w w1) := ((((Only.refl _ w).alloc _).alloc _).drewN 1).trans ho1 (fun _ _ e => e)
    have hpn : pb ≠ w.heap.size := by omega
    clear hp0 hp1 ho1 hb0 hb1
    go_wp2
    refine bodyPost_ret (v := .agg #[.string s.x, .int .i64 s.xa]) (by simp [results, Tryz.results139, go_sem, q0, q1]) rfl ⟨rfl, ?_, ?_⟩
    · show _ = _
      rw [Below.heap_setCell _ _ _ _ hpn, Below.heap_setCell _ _ _ _ hpn]
      exact HP1.out
    · exact (HO1.out.setCell (p := ⟨w.heap.size, 0, none⟩) (fun h => absurd h (Nat.lt_irrefl _)) _).setCell (p := ⟨w.heap.size, 1, none⟩) (fun h => absurd h (Nat.lt_irrefl _)) _
end Go.Proofs.YtdbdbaepmdmnfaaGreatDoor

