import Derived.Test.YthkknpjoifoanaaGreatDoorQ14
namespace Go.Proofs.YthkknpjoifoanaaGreatDoor
open Go.RowKit
theorem new_at2 {W : World} {n : Nat} (h : W.heap.size = n) (o : Obj) : (W.alloc o).heap[n]? = some o := by subst h; exact heap_alloc_new W o
set_option maxRecDepth 10000 in
set_option maxHeartbeats 8000000 in
theorem next_any (pb : Nat) (T : ByteArray) (i : Nat) (dv : Bool) (k : Nat) (x : ByteArray) (xa : Nat) (ge : Bool) (hi : i ≤ T.size) (h5 : T.size ≤ 65000) (hc : ∀ c, T.data.toList[runTo blankB T.data.toList i]? = some c → ((c.toNat : Int) == 35) = false)
    (k' : Nat) (x' : ByteArray) (e' : Nat) (hr : ReadsTo pb T (runTo blankB T.data.toList i) dv k' x' e') (w : World) (h : PSt w pb T i dv k x xa ge) :
    Calls Tryz.prog 94 #[.pointer (some ⟨pb, 0, none⟩)] w fun en w' => en = .returned (tokV k' x' (runTo blankB T.data.toList i)) ∧ PSt w' pb T e' (endsB k' x'.data.toList) k x xa ge ∧ Only (fun k => k = pb) w w' := by
  have hl := heap_lt h
  have HSk : ∀ o, Hid (Calls Tryz.prog 121 #[.pointer (some ⟨pb, 0, none⟩)] (w.alloc o) fun en w' => en = .returned (.tuple #[]) ∧ PSt w' pb T (runTo blankB T.data.toList i) dv k x xa ge ∧ Only (fun k => k = pb) (w.alloc o) w') := fun o => skip_all pb T i dv k x xa ge hi h5 hc (w.alloc o) ((Below.heap_alloc _ _ _ hl).trans h)
  obtain ⟨j, HJ⟩ : ∃ j, Hid (j = runTo blankB T.data.toList i) := ⟨_, rfl⟩
  rw [← HJ.out]
  rw [← HJ.out] at hr
  obtain ⟨d, HD⟩ : ∃ d, Hid (d = endsB k' x'.data.toList) := ⟨_, rfl⟩
  rw [← HD.out]
  have HR := hide hr
  clear hr hc h
  unfold tokV
  go_enter Tryz.func94, Tryz.ntmps94
  go_wp2_with fail
  refine ((HSk _).out).mono ?_
  rintro e w1 ⟨rfl, hp1, ho1⟩
  rw [← HJ.out] at hp1
  have hz1 : w.heap.size + 1 ≤ w1.heap.size := by have := ho1.size; simpa using this
  have hb1 := (ho1.block w.heap.size (by simp) (by intro e; omega)).trans (new0 w (.cells #[.int .i64 0, .string ⟨#[]⟩, .int .i64 0] 145))
  have HP1 := hide hp1
  have HB1 := hide hb1
  have HO1 : Hid (Only (fun k => k = pb) w w1) := ((Only.refl _ w).alloc _).trans ho1 (fun _ _ e => e)
  clear hp1 ho1 hb1 HSk
  go_wp2_with fail
  refine (HR.out w1 HP1.out.tk).mono ?_
  rintro e w2 ⟨rfl, ho2⟩
  have hz2 := ho2.size
  have hb2 := (ho2.block w.heap.size (by omega) (fun e => e)).trans HB1.out
  have hp2 := HP1.out.only ho2 (fun e => e)
  have q0 : w2.cell? ⟨w.heap.size, 0, none⟩ = some (.int .i64 0) := cell_of hb2 rfl
  have q1 : w2.cell? ⟨w.heap.size, 1, none⟩ = some (.string ⟨#[]⟩) := cell_of hb2 rfl
  have q2 : w2.cell? ⟨w.heap.size, 2, none⟩ = some (.int .i64 0) := cell_of hb2 rfl
  have qf := free_of hb2
  have r1 : w2.cell? ⟨pb, 1, none⟩ = some (.int .i64 j) := cell_of hp2 rfl
  have r2 : w2.cell? ⟨pb, 2, none⟩ = some (.bool dv) := cell_of hp2 rfl
  have rf := free_of hp2
  have hpn : pb ≠ w.heap.size := by omega
  have HP2 := hide hp2
  have HB2 := hide hb2
  have HO2 : Hid (Only (fun k => k = pb) w w2) := HO1.out.trans ho2 (fun _ _ e => e.elim)
  have hl2 : pb < w2.heap.size := by omega
  have hl3 : w.heap.size < w2.heap.size := by omega
  clear ho2 hb2 hp2 HO1 HP1 HB1
  unfold tokV
  go_wp2_with fail
  have hen := ends_any k' x' j ((w2.setCell ⟨pb, 1, none⟩ (.int .i64 e')).alloc (.cells #[.int .i64 k', .string x', .int .i64 j] 145))
  unfold tokV at hen
  rw [← HD.out] at hen
  refine hen.mono ?_
  rintro e w3 ⟨rfl, ho3⟩
  have hz3 := ho3.size
  have hs0 : (w2.setCell ⟨pb, 1, none⟩ (.int .i64 e')).heap.size = w2.heap.size := by simp [World.setCell]
  have hp3 : PSt w3 pb T e' dv k x xa ge := (ho3.block pb (by simp [hs0]; omega) (fun e => e)).trans ((Below.heap_alloc _ _ _ (by omega)).trans (HP2.out.setAt e'))
  have hx3 : w3.heap[w2.heap.size]? = some (.cells #[.int .i64 k', .string x', .int .i64 j] 145 (0, 0)) := (ho3.block w2.heap.size (by simp [hs0]) (fun e => e)).trans (new_at2 hs0 _)
  have hb3 : w3.heap[w.heap.size]? = some (.cells #[.int .i64 0, .string ⟨#[]⟩, .int .i64 0] 145 (0, 0)) := (ho3.block w.heap.size (by simp [hs0]; omega) (fun e => e)).trans ((Below.heap_alloc _ _ _ (by omega)).trans ((Below.heap_setCell _ _ _ _ (fun e => hpn e.symm)).trans HB2.out))
  have s0 : w3.cell? ⟨w.heap.size, 0, none⟩ = some (.int .i64 0) := cell_of hb3 rfl
  have s1 : w3.cell? ⟨w.heap.size, 1, none⟩ = some (.string ⟨#[]⟩) := cell_of hb3 rfl
  have s2 : w3.cell? ⟨w.heap.size, 2, none⟩ = some (.int .i64 0) := cell_of hb3 rfl
  have sf := free_of hb3
  have t0 : w3.cell? ⟨w2.heap.size, 0, none⟩ = some (.int .i64 k') := cell_of hx3 rfl
  have t1 : w3.cell? ⟨w2.heap.size, 1, none⟩ = some (.string x') := cell_of hx3 rfl
  have t2 : w3.cell? ⟨w2.heap.size, 2, none⟩ = some (.int .i64 j) := cell_of hx3 rfl
  have u2 : w3.cell? ⟨pb, 2, none⟩ = some (.bool dv) := cell_of hp3 rfl
  have uf := free_of hp3
  have hpx : pb ≠ w2.heap.size := by omega
  have HP3 := hide hp3
  have HO3 : Hid (Only (fun k => k = pb) w w3) := ((HO2.out.setCell (p := ⟨pb, 1, none⟩) (fun _ => rfl) _).alloc _).trans ho3 (fun _ _ e => e.elim)
  clear ho3 hp3 hx3 hb3 hen q0 q1 q2 qf r1 r2 rf HO2 HP2 HB2
  go_wp2
  refine bodyPost_ret (v := .agg #[.int .i64 k', .string x', .int .i64 j]) (by simp [results, Tryz.results94, go_sem, s0, s1, s2]) rfl ⟨rfl, ?_, ?_⟩
  · show _ = _
    rw [Below.heap_setCell _ _ _ _ hpn, Below.heap_setCell _ _ _ _ hpn, Below.heap_setCell _ _ _ _ hpn]
    exact HP3.out.setDv d
  · exact (((HO3.out.setCell (p := ⟨pb, 2, none⟩) (fun _ => rfl) _).setCell (p := ⟨w.heap.size, 0, none⟩) (fun h => absurd h (Nat.lt_irrefl _)) _).setCell (p := ⟨w.heap.size, 1, none⟩) (fun h => absurd h (Nat.lt_irrefl _)) _).setCell (p := ⟨w.heap.size, 2, none⟩) (fun h => absurd h (Nat.lt_irrefl _)) _
theorem PSt.setNow {w pb T i dv k x xa ge} (h : PSt w pb T i dv k x xa ge) (k' : Nat) (x' : ByteArray) (j : Nat) : PSt (((w.setCell ⟨pb, 3, none⟩ (.int .i64 k')).setCell ⟨pb, 4, none⟩ (.string x')).setCell ⟨pb, 5, none⟩ (.int .i64 j)) pb T i dv k' x' j ge := heap_setCell_same (heap_setCell_same (heap_setCell_same h _) _) _
/-- A step of a parser: from one token to the next. -/
def GoesOn (pb : Nat) (T : ByteArray) (i : Nat) (dv : Bool) (i' : Nat) (k' : Nat) (x' : ByteArray) (j' : Nat) : Prop :=
  ∀ w k x xa ge, PSt w pb T i dv k x xa ge → Calls Tryz.prog 59 #[.pointer (some ⟨pb, 0, none⟩)] w fun en w' => en = .returned (.tuple #[]) ∧ PSt w' pb T i' (endsB k' x'.data.toList) k' x' j' ge ∧ Only (fun k => k = pb) w w'
set_option maxRecDepth 10000 in
set_option maxHeartbeats 8000000 in
theorem goOn_any (pb : Nat) (T : ByteArray) (i : Nat) (dv : Bool) (hi : i ≤ T.size) (h5 : T.size ≤ 65000) (hc : ∀ c, T.data.toList[runTo blankB T.data.toList i]? = some c → ((c.toNat : Int) == 35) = false)
    (k' : Nat) (x' : ByteArray) (e' : Nat) (hr : ReadsTo pb T (runTo blankB T.data.toList i) dv k' x' e') : GoesOn pb T i dv e' k' x' (runTo blankB T.data.toList i) := by
  intro w k x xa ge h
  have HN := hide (next_any pb T i dv k x xa ge hi h5 hc k' x' e' hr w h)
  obtain ⟨j, HJ⟩ : ∃ j, Hid (j = runTo blankB T.data.toList i) := ⟨_, rfl⟩
  rw [← HJ.out] at HN ⊢
  obtain ⟨d, HD⟩ : ∃ d, Hid (d = endsB k' x'.data.toList) := ⟨_, rfl⟩
  rw [← HD.out] at HN ⊢
  clear hr hc h
  go_enter Tryz.func59, Tryz.ntmps59
  go_wp2_with fail
  refine (HN.out).mono ?_
  rintro e w1 ⟨rfl, hp1, ho1⟩
  have r3 : w1.cell? ⟨pb, 3, none⟩ = some (.int .i64 k) := cell_of hp1 rfl
  have r4 : w1.cell? ⟨pb, 4, none⟩ = some (.string x) := cell_of hp1 rfl
  have r5 : w1.cell? ⟨pb, 5, none⟩ = some (.int .i64 xa) := cell_of hp1 rfl
  have rf := free_of hp1
  have HP1 := hide hp1
  have HO1 := hide ho1
  clear hp1 ho1 HN
  unfold tokV
  go_wp2
  go_end0
  exact ⟨rfl, HP1.out.setNow k' x' j, ((HO1.out.setCell (p := ⟨pb, 3, none⟩) (fun _ => rfl) _).setCell (p := ⟨pb, 4, none⟩) (fun _ => rfl) _).setCell (p := ⟨pb, 5, none⟩) (fun _ => rfl) _⟩
/-- Does the parser look at that word or sign? -/
def seesB (k : Nat) (x t : List UInt8) : Bool := (k == 7 || k == 9) && x == t
set_option maxRecDepth 10000 in
set_option maxHeartbeats 8000000 in
theorem psees_any (pb : Nat) (T : ByteArray) (i : Nat) (dv : Bool) (k : Nat) (x : ByteArray) (xa : Nat) (ge : Bool) (t : ByteArray) (w : World) (h : PSt w pb T i dv k x xa ge) :
    Calls Tryz.prog 124 #[.pointer (some ⟨pb, 0, none⟩), .string t] w fun en w' => en = .returned (.bool (seesB k x.data.toList t.data.toList)) ∧ w' = w := by
  obtain ⟨v, HV⟩ : ∃ v, Hid (v = seesB k x.toList t.toList) := ⟨_, rfl⟩
  rw [← ByteArray.toList_eq, ← ByteArray.toList_eq, ← HV.out]
  have r3 : w.cell? ⟨pb, 3, none⟩ = some (.int .i64 k) := cell_of h rfl
  have r4 : w.cell? ⟨pb, 4, none⟩ = some (.string x) := cell_of h rfl
  clear h
  by_cases hk : k = 7 ∨ k = 9
  · rcases hk with rfl | rfl
    all_goals
      go_enter Tryz.func124, Tryz.ntmps124
      go_wp2
      go_ret
      refine ⟨ret_bool ?_, rfl⟩
      rw [HV.out]
      unfold seesB
      simp
  · have d7 : ((k : Int) == 7) = false := by rw [beq_eq_false_iff_ne]; omega
    have d9 : ((k : Int) == 9) = false := by rw [beq_eq_false_iff_ne]; omega
    have hv : v = false := by
      rw [HV.out]
      unfold seesB
      rw [Bool.and_eq_false_iff]
      left
      rw [Bool.or_eq_false_iff, beq_eq_false_iff_ne, beq_eq_false_iff_ne]
      omega
    subst hv
    clear hk
    go_enter Tryz.func124, Tryz.ntmps124
    go_wp2
    go_ret
    exact ⟨rfl, rfl⟩
end Go.Proofs.YthkknpjoifoanaaGreatDoor

namespace Go.Proofs.YthkknpjoifoanaaGreatDoor
open Go.RowKit
/-- Where a parser is: the reader's place, whether a slash divides, and the token it looks at. -/
structure TS where
  i : Nat
  dv : Bool
  k : Nat
  x : ByteArray
  xa : Nat
def PAt (w : World) (pb : Nat) (T : ByteArray) (s : TS) (ge : Bool) : Prop := PSt w pb T s.i s.dv s.k s.x s.xa ge
theorem PAt.only {w w' pb T s ge D} (h : PAt w pb T s ge) (ho : Only D w w') (hd : ¬ D pb) : PAt w' pb T s ge := PSt.only h ho hd
theorem PAt.lt {w pb T s ge} (h : PAt w pb T s ge) : pb < w.heap.size := heap_lt h
def seen (s : TS) (t : List UInt8) : Bool := seesB s.k s.x.data.toList t
theorem sees_at (pb : Nat) (T : ByteArray) (s : TS) (ge : Bool) (t : ByteArray) (v : Bool) (hv : seen s t.data.toList = v) (w : World) (h : PAt w pb T s ge) :
    Calls Tryz.prog 124 #[.pointer (some ⟨pb, 0, none⟩), .string t] w fun en w' => en = .returned (.bool v) ∧ w' = w := by
  subst hv; exact psees_any pb T s.i s.dv s.k s.x s.xa ge t w h
/-- From one token to the next. -/
def Nx (pb : Nat) (T : ByteArray) (s s' : TS) : Prop := GoesOn pb T s.i s.dv s'.i s'.k s'.x s'.xa ∧ s'.dv = endsB s'.k s'.x.data.toList
theorem Nx.on {pb T s s' ge w} (hn : Nx pb T s s') (h : PAt w pb T s ge) : Calls Tryz.prog 59 #[.pointer (some ⟨pb, 0, none⟩)] w fun en w' => en = .returned (.tuple #[]) ∧ PAt w' pb T s' ge ∧ Only (fun k => k = pb) w w' := by
  refine (hn.1 w _ _ _ _ h).mono ?_
  rintro en w' ⟨h1, h2, h3⟩
  refine ⟨h1, ?_, h3⟩
  unfold PAt
  rw [hn.2]
  exact h2
set_option maxHeartbeats 4000000 in
theorem oneOf_no (pb : Nat) (T : ByteArray) (s : TS) (ge : Bool) (b cap : Nat) (ss : List ByteArray) (hl : ss.length ≤ 1000) (hno : ∀ t ∈ ss, seen s t.data.toList = false) (w : World) (h : PAt w pb T s ge) (hA : ∀ (i : Nat) (t : ByteArray), ss[i]? = some t → w.cell? ⟨b, i, none⟩ = some (.string t)) :
    Calls Tryz.prog 170 #[.pointer (some ⟨pb, 0, none⟩), .slice (some ⟨b, 0, none⟩) ss.length cap] w fun en w' => en = .returned (.bool false) ∧ w' = w := by
  have HP := hide h
  have HN := hide hno
  have HA := hide hA
  clear h hno hA
  go_enter Tryz.func170, Tryz.ntmps170
  go_wp2
  go_loop [9] (fun s9 => ∃ k : Nat, s9 = .int .i64 k ∧ k ≤ ss.length) (fun s9 => ss.length - (intOf s9).toNat)
  case atStart => exact ⟨0, rfl, Nat.zero_le _⟩
  case round =>
    obtain ⟨k, rfl, hk⟩ := hrel
    by_cases hlt : k < ss.length
    · have hli : (k : Int) < (ss.length : Int) := by omega
      obtain ⟨t, ht⟩ : ∃ t, ss[k]? = some t := ⟨_, List.getElem?_eq_getElem hlt⟩
      have c0 := HA.out k t ht
      have HS := hide (sees_at pb T s ge t false (HN.out t (List.mem_of_getElem? ht)) w HP.out)
      clear ht
      go_wp2_with (go_at_call 124; refine (HS.out).mono ?_; rintro en w' ⟨rfl, rfl⟩)
      go_round
      case rel => exact ⟨k + 1, by go_num, by omega⟩
      case measure => simp [intOf]; omega
    · have hli : ¬ (k : Int) < (ss.length : Int) := by omega
      go_wp2
      go_ret
      exact ⟨rfl, rfl⟩
set_option maxHeartbeats 4000000 in
theorem passes_no (pb : Nat) (T : ByteArray) (s : TS) (ge : Bool) (t : ByteArray) (hv : seen s t.data.toList = false) (w : World) (h : PAt w pb T s ge) :
    Calls Tryz.prog 95 #[.pointer (some ⟨pb, 0, none⟩), .string t] w fun en w' => en = .returned (.bool false) ∧ w' = w := by
  have HS := hide (sees_at pb T s ge t false hv w h)
  clear h
  go_enter Tryz.func95, Tryz.ntmps95
  go_wp2_with (go_at_call 124; refine (HS.out).mono ?_; rintro en w' ⟨rfl, rfl⟩)
  go_ret
  exact ⟨rfl, rfl⟩
set_option maxHeartbeats 4000000 in
theorem passes_yes (pb : Nat) (T : ByteArray) (s s' : TS) (ge : Bool) (t : ByteArray) (hv : seen s t.data.toList = true) (hn : Nx pb T s s') (w : World) (h : PAt w pb T s ge) :
    Calls Tryz.prog 95 #[.pointer (some ⟨pb, 0, none⟩), .string t] w fun en w' => en = .returned (.bool true) ∧ PAt w' pb T s' ge ∧ Only (fun k => k = pb) w w' := by
  have HS := hide (sees_at pb T s ge t true hv w h)
  have HN := hide (hn.on h)
  clear h hn
  go_enter Tryz.func95, Tryz.ntmps95
  go_wp2_with (first | (go_at_call 124; refine (HS.out).mono ?_; rintro en w' ⟨rfl, rfl⟩) | (go_at_call 59; refine (HN.out).mono ?_; rintro en w1 ⟨rfl, hp, ho⟩))
  go_ret
  exact ⟨rfl, hp, ho⟩
set_option maxHeartbeats 4000000 in
theorem need_yes (pb : Nat) (T : ByteArray) (s s' : TS) (ge : Bool) (t : ByteArray) (hv : seen s t.data.toList = true) (hn : Nx pb T s s') (w : World) (h : PAt w pb T s ge) :
    Calls Tryz.prog 127 #[.pointer (some ⟨pb, 0, none⟩), .string t] w fun en w' => en = .returned (.tuple #[]) ∧ PAt w' pb T s' ge ∧ Only (fun k => k = pb) w w' := by
  have HS := hide (passes_yes pb T s s' ge t hv hn w h)
  clear h hn
  go_enter Tryz.func127, Tryz.ntmps127
  go_wp2_with (go_at_call 95; refine (HS.out).mono ?_; rintro en w1 ⟨rfl, hp, ho⟩)
  go_end0
  exact ⟨rfl, hp, ho⟩
set_option maxRecDepth 10000 in
set_option maxHeartbeats 4000000 in
theorem take_yes (pb : Nat) (T : ByteArray) (s s' : TS) (ge : Bool) (hn : Nx pb T s s') (w : World) (h : PAt w pb T s ge) :
    Calls Tryz.prog 126 #[.pointer (some ⟨pb, 0, none⟩)] w fun en w' => en = .returned (.agg #[.string s.x, .int .i64 s.xa]) ∧ PAt w' pb T s' ge ∧ Only (fun k => k = pb) w w' := by
  have hl := h.lt
  have r4 : w.cell? ⟨pb, 4, none⟩ = some (.string s.x) := cell_of h rfl
  have r5 : w.cell? ⟨pb, 5, none⟩ = some (.int .i64 s.xa) := cell_of h rfl
  have HP := hide h
  have HN := hide hn
  clear h hn
  go_enter Tryz.func126, Tryz.ntmps126
  go_wp2
  go_region
  all_goals
    have hp0 : PAt (((w.alloc (.cells #[.string ⟨#[]⟩, .int .i64 0] 98)).alloc (.cells #[.string s.x, .int .i64 s.xa] 98)).drew) pb T s ge := (Below.heap_alloc _ _ _ (by simp; omega)).trans ((Below.heap_alloc _ _ _ hl).trans HP.out)
    go_wp2_with fail
    refine (HN.out.on hp0).mono ?_
    rintro en w1 ⟨rfl, hp1, ho1⟩
    have hz1 : w.heap.size + 2 ≤ w1.heap.size := by have := ho1.size; simpa using this
    have hb0 : w1.heap[w.heap.size]? = some (.cells #[.string ⟨#[]⟩, .int .i64 0] 98 (0, 0)) := (ho1.block w.heap.size (by simp; omega) (by intro e; omega)).trans ((Below.heap_alloc _ _ _ (by simp)).trans (new0 w _))
    have hb1 : w1.heap[w.heap.size + 1]? = some (.cells #[.string s.x, .int .i64 s.xa] 98 (0, 0)) := (ho1.block (w.heap.size + 1) (by simp) (by intro e; omega)).trans (new_at2 (by simp) _)
    have q0 : w1.cell? ⟨w.heap.size, 0, none⟩ = some (.string ⟨#[]⟩) := cell_of hb0 rfl
    have q1 : w1.cell? ⟨w.heap.size, 1, none⟩ = some (.int .i64 0) := cell_of hb0 rfl
    have qf := free_of hb0
    have t0 : w1.cell? ⟨w.heap.size + 1, 0, none⟩ = some (.string s.x) := cell_of hb1 rfl
    have t1 : w1.cell? ⟨w.heap.size + 1, 1, none⟩ = some (.int .i64 s.xa) := cell_of hb1 rfl
    have HP1 := hide hp1
    have HO1 : Hid (Only (fun k => k = pb) w w1) := ((((Only.refl _ w).alloc _).alloc _).drewN 1).trans ho1 (fun _ _ e => e)
    have hpn : pb ≠ w.heap.size := by omega
    clear hp0 hp1 ho1 hb0 hb1
    go_wp2
    refine bodyPost_ret (v := .agg #[.string s.x, .int .i64 s.xa]) (by simp [results, Tryz.results126, go_sem, q0, q1]) rfl ⟨rfl, ?_, ?_⟩
    · show _ = _
      rw [Below.heap_setCell _ _ _ _ hpn, Below.heap_setCell _ _ _ _ hpn]
      exact HP1.out
    · exact (HO1.out.setCell (p := ⟨w.heap.size, 0, none⟩) (fun h => absurd h (Nat.lt_irrefl _)) _).setCell (p := ⟨w.heap.size, 1, none⟩) (fun h => absurd h (Nat.lt_irrefl _)) _
end Go.Proofs.YthkknpjoifoanaaGreatDoor

namespace Go.Proofs.YthkknpjoifoanaaGreatDoor
open Go.RowKit
/-- What a part of the parser reads: from s to s', a tree that V tells. -/
def Reads (f : Nat) (pb : Nat) (T : ByteArray) (ge : Bool) (s s' : TS) (V : World → Value → Prop) : Prop :=
  ∀ w, PAt w pb T s ge → Calls Tryz.prog f #[.pointer (some ⟨pb, 0, none⟩)] w fun en w' => ∃ v, en = .returned v ∧ V w' v ∧ PAt w' pb T s' ge ∧ Only (fun k => k = pb) w w'
/-- What V tells stands while only the parser's block turns. -/
def Stab (pb : Nat) (V : World → Value → Prop) : Prop := ∀ w w' v, V w v → Only (fun k => k = pb) w w' → V w' v
theorem callFunc_in {f : FuncId} {fn : Func} {c : Code} (hf : Tryz.prog.funcs[f]? = some fn) (hname : (fn.name == "runtime.NumGoroutine") = false) (hb : fn.body = some c) (args : Array Value) (w : World) :
    (callFunc f args).run Tryz.prog w = .ok (.enter f args) w := by
  have h1 : fn.name ≠ "runtime.NumGoroutine" := by simpa using hname
  simp [callFunc, hf, h1, hb]
theorem cf438 (args : Array Value) (w : World) : (callFunc 242 args).run Tryz.prog w = .ok (.enter 242 args) w := callFunc_in Tryz.func242 (by kernel_rfl) rfl args w
theorem cf546 (args : Array Value) (w : World) : (callFunc 348 args).run Tryz.prog w = .ok (.enter 348 args) w := callFunc_in Tryz.func348 (by kernel_rfl) rfl args w
theorem cf606 (args : Array Value) (w : World) : (callFunc 413 args).run Tryz.prog w = .ok (.enter 413 args) w := callFunc_in Tryz.func413 (by kernel_rfl) rfl args w
theorem cf603 (args : Array Value) (w : World) : (callFunc 410 args).run Tryz.prog w = .ok (.enter 410 args) w := callFunc_in Tryz.func410 (by kernel_rfl) rfl args w
theorem cf645 (args : Array Value) (w : World) : (callFunc 466 args).run Tryz.prog w = .ok (.enter 466 args) w := callFunc_in Tryz.func466 (by kernel_rfl) rfl args w
theorem cf650 (args : Array Value) (w : World) : (callFunc 476 args).run Tryz.prog w = .ok (.enter 476 args) w := callFunc_in Tryz.func476 (by kernel_rfl) rfl args w
set_option maxRecDepth 20000 in
set_option maxHeartbeats 4000000 in
theorem row_no (f1 : Nat) (hcf : ∀ (args : Array Value) (w : World), (callFunc f1 args).run Tryz.prog w = .ok (.enter f1 args) w) (pb : Nat) (T : ByteArray) (ge : Bool) (s s' : TS) (V : World → Value → Prop) (hV : Stab pb V) (h1 : Reads f1 pb T ge s s' V) (ss : List ByteArray) (hl : ss.length ≤ 1000) (hno : ∀ t ∈ ss, seen s' t.data.toList = false)
    (b cap : Nat) (w : World) (h : PAt w pb T s ge) (hb : b < w.heap.size) (hbp : b ≠ pb) (hA : ∀ (i : Nat) (t : ByteArray), ss[i]? = some t → w.cell? ⟨b, i, none⟩ = some (.string t)) :
    Calls Tryz.prog 241 #[.pointer (some ⟨pb, 0, none⟩), .func (.func f1) #[.pointer (some ⟨pb, 0, none⟩)] #[], .slice (some ⟨b, 0, none⟩) ss.length cap] w fun en w' => ∃ v, en = .returned v ∧ V w' v ∧ PAt w' pb T s' ge ∧ Only (fun k => k = pb) w w' := by
  have H1 := hide (h1 w h)
  have HN := hide hno
  have HA := hide hA
  have HV := hide hV
  clear hno hA hV h1 h
  go_enter Tryz.func241, Tryz.ntmps241
  go_wp2_with fail
  refine (H1.out).mono ?_
  rintro en w1 ⟨v, rfl, hv, hp, ho⟩
  have HS := hide (oneOf_no pb T s' ge b cap ss hl HN.out w1 hp (fun i t ht => (ho.cell (p := ⟨b, i, none⟩) hb hbp).trans (HA.out i t ht)))
  have Hv := hide hv
  have HP := hide hp
  have HO := hide ho
  clear hv hp ho
  go_wp2
  go_loop [7] (fun s7 => s7 = v) (fun _ => 0)
  case atStart => exact rfl
  case round =>
    subst hrel
    go_wp2_with (go_at_call 170; refine (HS.out).mono ?_; rintro en w2 ⟨rfl, rfl⟩)
    go_ret
    exact ⟨_, rfl, Hv.out, HP.out, HO.out⟩
set_option maxRecDepth 20000 in
set_option maxHeartbeats 4000000 in
theorem pair_no (f1 : Nat) (hcf : ∀ (args : Array Value) (w : World), (callFunc f1 args).run Tryz.prog w = .ok (.enter f1 args) w) (pb : Nat) (T : ByteArray) (ge : Bool) (s s' : TS) (V : World → Value → Prop) (hV : Stab pb V) (h1 : Reads f1 pb T ge s s' V) (ss : List ByteArray) (hl : ss.length ≤ 1000) (hno : ∀ t ∈ ss, seen s' t.data.toList = false)
    (b cap : Nat) (w : World) (h : PAt w pb T s ge) (hb : b < w.heap.size) (hbp : b ≠ pb) (hA : ∀ (i : Nat) (t : ByteArray), ss[i]? = some t → w.cell? ⟨b, i, none⟩ = some (.string t)) :
    Calls Tryz.prog 412 #[.pointer (some ⟨pb, 0, none⟩), .func (.func f1) #[.pointer (some ⟨pb, 0, none⟩)] #[], .slice (some ⟨b, 0, none⟩) ss.length cap] w fun en w' => ∃ v, en = .returned v ∧ V w' v ∧ PAt w' pb T s' ge ∧ Only (fun k => k = pb) w w' := by
  have H1 := hide (h1 w h)
  have HN := hide hno
  have HA := hide hA
  have HV := hide hV
  clear hno hA hV h1 h
  go_enter Tryz.func412, Tryz.ntmps412
  go_wp2_with fail
  refine (H1.out).mono ?_
  rintro en w1 ⟨v, rfl, hv, hp, ho⟩
  have HS := hide (oneOf_no pb T s' ge b cap ss hl HN.out w1 hp (fun i t ht => (ho.cell (p := ⟨b, i, none⟩) hb hbp).trans (HA.out i t ht)))
  have Hv := hide hv
  have HP := hide hp
  have HO := hide ho
  clear hv hp ho
  go_wp2_with (go_at_call 170; refine (HS.out).mono ?_; rintro en w2 ⟨rfl, rfl⟩)
  go_ret
  exact ⟨_, rfl, Hv.out, HP.out, HO.out⟩
end Go.Proofs.YthkknpjoifoanaaGreatDoor

namespace Go.Proofs.YthkknpjoifoanaaGreatDoor
open Go.RowKit
def opS : List (List UInt8) := [[124, 124], [38, 38], [126], [33, 126], [105, 110], [60], [60, 61], [61, 61], [33, 61], [62, 61], [62], [43], [45], [42], [47], [37], [36], [40], [63], [61], [43, 61], [45, 61], [42, 61], [47, 61], [37, 61]]
/-- A token with which an expression has ended. -/
def Ends (s : TS) : Prop := (∀ t ∈ opS, seen s t = false) ∧ ¬ s.k = 2 ∧ ¬ s.k = 3 ∧ ¬ s.k = 5 ∧ ¬ s.k = 6 ∧ ¬ s.k = 8
theorem Reads.alloc_at {w : World} {pb : Nat} {T : ByteArray} {s : TS} {ge : Bool} (h : PAt w pb T s ge) (o : Obj) : PAt (w.alloc o) pb T s ge := (Below.heap_alloc _ _ _ (heap_lt h)).trans h
theorem strs_new (w : World) (ss : List ByteArray) : ∀ (i : Nat) (t : ByteArray), ss[i]? = some t → (w.alloc (.cells (ss.map Value.string).toArray 9)).cell? ⟨w.heap.size, i, none⟩ = some (.string t) := fun i t ht => cell_of (new0 w _) (by rw [List.getElem?_toArray, List.getElem?_map, ht]; rfl)
set_option maxRecDepth 20000 in
set_option maxHeartbeats 4000000 in
theorem either_rd (pb : Nat) (T : ByteArray) (ge : Bool) (s s' : TS) (V : World → Value → Prop) (hV : Stab pb V) (he : Ends s') (h1 : Reads 242 pb T ge s s' V) : Reads 168 pb T ge s s' V := by
  intro w h
  have hl := h.lt
  have HR : Hid (Calls Tryz.prog 241 #[.pointer (some ⟨pb, 0, none⟩), .func (.func 242) #[.pointer (some ⟨pb, 0, none⟩)] #[], .slice (some ⟨w.heap.size, 0, none⟩) 1 1] (w.alloc (.cells #[.string ⟨#[124, 124]⟩] 9)) fun en w' => ∃ v, en = .returned v ∧ V w' v ∧ PAt w' pb T s' ge ∧ Only (fun k => k = pb) (w.alloc (.cells #[.string ⟨#[124, 124]⟩] 9)) w') :=
    row_no 242 cf438 pb T ge s s' V hV h1 [⟨#[124, 124]⟩] (by decide) (fun t ht => he.1 t.data.toList (by simp at ht; subst ht; decide)) w.heap.size 1 _ (Reads.alloc_at h _) (by simp) (by omega) (strs_new w [⟨#[124, 124]⟩])
  clear he hV h1 h
  go_enter Tryz.func168, Tryz.ntmps168
  go_wp2_with (go_at_call 241; refine (HR.out).mono ?_; rintro en w1 ⟨v, rfl, hv, hp, ho⟩; have Hv := hide hv; have HP := hide hp; have HO : Hid (Only (fun k => k = pb) w w1) := ((Only.refl _ w).alloc _).trans ho (fun _ _ e => e); clear hv hp ho)
  go_ret
  exact ⟨_, rfl, Hv.out, HP.out, HO.out⟩
set_option maxRecDepth 20000 in
set_option maxHeartbeats 4000000 in
theorem both_rd (pb : Nat) (T : ByteArray) (ge : Bool) (s s' : TS) (V : World → Value → Prop) (hV : Stab pb V) (he : Ends s') (h1 : Reads 348 pb T ge s s' V) : Reads 242 pb T ge s s' V := by
  intro w h
  have hl := h.lt
  have HR : Hid (Calls Tryz.prog 241 #[.pointer (some ⟨pb, 0, none⟩), .func (.func 348) #[.pointer (some ⟨pb, 0, none⟩)] #[], .slice (some ⟨w.heap.size, 0, none⟩) 1 1] (w.alloc (.cells #[.string ⟨#[38, 38]⟩] 9)) fun en w' => ∃ v, en = .returned v ∧ V w' v ∧ PAt w' pb T s' ge ∧ Only (fun k => k = pb) (w.alloc (.cells #[.string ⟨#[38, 38]⟩] 9)) w') :=
    row_no 348 cf546 pb T ge s s' V hV h1 [⟨#[38, 38]⟩] (by decide) (fun t ht => he.1 t.data.toList (by simp at ht; subst ht; decide)) w.heap.size 1 _ (Reads.alloc_at h _) (by simp) (by omega) (strs_new w [⟨#[38, 38]⟩])
  clear he hV h1 h
  go_enter Tryz.func242, Tryz.ntmps242
  go_wp2_with (go_at_call 241; refine (HR.out).mono ?_; rintro en w1 ⟨v, rfl, hv, hp, ho⟩; have Hv := hide hv; have HP := hide hp; have HO : Hid (Only (fun k => k = pb) w w1) := ((Only.refl _ w).alloc _).trans ho (fun _ _ e => e); clear hv hp ho)
  go_ret
  exact ⟨_, rfl, Hv.out, HP.out, HO.out⟩
set_option maxRecDepth 20000 in
set_option maxHeartbeats 4000000 in
theorem sum_rd (pb : Nat) (T : ByteArray) (ge : Bool) (s s' : TS) (V : World → Value → Prop) (hV : Stab pb V) (he : Ends s') (h1 : Reads 466 pb T ge s s' V) : Reads 442 pb T ge s s' V := by
  intro w h
  have hl := h.lt
  have HR : Hid (Calls Tryz.prog 241 #[.pointer (some ⟨pb, 0, none⟩), .func (.func 466) #[.pointer (some ⟨pb, 0, none⟩)] #[], .slice (some ⟨w.heap.size, 0, none⟩) 2 2] (w.alloc (.cells #[.string ⟨#[43]⟩, .string ⟨#[45]⟩] 9)) fun en w' => ∃ v, en = .returned v ∧ V w' v ∧ PAt w' pb T s' ge ∧ Only (fun k => k = pb) (w.alloc (.cells #[.string ⟨#[43]⟩, .string ⟨#[45]⟩] 9)) w') :=
    row_no 466 cf645 pb T ge s s' V hV h1 [⟨#[43]⟩, ⟨#[45]⟩] (by decide) (fun t ht => he.1 t.data.toList (by simp at ht; rcases ht with rfl | rfl <;> decide)) w.heap.size 2 _ (Reads.alloc_at h _) (by simp) (by omega) (strs_new w [⟨#[43]⟩, ⟨#[45]⟩])
  clear he hV h1 h
  go_enter Tryz.func442, Tryz.ntmps442
  go_wp2_with (go_at_call 241; refine (HR.out).mono ?_; rintro en w1 ⟨v, rfl, hv, hp, ho⟩; have Hv := hide hv; have HP := hide hp; have HO : Hid (Only (fun k => k = pb) w w1) := ((Only.refl _ w).alloc _).trans ho (fun _ _ e => e); clear hv hp ho)
  go_ret
  exact ⟨_, rfl, Hv.out, HP.out, HO.out⟩
set_option maxRecDepth 20000 in
set_option maxHeartbeats 4000000 in
theorem product_rd (pb : Nat) (T : ByteArray) (ge : Bool) (s s' : TS) (V : World → Value → Prop) (hV : Stab pb V) (he : Ends s') (h1 : Reads 476 pb T ge s s' V) : Reads 466 pb T ge s s' V := by
  intro w h
  have hl := h.lt
  have HR : Hid (Calls Tryz.prog 241 #[.pointer (some ⟨pb, 0, none⟩), .func (.func 476) #[.pointer (some ⟨pb, 0, none⟩)] #[], .slice (some ⟨w.heap.size, 0, none⟩) 3 3] (w.alloc (.cells #[.string ⟨#[42]⟩, .string ⟨#[47]⟩, .string ⟨#[37]⟩] 9)) fun en w' => ∃ v, en = .returned v ∧ V w' v ∧ PAt w' pb T s' ge ∧ Only (fun k => k = pb) (w.alloc (.cells #[.string ⟨#[42]⟩, .string ⟨#[47]⟩, .string ⟨#[37]⟩] 9)) w') :=
    row_no 476 cf650 pb T ge s s' V hV h1 [⟨#[42]⟩, ⟨#[47]⟩, ⟨#[37]⟩] (by decide) (fun t ht => he.1 t.data.toList (by simp at ht; rcases ht with rfl | rfl | rfl <;> decide)) w.heap.size 3 _ (Reads.alloc_at h _) (by simp) (by omega) (strs_new w [⟨#[42]⟩, ⟨#[47]⟩, ⟨#[37]⟩])
  clear he hV h1 h
  go_enter Tryz.func466, Tryz.ntmps466
  go_wp2_with (go_at_call 241; refine (HR.out).mono ?_; rintro en w1 ⟨v, rfl, hv, hp, ho⟩; have Hv := hide hv; have HP := hide hp; have HO : Hid (Only (fun k => k = pb) w w1) := ((Only.refl _ w).alloc _).trans ho (fun _ _ e => e); clear hv hp ho)
  go_ret
  exact ⟨_, rfl, Hv.out, HP.out, HO.out⟩
end Go.Proofs.YthkknpjoifoanaaGreatDoor

namespace Go.Proofs.YthkknpjoifoanaaGreatDoor
open Go.RowKit
set_option maxRecDepth 20000 in
set_option maxHeartbeats 4000000 in
theorem matched_rd (pb : Nat) (T : ByteArray) (ge : Bool) (s s' : TS) (V : World → Value → Prop) (hV : Stab pb V) (he : Ends s') (h1 : Reads 413 pb T ge s s' V) : Reads 348 pb T ge s s' V := by
  intro w h
  have hl := h.lt
  have HR : Hid (Calls Tryz.prog 412 #[.pointer (some ⟨pb, 0, none⟩), .func (.func 413) #[.pointer (some ⟨pb, 0, none⟩)] #[], .slice (some ⟨w.heap.size, 0, none⟩) 2 2] (w.alloc (.cells #[.string ⟨#[126]⟩, .string ⟨#[33, 126]⟩] 9)) fun en w' => ∃ v, en = .returned v ∧ V w' v ∧ PAt w' pb T s' ge ∧ Only (fun k => k = pb) (w.alloc (.cells #[.string ⟨#[126]⟩, .string ⟨#[33, 126]⟩] 9)) w') :=
    pair_no 413 cf606 pb T ge s s' V hV h1 [⟨#[126]⟩, ⟨#[33, 126]⟩] (by decide) (fun t ht => he.1 t.data.toList (by simp at ht; rcases ht with rfl | rfl <;> decide)) w.heap.size 2 _ (Reads.alloc_at h _) (by simp) (by omega) (strs_new w [⟨#[126]⟩, ⟨#[33, 126]⟩])
  have hin : seen s' [105, 110] = false := he.1 _ (by decide)
  clear he hV h1 h
  go_enter Tryz.func348, Tryz.ntmps348
  go_wp2_with fail
  refine (HR.out).mono ?_
  rintro en w1 ⟨v, rfl, hv, hp, ho⟩
  have HPs := hide (passes_no pb T s' ge ⟨#[105, 110]⟩ hin w1 hp)
  have Hv := hide hv
  have HP := hide hp
  have HO : Hid (Only (fun k => k = pb) w w1) := ((Only.refl _ w).alloc _).trans ho (fun _ _ e => e)
  clear hv hp ho HR
  go_wp2
  go_loop [3] (fun s3 => s3 = v) (fun _ => 0)
  case atStart => exact rfl
  case round =>
    subst hrel
    go_wp2_with (go_at_call 95; refine (HPs.out).mono ?_; rintro en w2 ⟨rfl, rfl⟩)
    go_ret
    exact ⟨_, rfl, Hv.out, HP.out, HO.out⟩
set_option maxRecDepth 20000 in
set_option maxHeartbeats 4000000 in
theorem compared_rd (pb : Nat) (T : ByteArray) (ge : Bool) (s s' : TS) (V : World → Value → Prop) (hV : Stab pb V) (he : Ends s') (h1 : Reads 410 pb T ge s s' V) : Reads 413 pb T ge s s' V := by
  intro w h
  have hl := h.lt
  have r6 : w.cell? ⟨pb, 6, none⟩ = some (.bool ge) := cell_of h rfl
  cases ge with
  | true =>
    have HR : Hid (Calls Tryz.prog 412 #[.pointer (some ⟨pb, 0, none⟩), .func (.func 410) #[.pointer (some ⟨pb, 0, none⟩)] #[], .slice (some ⟨w.heap.size, 0, none⟩) 5 5] (w.alloc (.cells #[.string ⟨#[60]⟩, .string ⟨#[60, 61]⟩, .string ⟨#[61, 61]⟩, .string ⟨#[33, 61]⟩, .string ⟨#[62, 61]⟩] 9)) fun en w' => ∃ v, en = .returned v ∧ V w' v ∧ PAt w' pb T s' true ∧ Only (fun k => k = pb) (w.alloc (.cells #[.string ⟨#[60]⟩, .string ⟨#[60, 61]⟩, .string ⟨#[61, 61]⟩, .string ⟨#[33, 61]⟩, .string ⟨#[62, 61]⟩] 9)) w') :=
      pair_no 410 cf603 pb T true s s' V hV h1 [⟨#[60]⟩, ⟨#[60, 61]⟩, ⟨#[61, 61]⟩, ⟨#[33, 61]⟩, ⟨#[62, 61]⟩] (by decide) (fun t ht => he.1 t.data.toList (by simp at ht; rcases ht with rfl | rfl | rfl | rfl | rfl <;> decide)) w.heap.size 5 _ (Reads.alloc_at h _) (by simp) (by omega) (strs_new w [⟨#[60]⟩, ⟨#[60, 61]⟩, ⟨#[61, 61]⟩, ⟨#[33, 61]⟩, ⟨#[62, 61]⟩])
    clear he hV h1 h
    go_enter Tryz.func413, Tryz.ntmps413
    go_wp2_with (go_at_call 412; refine (HR.out).mono ?_; rintro en w1 ⟨v, rfl, hv, hp, ho⟩; have Hv := hide hv; have HP := hide hp; have HO : Hid (Only (fun k => k = pb) w w1) := ((Only.refl _ w).alloc _).trans ho (fun _ _ e => e); clear hv hp ho)
    go_ret
    exact ⟨_, rfl, Hv.out, HP.out, HO.out⟩
  | false =>
    have HR : Hid (Calls Tryz.prog 412 #[.pointer (some ⟨pb, 0, none⟩), .func (.func 410) #[.pointer (some ⟨pb, 0, none⟩)] #[], .slice (some ⟨w.heap.size, 0, none⟩) 6 6] (w.alloc (.cells #[.string ⟨#[60]⟩, .string ⟨#[60, 61]⟩, .string ⟨#[61, 61]⟩, .string ⟨#[33, 61]⟩, .string ⟨#[62, 61]⟩, .string ⟨#[62]⟩] 9)) fun en w' => ∃ v, en = .returned v ∧ V w' v ∧ PAt w' pb T s' false ∧ Only (fun k => k = pb) (w.alloc (.cells #[.string ⟨#[60]⟩, .string ⟨#[60, 61]⟩, .string ⟨#[61, 61]⟩, .string ⟨#[33, 61]⟩, .string ⟨#[62, 61]⟩, .string ⟨#[62]⟩] 9)) w') :=
      pair_no 410 cf603 pb T false s s' V hV h1 [⟨#[60]⟩, ⟨#[60, 61]⟩, ⟨#[61, 61]⟩, ⟨#[33, 61]⟩, ⟨#[62, 61]⟩, ⟨#[62]⟩] (by decide) (fun t ht => he.1 t.data.toList (by simp at ht; rcases ht with rfl | rfl | rfl | rfl | rfl | rfl <;> decide)) w.heap.size 6 _ (Reads.alloc_at h _) (by simp) (by omega) (strs_new w [⟨#[60]⟩, ⟨#[60, 61]⟩, ⟨#[61, 61]⟩, ⟨#[33, 61]⟩, ⟨#[62, 61]⟩, ⟨#[62]⟩])
    clear he hV h1 h
    go_enter Tryz.func413, Tryz.ntmps413
    go_wp2_with (go_at_call 412; refine (HR.out).mono ?_; rintro en w1 ⟨v, rfl, hv, hp, ho⟩; have Hv := hide hv; have HP := hide hp; have HO : Hid (Only (fun k => k = pb) w w1) := ((Only.refl _ w).alloc _).trans ho (fun _ _ e => e); clear hv hp ho)
    go_ret
    exact ⟨_, rfl, Hv.out, HP.out, HO.out⟩
set_option maxRecDepth 20000 in
set_option maxHeartbeats 4000000 in
theorem joinsOn_no (pb : Nat) (T : ByteArray) (ge : Bool) (s : TS) (he : Ends s) (w : World) (h : PAt w pb T s ge) :
    Calls Tryz.prog 443 #[.pointer (some ⟨pb, 0, none⟩)] w fun en w' => en = .returned (.bool false) ∧ Only (fun _ => False) w w' := by
  have r3 : w.cell? ⟨pb, 3, none⟩ = some (.int .i64 s.k) := cell_of h rfl
  have hl := h.lt
  obtain ⟨h0, h2, h3, h5, h6, h8⟩ := he
  have d2 : ((s.k : Int) == 2) = false := by rw [beq_eq_false_iff_ne]; omega
  have d3 : ((s.k : Int) == 3) = false := by rw [beq_eq_false_iff_ne]; omega
  have d5 : ((s.k : Int) == 5) = false := by rw [beq_eq_false_iff_ne]; omega
  have d6 : ((s.k : Int) == 6) = false := by rw [beq_eq_false_iff_ne]; omega
  have d8 : ((s.k : Int) == 8) = false := by rw [beq_eq_false_iff_ne]; omega
  have HS := hide (oneOf_no pb T s ge w.heap.size 2 [⟨#[36]⟩, ⟨#[40]⟩] (by decide) (fun t ht => h0 t.data.toList (by simp at ht; rcases ht with rfl | rfl <;> decide)) _ (Reads.alloc_at h _) (strs_new w [⟨#[36]⟩, ⟨#[40]⟩]))
  clear h0 h2 h3 h5 h6 h8 h
  go_enter Tryz.func443, Tryz.ntmps443
  go_wp2_with (go_at_call 170; refine (HS.out).mono ?_; rintro en w2 ⟨rfl, rfl⟩)
  go_ret
  exact ⟨rfl, (Only.refl _ w).alloc _⟩
set_option maxRecDepth 20000 in
set_option maxHeartbeats 4000000 in
theorem joined_rd (pb : Nat) (T : ByteArray) (ge : Bool) (s s' : TS) (V : World → Value → Prop) (hV : Stab pb V) (he : Ends s') (h1 : Reads 442 pb T ge s s' V) : Reads 410 pb T ge s s' V := by
  intro w h
  have HR := hide (h1 w h)
  have HE := hide he
  have HV := hide hV
  clear he hV h1 h
  go_enter Tryz.func410, Tryz.ntmps410
  go_wp2_with fail
  refine (HR.out).mono ?_
  rintro en w1 ⟨v, rfl, hv, hp, ho⟩
  have HJ := hide (joinsOn_no pb T ge s' HE.out w1 hp)
  have Hv := hide hv
  have HP := hide hp
  have HO := hide ho
  have hl1 := hp.lt
  clear hv hp ho HR
  go_wp2
  go_loop [3] (fun s3 => s3 = v) (fun _ => 0)
  case atStart => exact rfl
  case round =>
    subst hrel
    go_wp2_with (go_at_call 443; refine (HJ.out).mono ?_; rintro en w2 ⟨rfl, ho2⟩; have HO2 := hide ho2; clear ho2)
    go_ret
    exact ⟨_, rfl, HV.out _ _ _ Hv.out (HO2.out.mono (fun _ _ e => e.elim)), HP.out.only HO2.out (fun e => e), HO.out.trans HO2.out (fun _ _ e => e.elim)⟩
set_option maxRecDepth 20000 in
set_option maxHeartbeats 4000000 in
theorem unary_rd (pb : Nat) (T : ByteArray) (ge : Bool) (s s' : TS) (V : World → Value → Prop) (hs : seen s [33] = false ∧ seen s [45] = false ∧ seen s [43] = false) (h1 : Reads 480 pb T ge s s' V) : Reads 476 pb T ge s s' V := by
  intro w h
  have hl := h.lt
  have HS := hide (oneOf_no pb T s ge w.heap.size 3 [⟨#[33]⟩, ⟨#[45]⟩, ⟨#[43]⟩] (by decide) (fun t ht => by simp at ht; rcases ht with rfl | rfl | rfl; exact hs.1; exact hs.2.1; exact hs.2.2) _ (Reads.alloc_at h _) (strs_new w [⟨#[33]⟩, ⟨#[45]⟩, ⟨#[43]⟩]))
  have HR := hide (h1 _ (Reads.alloc_at h (.cells #[.string ⟨#[33]⟩, .string ⟨#[45]⟩, .string ⟨#[43]⟩] 9)))
  clear hs h1 h
  go_enter Tryz.func476, Tryz.ntmps476
  go_wp2_with (first | (go_at_call 170; refine (HS.out).mono ?_; rintro en w2 ⟨rfl, rfl⟩) | (go_at_call 480; refine (HR.out).mono ?_; rintro en w1 ⟨v, rfl, hv, hp, ho⟩; have Hv := hide hv; have HP := hide hp; have HO : Hid (Only (fun k => k = pb) w w1) := ((Only.refl _ w).alloc _).trans ho (fun _ _ e => e); clear hv hp ho))
  go_ret
  exact ⟨_, rfl, Hv.out, HP.out, HO.out⟩
/-- All levels of an expression that is one unit. -/
theorem either_of (pb : Nat) (T : ByteArray) (ge : Bool) (s s' : TS) (V : World → Value → Prop) (hV : Stab pb V) (he : Ends s') (hs : seen s [33] = false ∧ seen s [45] = false ∧ seen s [43] = false) (h1 : Reads 480 pb T ge s s' V) : Reads 168 pb T ge s s' V :=
  either_rd pb T ge s s' V hV he (both_rd pb T ge s s' V hV he (matched_rd pb T ge s s' V hV he (compared_rd pb T ge s s' V hV he (joined_rd pb T ge s s' V hV he (sum_rd pb T ge s s' V hV he (product_rd pb T ge s s' V hV he (unary_rd pb T ge s s' V hs h1)))))))
theorem onlyA (w : World) (o : Obj) : Only (fun _ => False) w (w.alloc o) := (Only.refl _ w).alloc o
/-- Is the tree a place? -/
def IsPl (V : World → Value → Prop) (p : Bool) : Prop := ∀ w v, V w v → Calls Tryz.prog 169 #[v] w fun en w' => en = .returned (.bool p) ∧ w' = w
set_option maxRecDepth 20000 in
set_option maxHeartbeats 4000000 in
theorem expr_rd (pb : Nat) (T : ByteArray) (ge : Bool) (s s' : TS) (V : World → Value → Prop) (p : Bool) (hI : IsPl V p) (hV : Stab pb V) (he : Ends s') (h1 : Reads 168 pb T ge s s' V) : Reads 130 pb T ge s s' V := by
  intro w h
  have HR := hide (h1 w h)
  have HE := hide he
  have HV := hide hV
  have HI := hide hI
  clear he hV h1 h hI
  go_enter Tryz.func130, Tryz.ntmps130
  go_wp2_with fail
  refine (HR.out).mono ?_
  rintro en w1 ⟨v, rfl, hv, hp, ho⟩
  have hl1 := hp.lt
  have HPs := hide (passes_no pb T s' ge ⟨#[63]⟩ (HE.out.1 _ (by decide)) w1 hp)
  have HIs := hide (HI.out w1 v hv)
  have HS := hide (oneOf_no pb T s' ge w1.heap.size 6 [⟨#[61]⟩, ⟨#[43, 61]⟩, ⟨#[45, 61]⟩, ⟨#[42, 61]⟩, ⟨#[47, 61]⟩, ⟨#[37, 61]⟩] (by decide) (fun t ht => HE.out.1 t.data.toList (by simp at ht; rcases ht with rfl | rfl | rfl | rfl | rfl | rfl <;> decide)) _ (Reads.alloc_at hp _) (strs_new w1 [⟨#[61]⟩, ⟨#[43, 61]⟩, ⟨#[45, 61]⟩, ⟨#[42, 61]⟩, ⟨#[47, 61]⟩, ⟨#[37, 61]⟩]))
  have Hv := hide hv
  have HP := hide hp
  have HO := hide ho
  clear hv hp ho HR HI
  cases p with
  | true =>
    go_wp2_with (first | (go_at_call 95; refine (HPs.out).mono ?_; rintro en w2 ⟨rfl, rfl⟩) | (go_at_call 169; refine (HIs.out).mono ?_; rintro en w2 ⟨rfl, rfl⟩) | (go_at_call 170; refine (HS.out).mono ?_; rintro en w2 ⟨rfl, rfl⟩))
    go_ret
    exact ⟨_, rfl, HV.out _ _ _ Hv.out ((onlyA _ _).mono (fun _ _ e => e.elim)), HP.out.only (onlyA _ _) (fun e => e), HO.out.trans (onlyA _ _) (fun _ _ e => e.elim)⟩
  | false =>
    go_wp2_with (first | (go_at_call 95; refine (HPs.out).mono ?_; rintro en w2 ⟨rfl, rfl⟩) | (go_at_call 169; refine (HIs.out).mono ?_; rintro en w2 ⟨rfl, rfl⟩))
    go_ret
    exact ⟨_, rfl, Hv.out, HP.out, HO.out⟩
end Go.Proofs.YthkknpjoifoanaaGreatDoor

namespace Go.Proofs.YthkknpjoifoanaaGreatDoor
open Go.RowKit
def nameV (x : ByteArray) (a : Nat) : Value := .iface 98 (.agg #[.string x, .int .i64 a])
def strT (x : ByteArray) : Value := .iface 300 (.agg #[.string x])
def patT (x : ByteArray) : Value := .iface 301 (.agg #[.string x])
theorem fld188 (x : ByteArray) (a : Int) (w : World) : (Instr.field 98 (.agg #[.string x, .int .i64 a]) 0).run Tryz.prog w = .ok (.string x) w := by kernel_rfl
theorem ta_name_name (v : Value) (w : World) : (Instr.typeAssert (.iface 98 v) 238 98 true).run Tryz.prog w = .ok (.tuple #[v, .bool true]) w := by kernel_rfl
theorem ta_name_elem (v : Value) (w : World) : (Instr.typeAssert (.iface 98 v) 238 303 true).run Tryz.prog w = .ok (.tuple #[.agg #[.string ⟨#[]⟩, .int .i64 0, .slice none 0 0], .bool false]) w := by kernel_rfl
theorem ta_name_field (v : Value) (w : World) : (Instr.typeAssert (.iface 98 v) 238 306 true).run Tryz.prog w = .ok (.tuple #[.agg #[.nilIface], .bool false]) w := by kernel_rfl
theorem ta_str_name (v : Value) (w : World) : (Instr.typeAssert (.iface 300 v) 238 98 true).run Tryz.prog w = .ok (.tuple #[.agg #[.string ⟨#[]⟩, .int .i64 0], .bool false]) w := by kernel_rfl
theorem ta_str_elem (v : Value) (w : World) : (Instr.typeAssert (.iface 300 v) 238 303 true).run Tryz.prog w = .ok (.tuple #[.agg #[.string ⟨#[]⟩, .int .i64 0, .slice none 0 0], .bool false]) w := by kernel_rfl
theorem ta_str_field (v : Value) (w : World) : (Instr.typeAssert (.iface 300 v) 238 306 true).run Tryz.prog w = .ok (.tuple #[.agg #[.nilIface], .bool false]) w := by kernel_rfl
theorem ta_pat_name (v : Value) (w : World) : (Instr.typeAssert (.iface 301 v) 238 98 true).run Tryz.prog w = .ok (.tuple #[.agg #[.string ⟨#[]⟩, .int .i64 0], .bool false]) w := by kernel_rfl
theorem ta_pat_elem (v : Value) (w : World) : (Instr.typeAssert (.iface 301 v) 238 303 true).run Tryz.prog w = .ok (.tuple #[.agg #[.string ⟨#[]⟩, .int .i64 0, .slice none 0 0], .bool false]) w := by kernel_rfl
theorem ta_pat_field (v : Value) (w : World) : (Instr.typeAssert (.iface 301 v) 238 306 true).run Tryz.prog w = .ok (.tuple #[.agg #[.nilIface], .bool false]) w := by kernel_rfl
theorem ta_own_name (v : Value) (w : World) : (Instr.typeAssert (.iface 309 v) 238 98 true).run Tryz.prog w = .ok (.tuple #[.agg #[.string ⟨#[]⟩, .int .i64 0], .bool false]) w := by kernel_rfl
theorem ta_own_elem (v : Value) (w : World) : (Instr.typeAssert (.iface 309 v) 238 303 true).run Tryz.prog w = .ok (.tuple #[.agg #[.string ⟨#[]⟩, .int .i64 0, .slice none 0 0], .bool false]) w := by kernel_rfl
theorem ta_own_field (v : Value) (w : World) : (Instr.typeAssert (.iface 309 v) 238 306 true).run Tryz.prog w = .ok (.tuple #[.agg #[.nilIface], .bool false]) w := by kernel_rfl
/-- A tree that is one value. -/
def Is (v : Value) : World → Value → Prop := fun _ u => u = v
theorem is_stab (pb : Nat) (v : Value) : Stab pb (Is v) := fun _ _ _ h _ => h
set_option maxRecDepth 20000 in
set_option maxHeartbeats 4000000 in
theorem place_name (x : ByteArray) (a : Nat) : IsPl (Is (nameV x a)) true := by
  rintro w v rfl
  unfold nameV
  have e1 := ta_name_name
  have e2 := ta_name_elem
  have e3 := ta_name_field
  go_enter Tryz.func169, Tryz.ntmps169
  go_wp2
  go_ret
  exact ⟨rfl, rfl⟩
set_option maxRecDepth 20000 in
set_option maxHeartbeats 4000000 in
theorem place_str (x : ByteArray) : IsPl (Is (strT x)) false := by
  rintro w v rfl
  unfold strT
  have e1 := ta_str_name
  have e2 := ta_str_elem
  have e3 := ta_str_field
  go_enter Tryz.func169, Tryz.ntmps169
  go_wp2
  go_ret
  exact ⟨rfl, rfl⟩
set_option maxRecDepth 20000 in
set_option maxHeartbeats 4000000 in
theorem place_pat (x : ByteArray) : IsPl (Is (patT x)) false := by
  rintro w v rfl
  unfold patT
  have e1 := ta_pat_name
  have e2 := ta_pat_elem
  have e3 := ta_pat_field
  go_enter Tryz.func169, Tryz.ntmps169
  go_wp2
  go_ret
  exact ⟨rfl, rfl⟩
set_option maxRecDepth 20000 in
set_option maxHeartbeats 4000000 in
theorem prim_str (pb : Nat) (T : ByteArray) (ge : Bool) (s s' : TS) (hk : s.k = 3) (hn : Nx pb T s s') : Reads 480 pb T ge s s' (Is (strT s.x)) := by
  intro w h
  have r3 : w.cell? ⟨pb, 3, none⟩ = some (.int .i64 3) := by have := cell_of (o := 3) h rfl; rw [this, hk]; rfl
  have HT := hide (take_yes pb T s s' ge hn w h)
  clear h hn hk
  unfold strT
  have e1 := fld188
  go_enter Tryz.func480, Tryz.ntmps480
  go_wp2_with (go_at_call 126; refine (HT.out).mono ?_; rintro en w1 ⟨rfl, hp, ho⟩; have HP := hide hp; have HO := hide ho; clear hp ho)
  go_ret
  exact ⟨_, rfl, rfl, HP.out, HO.out⟩
set_option maxRecDepth 20000 in
set_option maxHeartbeats 4000000 in
theorem prim_pat (pb : Nat) (T : ByteArray) (ge : Bool) (s s' : TS) (hk : s.k = 4) (hn : Nx pb T s s') : Reads 480 pb T ge s s' (Is (patT s.x)) := by
  intro w h
  have r3 : w.cell? ⟨pb, 3, none⟩ = some (.int .i64 4) := by have := cell_of (o := 3) h rfl; rw [this, hk]; rfl
  have HT := hide (take_yes pb T s s' ge hn w h)
  clear h hn hk
  unfold patT
  have e1 := fld188
  go_enter Tryz.func480, Tryz.ntmps480
  go_wp2_with (go_at_call 126; refine (HT.out).mono ?_; rintro en w1 ⟨rfl, hp, ho⟩; have HP := hide hp; have HO := hide ho; clear hp ho)
  go_ret
  exact ⟨_, rfl, rfl, HP.out, HO.out⟩
set_option maxRecDepth 20000 in
set_option maxHeartbeats 4000000 in
theorem varEl (pb : Nat) (T : ByteArray) (ge : Bool) (s s' : TS) (hn : Nx pb T s s') (hb : seen s' [91] = false) : Reads 482 pb T ge s s' (Is (nameV s.x s.xa)) := by
  intro w h
  have HT := hide (take_yes pb T s s' ge hn w h)
  have HPn : ∀ W, PAt W pb T s' ge → Hid (Calls Tryz.prog 95 #[.pointer (some ⟨pb, 0, none⟩), .string ⟨#[91]⟩] W fun en w' => en = .returned (.bool false) ∧ w' = W) := fun W hW => passes_no pb T s' ge ⟨#[91]⟩ hb W hW
  clear h hn hb
  unfold nameV
  go_enter Tryz.func482, Tryz.ntmps482
  go_wp2_with fail
  refine (HT.out).mono ?_
  rintro en w1 ⟨rfl, hp, ho⟩
  have HPs := HPn _ (Reads.alloc_at hp (.cells #[.string s.x, .int .i64 s.xa] 98))
  have HP := hide hp
  have HO := hide ho
  clear hp ho HT HPn
  go_wp2_with (go_at_call 95; refine (HPs.out).mono ?_; rintro en w2 ⟨rfl, rfl⟩)
  go_ret
  exact ⟨_, rfl, rfl, Reads.alloc_at HP.out _, HO.out.alloc _⟩
set_option maxRecDepth 20000 in
set_option maxHeartbeats 4000000 in
theorem prim_name (pb : Nat) (T : ByteArray) (ge : Bool) (s s' : TS) (hk : s.k = 5) (hn : Nx pb T s s') (hb : seen s' [91] = false) : Reads 480 pb T ge s s' (Is (nameV s.x s.xa)) := by
  intro w h
  have r3 : w.cell? ⟨pb, 3, none⟩ = some (.int .i64 5) := by have := cell_of (o := 3) h rfl; rw [this, hk]; rfl
  have HT := hide (varEl pb T ge s s' hn hb w h)
  clear h hn hk hb
  go_enter Tryz.func480, Tryz.ntmps480
  go_wp2_with (go_at_call 482; refine (HT.out).mono ?_; rintro en w1 ⟨v, rfl, hv, hp, ho⟩; have Hv := hide hv; have HP := hide hp; have HO := hide ho; clear hv hp ho)
  go_ret
  exact ⟨_, rfl, Hv.out, HP.out, HO.out⟩
end Go.Proofs.YthkknpjoifoanaaGreatDoor

namespace Go.Proofs.YthkknpjoifoanaaGreatDoor
open Go.RowKit
theorem info366 : (Tryz.prog.info? 238).map (fun i => (i.zero, i.size, i.bytes)) = some (some .nilIface, 1, 16) := by kernel_rfl
/-- A list of trees, each one value, that lies apart from the parser. -/
def Row (pb : Nat) (vs : List Value) : World → Value → Prop := fun w v => w.ownsRow 0 238 1 v vs.length vs ∧ v.ownBlock ≠ some pb
theorem own_tag {w : World} {B : Nat} {e t : TypeId} {z : Nat} {v : Value} {n : Nat} {xs : List Value} {pb : Nat} {c : Array Value} (h : w.ownsRow B e z v n xs) (hp : w.heap[pb]? = some (.cells c t (0, 0))) (hne : e ≠ t) : v.ownBlock ≠ some pb := by
  intro hk
  rcases h.2 with ⟨rfl, _⟩ | ⟨g, cap, cur, rfl, _, h3, _⟩
  · cases hk
  · cases hk
    rw [hp] at h3
    cases h3
    exact hne rfl
theorem row_stab (pb : Nat) (vs : List Value) : Stab pb (Row pb vs) := fun w w' v h ho => ⟨ownsRow_of h.1 (fun k hk => ho.block k (h.1.lt k hk).2 (fun e => h.2 (by rw [hk, e]))), h.2⟩
theorem row_one {pb : Nat} {w : World} {v : Value} {vs : List Value} (h : Row pb vs w v) : ∃ po cap, v = .slice po vs.length cap := ownsRow_slice h.1
theorem news_oneR (W : World) (x : Value) (t : TypeId) : ∀ j u, [x][j]? = some u → (W.alloc (.cells #[x] t)).cell? ((⟨W.heap.size, 0, none⟩ : Addr).add j) = some u := by
  intro j u hj
  match j, hj with
  | 0, hj => simp at hj; subst hj; simp [Addr.add]
  | (j + 1), hj => simp at hj
theorem made_one {w : World} {x : Value} {t : TypeId} {B : Nat} (hB : B ≤ w.heap.size) : (w.alloc (.cells #[x] t)).ownsRow B t 1 (.slice (some ⟨w.heap.size, 0, none⟩) 1 1) 1 [x] :=
  ⟨rfl, Or.inr ⟨w.heap.size, 1, #[x], rfl, hB, heap_alloc_new w _, Nat.le_refl _, by unfold maxLen; omega, rfl, rfl⟩⟩
set_option maxRecDepth 20000 in
set_option maxHeartbeats 4000000 in
theorem list_one (pb : Nat) (T : ByteArray) (ge : Bool) (s0 s1 : TS) (t1 : TypeId) (u1 : Value) (h1 : Reads 130 pb T ge s0 s1 (Is (.iface t1 u1))) (hc : seen s1 [44] = false) : Reads 409 pb T ge s0 s1 (Row pb [.iface t1 u1]) := by
  intro w h
  have H1 := hide (h1 w h)
  have HPn : ∀ W, PAt W pb T s1 ge → Hid (Calls Tryz.prog 95 #[.pointer (some ⟨pb, 0, none⟩), .string ⟨#[44]⟩] W fun en w' => en = .returned (.bool false) ∧ w' = W) := fun W hW => passes_no pb T s1 ge ⟨#[44]⟩ hc W hW
  clear h h1 hc
  go_enter Tryz.func409, Tryz.ntmps409
  go_wp2_with fail
  refine (H1.out).mono ?_
  rintro en w1 ⟨v, rfl, hv, hp, ho⟩
  obtain rfl : v = .iface t1 u1 := hv
  have hl1 := hp.lt
  have HPs := HPn _ (Reads.alloc_at hp (.cells #[.iface t1 u1] 238))
  have HP := hide hp
  have HO := hide ho
  clear hp ho H1 HPn
  go_wp2
  go_loop [3] (fun s3 => s3 = .slice (some ⟨w1.heap.size, 0, none⟩) 1 1) (fun _ => 0)
  case atStart => exact rfl
  case round =>
    subst hrel
    go_wp2_with (go_at_call 95; refine (HPs.out).mono ?_; rintro en w2 ⟨rfl, rfl⟩)
    go_ret
    exact ⟨_, rfl, ⟨made_one (Nat.zero_le _), fun e => by have := Option.some.inj e; simp at this; omega⟩, Reads.alloc_at HP.out _, HO.out.alloc _⟩
set_option maxRecDepth 20000 in
set_option maxHeartbeats 4000000 in
theorem list_two (pb : Nat) (T : ByteArray) (ge : Bool) (s0 s1 s2 s3 : TS) (t1 t2 : TypeId) (u1 u2 : Value) (h1 : Reads 130 pb T ge s0 s1 (Is (.iface t1 u1))) (hc1 : seen s1 [44] = true) (hn : Nx pb T s1 s2) (h2 : Reads 130 pb T ge s2 s3 (Is (.iface t2 u2))) (hc : seen s3 [44] = false) : Reads 409 pb T ge s0 s3 (Row pb [.iface t1 u1, .iface t2 u2]) := by
  obtain ⟨i0, hi0, hz0, hz1, hz2⟩ := info_parts info366
  intro w h
  have H1 := hide (h1 w h)
  have H2 := hide h2
  have HPy : ∀ W, PAt W pb T s1 ge → Hid (Calls Tryz.prog 95 #[.pointer (some ⟨pb, 0, none⟩), .string ⟨#[44]⟩] W fun en w' => en = .returned (.bool true) ∧ PAt w' pb T s2 ge ∧ Only (fun k => k = pb) W w') := fun W hW => passes_yes pb T s1 s2 ge ⟨#[44]⟩ hc1 hn W hW
  have HPn : ∀ W, PAt W pb T s3 ge → Hid (Calls Tryz.prog 95 #[.pointer (some ⟨pb, 0, none⟩), .string ⟨#[44]⟩] W fun en w' => en = .returned (.bool false) ∧ w' = W) := fun W hW => passes_no pb T s3 ge ⟨#[44]⟩ hc W hW
  clear h h1 h2 hc hc1 hn
  go_enter Tryz.func409, Tryz.ntmps409
  go_wp2_with fail
  refine (H1.out).mono ?_
  rintro en w1 ⟨v, rfl, hv, hp, ho⟩
  obtain rfl : v = .iface t1 u1 := hv
  have hl1 := hp.lt
  have HPs := HPy _ (Reads.alloc_at hp (.cells #[.iface t1 u1] 238))
  have HO : Hid (Only (fun k => k = pb) w w1) := ho
  clear hp ho H1 HPy
  go_wp2
  go_loopg [3] 1 (fun g s3' wr => (g = 1 ∧ s3' = .slice (some ⟨w1.heap.size, 0, none⟩) 1 1 ∧ wr = w1.alloc (.cells #[.iface t1 u1] 238)) ∨ (g = 0 ∧ Row pb [.iface t1 u1, .iface t2 u2] wr s3' ∧ PAt wr pb T s3 ge ∧ Only (fun k => k = pb) w wr))
  case atStart => exact Or.inl ⟨rfl, rfl, rfl⟩
  case round =>
    rcases hrel with ⟨hg, e3, ew⟩ | ⟨hg, hr, hp3, ho3⟩
    · subst e3
      subst ew
      subst hg
      go_wp2_with fail
      refine (HPs.out).mono ?_
      rintro en w2 ⟨rfl, hp2, ho2⟩
      have hz2' : w1.heap.size + 1 ≤ w2.heap.size := by have := ho2.size; simpa using this
      have hrow := ownsRow_of (w' := w2) (made_one (w := w1) (x := .iface t1 u1) (t := 238) (Nat.zero_le _)) (fun k hk => by cases hk; exact ho2.block _ (by simp) (by intro e; have e2 : w1.heap.size = pb := e; omega))
      have HO2 : Hid (Only (fun k => k = pb) w w2) := (HO.out.alloc _).trans ho2 (fun _ _ e => e)
      have HE := hide (H2.out w2 hp2)
      have HRow := hide hrow
      clear hp2 ho2 hrow HPs
      go_wp2_with fail
      refine (HE.out).mono ?_
      rintro en w3 ⟨v, rfl, hv, hp3, ho3⟩
      obtain rfl : v = .iface t2 u2 := hv
      have hz3 := ho3.size
      have hl3 := hp3.lt
      have HRow3 := hide (ownsRow_of (w' := w3) HRow.out (fun k hk => by cases hk; exact ho3.block _ (show w1.heap.size < _ by omega) (by intro e; have e2 : w1.heap.size = pb := e; omega)))
      have HO3 : Hid (Only (fun k => k = pb) w w3) := HO2.out.trans ho3 (fun _ _ e => e)
      have HP3 := hide hp3
      clear hp3 ho3 HE HRow
      go_wp2_with (at_builtin; refine wpList_append_own _ rfl (.tmp 9) (.tmp 12) 106 rfl 0 238 i0 .nilIface 1 16 Tryz.underlying106 hi0 hz0 hz1 hz2 rfl (by decide) _ _ _ rfl (HRow3.out.alloc _) _ 1 1 [.iface t2 u2] rfl rfl (news_oneR _ _ _) (fun u hu => by simp at hu; subst hu; rfl) (by unfold maxLen; omega) (by omega) (by simp) ?_; intro v' w4 hown' hgrow hnil)
      have hp4 : PAt w4 pb T s3 ge := (hgrow.block pb (by simp; omega) (fun e => by have e2 : pb = w1.heap.size := Option.some.inj e; omega)).trans (Reads.alloc_at HP3.out _)
      have ho4 : Only (fun k => k = pb) w w4 := (HO3.out.alloc _).grown hgrow (fun k hk hlt => by have e2 : w1.heap.size = k := Option.some.inj hk; have := HO.out.size; omega)
      have hr4 : Row pb [.iface t1 u1, .iface t2 u2] w4 v' := ⟨hown', own_tag hown' hp4 (by decide)⟩
      have HP4 := hide hp4
      have HO4 := hide ho4
      have HR4 := hide hr4
      clear hp4 ho4 hr4 hown' hgrow hnil
      go_wp2
      go_roundg 0
      case measure => omega
      case rel => exact Or.inr ⟨rfl, HR4.out, HP4.out, HO4.out⟩
    · have HPs2 := HPn _ hp3
      have HR := hide hr
      have HP := hide hp3
      have HO3 := hide ho3
      clear hr hp3 ho3 hg
      go_wp2_with (go_at_call 95; refine (HPs2.out).mono ?_; rintro en w2 ⟨rfl, rfl⟩)
      go_ret
      exact ⟨_, rfl, HR.out, HP.out, HO3.out⟩
end Go.Proofs.YthkknpjoifoanaaGreatDoor

