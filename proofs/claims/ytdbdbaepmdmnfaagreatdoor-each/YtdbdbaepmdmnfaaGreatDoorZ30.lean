import Derived.Test.YtdbdbaepmdmnfaaGreatDoorZ29
namespace Go.Proofs.YtdbdbaepmdmnfaaGreatDoor
open Go.RowKit
set_option maxRecDepth 20000 in
set_option maxHeartbeats 1000000 in
theorem arr_do (pm : Option Addr) (nb k : Nat) (w : World) (h : w.heap[nb]? = some (.cells #[.int .i64 k] 3 (0, 0))) : Calls Tryz.prog 371 #[.pointer pm, .pointer (some ⟨nb, 0, none⟩)] w fun en w' => en = .returned (.int .i64 k) ∧ w' = w := by
  have c0 : w.cell? ⟨nb, 0, none⟩ = some (.int .i64 k) := cell_of h rfl
  have hl := heap_lt h
  clear h
  go_enter Tryz.func371, Tryz.ntmps371
  go_wp2
  go_ret
  exact ⟨rfl, rfl⟩
set_option maxRecDepth 20000 in
set_option maxHeartbeats 1000000 in
theorem bounded_do (pm : Option Addr) (t : ByteArray) (ht : t.size ≤ 500) (w : World) : Calls Tryz.prog 347 #[.pointer pm, .string t] w fun en w' => en = .returned (.string t) ∧ w' = w := by
  have hti : ¬ (500 : Int) < (t.size : Int) := by omega
  go_enter Tryz.func347, Tryz.ntmps347
  go_wp2
  go_ret
  exact ⟨rfl, rfl⟩
theorem cf371 (args : Array Value) (w : World) : (callFunc 371 args).run Tryz.prog w = .ok (.enter 371 args) w := callFunc_in Tryz.func371 (by kernel_rfl) rfl args w
theorem cf377 (args : Array Value) (w : World) : (callFunc 377 args).run Tryz.prog w = .ok (.enter 377 args) w := callFunc_in Tryz.func377 (by kernel_rfl) rfl args w
theorem cf312 (args : Array Value) (w : World) : (callFunc 312 args).run Tryz.prog w = .ok (.enter 312 args) w := callFunc_in Tryz.func312 (by kernel_rfl) rfl args w
theorem cf313 (args : Array Value) (w : World) : (callFunc 313 args).run Tryz.prog w = .ok (.enter 313 args) w := callFunc_in Tryz.func313 (by kernel_rfl) rfl args w
theorem cf315 (args : Array Value) (w : World) : (callFunc 315 args).run Tryz.prog w = .ok (.enter 315 args) w := callFunc_in Tryz.func315 (by kernel_rfl) rfl args w
/-- What works out a key gives it, and turns nothing. -/
def KeyGives (p : Pl8) (s : St8) (z : Value) (x : ByteArray) : Prop := ∃ (F : Nat) (caps : List Value), z = .func (.func F) #[] caps.toArray ∧ Enters F ∧ ∀ W, On8 p s W → Calls Tryz.prog F (.pointer (some ⟨p.m, 0, none⟩) :: caps).toArray W fun en w' => en = .returned (.agg #[.int .i64 0, .string x]) ∧ Only (fun _ => False) W w'
set_option maxRecDepth 20000 in
set_option maxHeartbeats 2000000 in
theorem key_do (p : Pl8) (s : St8) (B : Nat) (I : Nat → World → Value → Prop) (z : Value) (hz : KeyK I B p.wN z) (a n : Int) (t tx : ByteArray) (htx : tx.size ≤ 500) (hI : ∀ x y, I B p.wN (.agg #[x, y]) → Gives p s x (.agg #[.int .i64 a, .int .i64 n, .string t]) ∧ ∃ F2 c2, y = .func (.func F2) #[] c2)
    (HTx : ∀ W, On8 p s W → Calls Tryz.prog 235 #[.agg #[.int .i64 a, .int .i64 n, .string t]] W fun en w' => en = .returned (.string tx) ∧ Only (fun _ => False) W w') : KeyGives p s z tx := by
  obtain ⟨lb, ab, g, x, y, z, rfl, _, hlb, hg, hab, hA, hi⟩ := hz
  obtain ⟨⟨F, caps, rfl, hcf1, hG⟩, hy⟩ := hI x y hi
  obtain ⟨nb, e, _, hnb⟩ := hA
  obtain rfl : z = .func (.func 371) #[] #[.pointer (some ⟨nb, 0, none⟩)] := by injection e with e; have := congrArg (fun a => a[0]?) e; simpa using this
  refine ⟨377, [.pointer (some ⟨lb, 0, none⟩), .pointer (some ⟨ab, 0, none⟩)], rfl, cf377, fun w h => ?_⟩
  have hcf := cf371
  have hlw := (h.O.block lb (heap_lt hlb) (fun e => e)).trans hlb
  have hgw := (h.O.block g (heap_lt hg) (fun e => e)).trans hg
  have haw := (h.O.block ab (heap_lt hab) (fun e => e)).trans hab
  have hnw := (h.O.block nb (heap_lt hnb) (fun e => e)).trans hnb
  have l0 : w.cell? ⟨lb, 0, none⟩ = some (.slice (some ⟨g, 0, none⟩) 1 1) := cell_of hlw rfl
  have ll := heap_lt hlw
  have HT := hide (fun W (hW : Only (fun _ => False) w W) => textsOf_oneG p.m g F caps y hy hcf1 a n t tx W ((hW.block g (heap_lt hgw) (fun e => e)).trans hgw) (fun W' h' => HTx W' (h.calm (hW.trans h' (fun _ _ e => e)))) (fun W' h' => hG W' (h.calm (hW.trans h' (fun _ _ e => e)))))
  have HA := hide haw
  have HN := hide hnw
  have HB := hide (bounded_do (some ⟨p.m, 0, none⟩) tx htx)
  clear h hlb hg hab hnb hlw hgw haw hnw hG HTx hI hi hcf1
  go_enter Tryz.func377, Tryz.ntmps377
  go_wp2_with fail
  refine (HT.out _ (onlyA w _)).mono ?_
  rintro en w2 ⟨rfl, hb2, ho2⟩
  have hO := (onlyA w _).trans ho2 (fun _ _ e => e)
  have haw := (hO.block ab (heap_lt HA.out) (fun e => e)).trans HA.out
  have a0 : w2.cell? ⟨ab, 0, none⟩ = some (.func (.func 371) #[] #[.pointer (some ⟨nb, 0, none⟩)]) := cell_of haw rfl
  have al := heap_lt haw
  have hnw := (hO.block nb (heap_lt HN.out) (fun e => e)).trans HN.out
  have HAr := hide (arr_do (some ⟨p.m, 0, none⟩) nb 0 w2 hnw)
  have hb3 : w2.heap[w.heap.size + 1]? = some (.cells #[.string tx] 9 (0, 0)) := by simpa using hb2
  have HJ := hide (join_one (w.heap.size + 1) 1 tx ⟨#[44]⟩ w2 (cell_of hb3 rfl))
  have hb0 := (ho2.block w.heap.size (by simp) (fun e => e)).trans (new0 w _)
  have r0 : w2.cell? ⟨w.heap.size, 0, none⟩ = some (.int .i64 0) := cell_of hb0 rfl
  have r1 : w2.cell? ⟨w.heap.size, 1, none⟩ = some (.string ⟨#[]⟩) := cell_of hb0 rfl
  have rf := free_of hb0
  have rl := heap_lt hb0
  have HO := hide hO
  clear hO ho2 hb2 hb3 hb0 haw hnw HT HA HN
  go_wp2_with (first | (go_at_call 283; refine (HJ.out).mono ?_; rintro en w' ⟨rfl, h3⟩; subst w') | (go_at_call 347; refine (HB.out _).mono ?_; rintro en w' ⟨rfl, h3⟩; subst w') | (go_at_call 371; refine (HAr.out).mono ?_; rintro en w' ⟨rfl, h3⟩; subst w'))
  refine bodyPost_ret (v := .agg #[.int .i64 0, .string tx]) (by simp [results, Tryz.results377, go_sem, r0, r1]) rfl ⟨rfl, ?_⟩
  exact (HO.out.setCell (p := ⟨w.heap.size, 0, none⟩) (fun h => absurd h (by show ¬ w.heap.size < w.heap.size; omega)) _).setCell (p := ⟨w.heap.size, 1, none⟩) (fun h => absurd h (by show ¬ w.heap.size < w.heap.size; omega)) _
end Go.Proofs.YtdbdbaepmdmnfaaGreatDoor

namespace Go.Proofs.YtdbdbaepmdmnfaaGreatDoor
open Go.RowKit
set_option maxRecDepth 20000 in
set_option maxHeartbeats 2000000 in
theorem efind_do (p : Pl8) (s : St8) (kq : Nat) (z : Value) (tx : ByteArray) (hG : KeyGives p s z tx) (hkq : p.wN.heap[kq]? = some (.cells #[z] 444 (0, 0))) (w : World) (h : On8 p s w) :
    Calls Tryz.prog 312 #[.pointer (some ⟨p.m, 0, none⟩), .pointer (some ⟨kq, 0, none⟩)] w fun en w' => ∃ b2 b4, en = .returned (.agg #[.func (.func 313) #[] #[.pointer (some ⟨b2, 0, none⟩), .pointer (some ⟨b4, 0, none⟩)], .func (.func 315) #[] #[.pointer (some ⟨b2, 0, none⟩), .pointer (some ⟨b4, 0, none⟩)]]) ∧ w'.heap[b2]? = some (.cells #[.pointer (some ⟨p.m, 0, none⟩)] 130 (0, 0)) ∧ w'.heap[b4]? = some (.cells #[.int .i64 0, .string tx] 448 (0, 0)) ∧ Only (fun _ => False) w w' := by
  obtain ⟨F, caps, rfl, hcf, hF⟩ := hG
  unfold Enters at hcf
  have hmf := hmfT
  have hsf := hsfT
  have hsn := hsnT
  have hnw := (h.O.block kq (heap_lt hkq) (fun e => e)).trans hkq
  have e0 : w.cell? ⟨kq, 0, none⟩ = some (.func (.func F) #[] caps.toArray) := cell_of hnw rfl
  have hnl := heap_lt hnw
  have HF := hide (fun W (hW : Only (fun _ => False) w W) => hF W (h.calm hW))
  clear hkq hnw hF h
  go_enter Tryz.func312, Tryz.ntmps312
  go_wp2_with fail
  refine (HF.out _ ((onlyA w _).alloc _)).mono ?_
  rintro en w2 ⟨rfl, ho2⟩
  have hx0 := (ho2.block w.heap.size (by simp; omega) (fun e => e)).trans ((Below.heap_alloc _ _ _ (by simp)).trans (new0 w (.cells #[.pointer (some ⟨p.m, 0, none⟩)] 130)))
  have hx1 := (ho2.block (w.heap.size + 1) (by simp) (fun e => e)).trans (new_at2 (by simp) (.cells #[.nilFunc, .nilFunc] 436))
  have r0 : w2.cell? ⟨w.heap.size + 1, 0, none⟩ = some .nilFunc := cell_of hx1 rfl
  have r1 : w2.cell? ⟨w.heap.size + 1, 1, none⟩ = some .nilFunc := cell_of hx1 rfl
  have rf := free_of hx1
  have rl := heap_lt hx1
  have HO := hide (((onlyA w _).alloc _).trans ho2 (fun _ _ e => e))
  have HX0 := hide hx0
  have HX1 := hide hx1
  have hw2 : w.heap.size < w2.heap.size := heap_lt hx0
  clear ho2 hx0 hx1 HF
  go_wp2
  have hX := (Below.heap_alloc ((w2.setCell ⟨w.heap.size + 1, 0, none⟩ (.func (.func 313) #[] #[.pointer (some ⟨w.heap.size, 0, none⟩), .pointer (some ⟨w2.heap.size, 0, none⟩)])).setCell ⟨w.heap.size + 1, 1, none⟩ (.func (.func 315) #[] #[.pointer (some ⟨w.heap.size, 0, none⟩), .pointer (some ⟨w2.heap.size, 0, none⟩)])) (.cells #[.int .i64 0, .string tx] 448) (w.heap.size + 1) (by simpa using rl)).trans (heap_setCell_same (o := 1) (heap_setCell_same (o := 0) HX1.out (.func (.func 313) #[] #[.pointer (some ⟨w.heap.size, 0, none⟩), .pointer (some ⟨w2.heap.size, 0, none⟩)])) (.func (.func 315) #[] #[.pointer (some ⟨w.heap.size, 0, none⟩), .pointer (some ⟨w2.heap.size, 0, none⟩)]))
  have q0 := cell_of (o := 0) hX rfl
  have q1 := cell_of (o := 1) hX rfl
  refine bodyPost_ret (v := .agg #[(.func (.func 313) #[] #[.pointer (some ⟨w.heap.size, 0, none⟩), .pointer (some ⟨w2.heap.size, 0, none⟩)]), (.func (.func 315) #[] #[.pointer (some ⟨w.heap.size, 0, none⟩), .pointer (some ⟨w2.heap.size, 0, none⟩)])]) (by simp [results, Tryz.results312, go_sem, q0, q1]) rfl ⟨w.heap.size, w2.heap.size, rfl, ?_, ?_, ?_⟩
  · exact (Below.heap_alloc _ _ _ (by simpa using hw2)).trans ((Below.heap_setCell _ _ _ _ (by show w.heap.size ≠ w.heap.size + 1; omega)).trans ((Below.heap_setCell _ _ _ _ (by show w.heap.size ≠ w.heap.size + 1; omega)).trans HX0.out))
  · exact new_at2 (by simp) _
  · exact (((HO.out.setCell (p := ⟨w.heap.size + 1, 0, none⟩) (fun h => absurd h (by show ¬ w.heap.size + 1 < w.heap.size; omega)) _).setCell (p := ⟨w.heap.size + 1, 1, none⟩) (fun h => absurd h (by show ¬ w.heap.size + 1 < w.heap.size; omega)) _).alloc _)
/-- What was made of an element finds its place. -/
theorem finds_elem (p : Pl8) (s : St8) (I : Nat → World → Value → Prop) (B : Nat) (x y : Value) (h : ElemK I B p.wN (.agg #[x, y])) (tx : ByteArray) (hK : ∀ z, KeyK I B p.wN z → KeyGives p s z tx) : FindsK p s 313 315 448 #[.int .i64 0, .string tx] y := by
  obtain ⟨g, kq, z, e, _, _, _, hkq, hz⟩ := h
  obtain ⟨_, rfl⟩ := agg_two e
  refine ⟨312, [.pointer (some ⟨kq, 0, none⟩)], rfl, cf312, fun W hW => ?_⟩
  refine (efind_do p s kq z tx (hK z hz) hkq W hW).mono ?_
  rintro en w' ⟨b2, b4, e, h2, h4, ho⟩
  exact ⟨_, _, e, ⟨_, _, rfl, rfl, h2, h4⟩, ho⟩
set_option maxRecDepth 20000 in
set_option maxHeartbeats 2000000 in
/-- Taking an element, given what package arrays answers. -/
theorem takes_elemG (p : Pl8) (s s' : St8) (tx : ByteArray) (a n : Int) (t : ByteArray) (H : ∀ W, On8 p s W → Calls Tryz.prog 314 #[.pointer (some ⟨p.ab, 0, none⟩), .agg #[.int .i64 0, .string tx]] W fun en w' => en = .returned (.agg #[.int .i64 a, .int .i64 n, .string t]) ∧ On8 p s' w' ∧ Kept p W w') : TakesW p s s' 313 448 #[.int .i64 0, .string tx] a n t := by
  refine ⟨cf313, fun w b2 nb h e2 e4 => ?_⟩
  have l2 := heap_lt e2
  have l4 := heap_lt e4
  obtain ⟨po, pn, pc, hM⟩ := h.M
  have m0 : w.cell? ⟨p.m, 0, none⟩ = some (.pointer (some ⟨p.ab, 0, none⟩)) := cell_of hM rfl
  have ml := heap_lt hM
  have c2 : w.cell? ⟨b2, 0, none⟩ = some (.pointer (some ⟨p.m, 0, none⟩)) := cell_of e2 rfl
  have c4 : w.cell? ⟨nb, 0, none⟩ = some (.int .i64 0) := cell_of e4 rfl
  have c5 : w.cell? ⟨nb, 1, none⟩ = some (.string tx) := cell_of e4 rfl
  have HR := hide (fun W (hW : Only (fun _ => False) w W) => H W (h.calm hW))
  have HH := hide h
  have HE2 := hide e2
  have HE4 := hide e4
  clear h H e2 e4 hM
  have d0 : (w.alloc (.cells #[.int .i64 0, .int .i64 0, .string ⟨#[]⟩] 203)).drew.cell? ⟨p.m, 0, none⟩ = some (.pointer (some ⟨p.ab, 0, none⟩)) := past m0 _
  have d2 : (w.alloc (.cells #[.int .i64 0, .int .i64 0, .string ⟨#[]⟩] 203)).drew.cell? ⟨b2, 0, none⟩ = some (.pointer (some ⟨p.m, 0, none⟩)) := past c2 _
  have d4 : (w.alloc (.cells #[.int .i64 0, .int .i64 0, .string ⟨#[]⟩] 203)).drew.cell? ⟨nb, 0, none⟩ = some (.int .i64 0) := past c4 _
  have d5 : (w.alloc (.cells #[.int .i64 0, .int .i64 0, .string ⟨#[]⟩] 203)).drew.cell? ⟨nb, 1, none⟩ = some (.string tx) := past c5 _
  go_enter Tryz.func313, Tryz.ntmps313
  go_upto_region 1 with fail
  go_region_held3 (fun W => W.cell? ⟨p.m, 0, none⟩ = some (.pointer (some ⟨p.ab, 0, none⟩)) ∧ W.cell? ⟨b2, 0, none⟩ = some (.pointer (some ⟨p.m, 0, none⟩)) ∧ W.cell? ⟨nb, 0, none⟩ = some (.int .i64 0) ∧ W.cell? ⟨nb, 1, none⟩ = some (.string tx)) (repeat (first | (with_reducible assumption) | (with_reducible refine past ?_ _) | ((with_reducible refine farC ?_ ?_); (rotate_left; focus (simp <;> omega))) | (with_reducible refine And.intro ?_ ?_)))
    (first | (go_at_call 314; have hon := HH.out.calm (toDrew (onlyA w (.cells #[.int .i64 0, .int .i64 0, .string ⟨#[]⟩] 203))); refine (HR.out _ (toDrew (onlyA w _))).mono ?_; rintro en w2 ⟨rfl, hq, hk⟩; have hb0 := hk.new HH.out (q := w.heap.size) (Nat.le_refl _) (by decide) (by decide) (heapD (new0 w _)); have hb2 := hk.byType hon (by decide) (heapD ((Below.heap_alloc _ _ _ l2).trans HE2.out)); have hb4 := hk.byType hon (by decide) (heapD ((Below.heap_alloc _ _ _ l4).trans HE4.out)); have x2 : w2.cell? ⟨b2, 0, none⟩ = some (.pointer (some ⟨p.m, 0, none⟩)) := cell_of hb2 rfl; have x4 : w2.cell? ⟨nb, 0, none⟩ = some (.int .i64 0) := cell_of hb4 rfl; have x5 : w2.cell? ⟨nb, 1, none⟩ = some (.string tx) := cell_of hb4 rfl; obtain ⟨po2, pn2, pc2, hM2⟩ := hq.M; have x0 : w2.cell? ⟨p.m, 0, none⟩ = some (.pointer (some ⟨p.ab, 0, none⟩)) := cell_of hM2 rfl; have r0 : w2.cell? ⟨w.heap.size, 0, none⟩ = some (.int .i64 0) := cell_of hb0 rfl; have r1 : w2.cell? ⟨w.heap.size, 1, none⟩ = some (.int .i64 0) := cell_of hb0 rfl; have r2 : w2.cell? ⟨w.heap.size, 2, none⟩ = some (.string ⟨#[]⟩) := cell_of hb0 rfl; have rf := free_of hb0; have rl := heap_lt hb0; have lm := heap_lt hM2; have lb2 := heap_lt hb2; have lb4 := heap_lt hb4; have HB0 := hide hb0; have HQ := hide hq; have HK := hide ((Kept.of (toDrew (onlyA w (.cells #[.int .i64 0, .int .i64 0, .string ⟨#[]⟩] 203)))).trans hk); have nm : w.heap.size ≠ p.m := (by omega); have n2 : w.heap.size ≠ b2 := (by omega); have n4 : w.heap.size ≠ nb := (by omega); clear hq hk hb0 hb2 hb4 hM2 hon))
  go_wp2
  refine bodyPost_ret (v := .agg #[.int .i64 a, .int .i64 n, .string t]) (by simp [results, Tryz.results313, go_sem, r0, r1, r2]) rfl ⟨rfl, HH.out.box3 HQ.out HB0.out (Nat.le_refl _) _ _ _, ((HK.out.set (Nat.le_refl _) _).set (Nat.le_refl _) _).set (Nat.le_refl _) _⟩
/-- An element that there is. -/
theorem takes_have (p : Pl8) (s : St8) (i : Nat) (tx : ByteArray) (v : VT3) (hi : s.A[i]? = some (tx, v)) : TakesW p s s 313 448 #[.int .i64 0, .string tx] v.1 v.2.1 v.2.2 :=
  takes_elemG p s s tx _ _ _ (fun W hW => by
    obtain ⟨kv, hA⟩ := hW.R
    refine (take_have _ _ _ _ kv s.A i tx v hi W hA).mono ?_
    rintro en w' ⟨e, ho⟩
    exact ⟨e, hW.calm ho, Kept.of ho⟩)
/-- An element that there is not: it is there from then on. -/
theorem takes_new (p : Pl8) (s : St8) (tx : ByteArray) (hx : tx.size ≤ 1000) (hno : ∀ q ∈ s.A, q.1 ≠ tx) (hA : s.A.length ≤ 100) : TakesW p s { s with A := s.A ++ [(tx, 0, 0, ⟨#[]⟩)] } 313 448 #[.int .i64 0, .string tx] 0 0 ⟨#[]⟩ :=
  takes_elemG p s _ tx _ _ _ (fun W hW => by
    obtain ⟨kv, hR⟩ := hW.R
    refine (take_new _ _ _ _ kv s.A tx hx hno hA W hW.O.size hR).mono ?_
    rintro en w' ⟨e, kv', hR', ho, hn⟩
    exact ⟨e, hW.turnA hR ho hR', Kept.ofA hW hR ho hR' hn⟩)
set_option maxRecDepth 20000 in
set_option maxHeartbeats 2000000 in
/-- Storing to an element that there is not. -/
theorem stores_elem (p : Pl8) (s : St8) (tx : ByteArray) (v : VT3) (hx : tx.size ≤ 1000) (hno : ∀ q ∈ s.A, q.1 ≠ tx) (hA : s.A.length ≤ 100) : StoresK p s { s with A := s.A ++ [(tx, v)] } 315 448 #[.int .i64 0, .string tx] (.agg #[.int .i64 v.1, .int .i64 v.2.1, .string v.2.2]) := by
  refine ⟨cf315, fun w b2 nb h e2 e4 => ?_⟩
  have l2 := heap_lt e2
  have l4 := heap_lt e4
  obtain ⟨po, pn, pc, hM⟩ := h.M
  have m0 : w.cell? ⟨p.m, 0, none⟩ = some (.pointer (some ⟨p.ab, 0, none⟩)) := cell_of hM rfl
  have ml := heap_lt hM
  have c2 : w.cell? ⟨b2, 0, none⟩ = some (.pointer (some ⟨p.m, 0, none⟩)) := cell_of e2 rfl
  have c4 : w.cell? ⟨nb, 0, none⟩ = some (.int .i64 0) := cell_of e4 rfl
  have c5 : w.cell? ⟨nb, 1, none⟩ = some (.string tx) := cell_of e4 rfl
  have HR : Hid (∀ W, On8 p s W → Calls Tryz.prog 316 #[.pointer (some ⟨p.ab, 0, none⟩), .agg #[.int .i64 0, .string tx], .agg #[.int .i64 v.1, .int .i64 v.2.1, .string v.2.2]] W fun en w' => en = .returned (.tuple #[]) ∧ On8 p { s with A := s.A ++ [(tx, v)] } w' ∧ Kept p W w') := hide (fun W hW => by
    obtain ⟨kv, hR⟩ := hW.R
    refine (store_new _ _ _ _ kv s.A tx v hx hno hA W hW.O.size hR).mono ?_
    rintro en w' ⟨e, kv', hR', ho, hn⟩
    exact ⟨e, hW.turnA hR ho hR', Kept.ofA hW hR ho hR' hn⟩)
  have HH := hide h
  have HE2 := hide e2
  have HE4 := hide e4
  clear h e2 e4 hM hno hx hA
  obtain ⟨va, vn, vt⟩ := v
  have d0 : (w.alloc (.cells #[.int .i64 va, .int .i64 vn, .string vt] 203)).drew.cell? ⟨p.m, 0, none⟩ = some (.pointer (some ⟨p.ab, 0, none⟩)) := past m0 _
  have d2 : (w.alloc (.cells #[.int .i64 va, .int .i64 vn, .string vt] 203)).drew.cell? ⟨b2, 0, none⟩ = some (.pointer (some ⟨p.m, 0, none⟩)) := past c2 _
  have d4 : (w.alloc (.cells #[.int .i64 va, .int .i64 vn, .string vt] 203)).drew.cell? ⟨nb, 0, none⟩ = some (.int .i64 0) := past c4 _
  have d5 : (w.alloc (.cells #[.int .i64 va, .int .i64 vn, .string vt] 203)).drew.cell? ⟨nb, 1, none⟩ = some (.string tx) := past c5 _
  have d6 : (w.alloc (.cells #[.int .i64 va, .int .i64 vn, .string vt] 203)).drew.cell? ⟨w.heap.size, 0, none⟩ = some (.int .i64 va) := cell_of (heapD (new0 w _)) rfl
  have d7 : (w.alloc (.cells #[.int .i64 va, .int .i64 vn, .string vt] 203)).drew.cell? ⟨w.heap.size, 1, none⟩ = some (.int .i64 vn) := cell_of (heapD (new0 w _)) rfl
  have d8 : (w.alloc (.cells #[.int .i64 va, .int .i64 vn, .string vt] 203)).drew.cell? ⟨w.heap.size, 2, none⟩ = some (.string vt) := cell_of (heapD (new0 w _)) rfl
  go_enter Tryz.func315, Tryz.ntmps315
  go_upto_region 1 with fail
  go_region_held3 (fun W => W.cell? ⟨p.m, 0, none⟩ = some (.pointer (some ⟨p.ab, 0, none⟩)) ∧ W.cell? ⟨b2, 0, none⟩ = some (.pointer (some ⟨p.m, 0, none⟩)) ∧ W.cell? ⟨nb, 0, none⟩ = some (.int .i64 0) ∧ W.cell? ⟨nb, 1, none⟩ = some (.string tx) ∧ W.cell? ⟨w.heap.size, 0, none⟩ = some (.int .i64 va) ∧ W.cell? ⟨w.heap.size, 1, none⟩ = some (.int .i64 vn) ∧ W.cell? ⟨w.heap.size, 2, none⟩ = some (.string vt)) (repeat (first | (with_reducible assumption) | (with_reducible refine past ?_ _) | (with_reducible refine And.intro ?_ ?_)))
    (first | (go_at_call 316; have hon := HH.out.calm (toDrew (onlyA w (.cells #[.int .i64 va, .int .i64 vn, .string vt] 203))); refine (HR.out _ hon).mono ?_; rintro en w2 ⟨rfl, hq, hk⟩; have hb0 := hk.new HH.out (q := w.heap.size) (Nat.le_refl _) (by decide) (by decide) (heapD (new0 w _)); have hb2 := hk.byType hon (by decide) (heapD ((Below.heap_alloc _ _ _ l2).trans HE2.out)); have hb4 := hk.byType hon (by decide) (heapD ((Below.heap_alloc _ _ _ l4).trans HE4.out)); have x2 : w2.cell? ⟨b2, 0, none⟩ = some (.pointer (some ⟨p.m, 0, none⟩)) := cell_of hb2 rfl; have x4 : w2.cell? ⟨nb, 0, none⟩ = some (.int .i64 0) := cell_of hb4 rfl; have x5 : w2.cell? ⟨nb, 1, none⟩ = some (.string tx) := cell_of hb4 rfl; obtain ⟨po2, pn2, pc2, hM2⟩ := hq.M; have x0 : w2.cell? ⟨p.m, 0, none⟩ = some (.pointer (some ⟨p.ab, 0, none⟩)) := cell_of hM2 rfl; have x6 : w2.cell? ⟨w.heap.size, 0, none⟩ = some (.int .i64 va) := cell_of hb0 rfl; have x7 : w2.cell? ⟨w.heap.size, 1, none⟩ = some (.int .i64 vn) := cell_of hb0 rfl; have x8 : w2.cell? ⟨w.heap.size, 2, none⟩ = some (.string vt) := cell_of hb0 rfl; have HQ := hide hq; have HK := hide ((Kept.of (toDrew (onlyA w (.cells #[.int .i64 va, .int .i64 vn, .string vt] 203)))).trans hk); clear hq hk hb0 hb2 hb4 hM2 hon))
  go_wp2
  go_end0
  exact ⟨rfl, HQ.out, HK.out⟩
set_option maxRecDepth 20000 in
set_option maxHeartbeats 2000000 in
/-- What was found is taken; the run may turn. -/
theorem found_w (p : Pl8) (s s' : St8) (ft fst : Nat) (kt : TypeId) (kc : Array Value) (g : Nat) (y : Value) (a n : Int) (t : ByteArray) (hF : FindsK p s ft fst kt kc y) (hT : TakesW p s s' ft kt kc a n t) (hg : p.wN.heap[g]? = some (.cells #[y] 336 (0, 0))) : Works p s s' (.func (.func 386) #[] #[.pointer (some ⟨g, 0, none⟩)]) (.agg #[.int .i64 a, .int .i64 n, .string t]) := by
  refine ⟨386, [.pointer (some ⟨g, 0, none⟩)], rfl, cf370, fun w h => ?_⟩
  obtain ⟨F, caps, rfl, hcf, hF⟩ := hF
  obtain ⟨hcf2, hT⟩ := hT
  have hgw := (h.O.block g (heap_lt hg) (fun e => e)).trans hg
  have eg : w.cell? ⟨g, 0, none⟩ = some (.func (.func F) #[] caps.toArray) := cell_of hgw rfl
  have gl := heap_lt hgw
  have hfl := fld428
  have HH := hide h
  have HF := hide (hF _ (h.calm (onlyA w (.cells #[.int .i64 0, .int .i64 0, .string ⟨#[]⟩] 203))))
  have HT := hide (fun W b2 nb (hW : Only (fun _ => False) w W) => hT W b2 nb (h.calm hW))
  unfold Enters at hcf hcf2
  clear h hgw hF hT
  go_enter Tryz.func386, Tryz.ntmps386
  go_wp2_with fail
  refine (HF.out).mono ?_
  rintro en w2 ⟨tk, st, rfl, ⟨b2, nb, rfl, rfl, hb2, hnb⟩, ho⟩
  have hO := (onlyA w _).trans ho (fun _ _ e => e)
  have HT2 := hide (HT.out w2 b2 nb hO hb2 hnb)
  have hb0 := (ho.block w.heap.size (by simp) (fun e => e)).trans (new0 w _)
  have HB0 := hide hb0
  have HO := hide hO
  clear hb2 hnb hO ho hb0 HT
  go_wp2_with fail
  refine (HT2.out).mono ?_
  rintro en w3 ⟨rfl, hq3, hk3⟩
  have hb3 := hk3.new HH.out (q := w.heap.size) (Nat.le_refl _) (by decide) (by decide) HB0.out
  have r0 : w3.cell? ⟨w.heap.size, 0, none⟩ = some (.int .i64 0) := cell_of hb3 rfl
  have r1 : w3.cell? ⟨w.heap.size, 1, none⟩ = some (.int .i64 0) := cell_of hb3 rfl
  have r2 : w3.cell? ⟨w.heap.size, 2, none⟩ = some (.string ⟨#[]⟩) := cell_of hb3 rfl
  have rf := free_of hb3
  have rl := heap_lt hb3
  have HB3 := hide hb3
  have HQ3 := hide hq3
  have HK3 := hide ((Kept.of HO.out).trans hk3)
  clear hq3 hk3 hb3 HT2
  go_wp2
  refine bodyPost_ret (v := .agg #[.int .i64 a, .int .i64 n, .string t]) (by simp [results, Tryz.results386, go_sem, r0, r1, r2]) rfl ⟨rfl, HH.out.box3 HQ3.out HB3.out (Nat.le_refl _) _ _ _, ((HK3.out.set (Nat.le_refl _) _).set (Nat.le_refl _) _).set (Nat.le_refl _) _⟩
/-- What was made of an element works its value out. -/
theorem works_elem (p : Pl8) (s s' : St8) (I : Nat → World → Value → Prop) (B : Nat) (x y : Value) (h : ElemK I B p.wN (.agg #[x, y])) (tx : ByteArray) (hK : ∀ z, KeyK I B p.wN z → KeyGives p s z tx) (a n : Int) (t : ByteArray) (hT : TakesW p s s' 313 448 #[.int .i64 0, .string tx] a n t) : Works p s s' x (.agg #[.int .i64 a, .int .i64 n, .string t]) := by
  have hf := finds_elem p s I B x y h tx hK
  obtain ⟨g, kq, z, e, _, _, hg, _, _⟩ := h
  obtain ⟨rfl, rfl⟩ := agg_two e
  exact found_w p s s' 313 315 448 _ g _ a n t hf hT hg
end Go.Proofs.YtdbdbaepmdmnfaaGreatDoor

namespace Go.Proofs.YtdbdbaepmdmnfaaGreatDoor
open Go.RowKit
set_option maxRecDepth 20000 in
set_option maxHeartbeats 2000000 in
theorem textsOf_oneN (m g F : Nat) (caps : List Value) (hcf : ∀ (args : Array Value) (w : World), (callFunc F args).run Tryz.prog w = .ok (.enter F args) w) (a n : Int) (t tx : ByteArray) (w : World) (hg : w.heap[g]? = some (.cells #[.func (.func F) #[] caps.toArray, .nilFunc] 338 (0, 0)))
    (HTx : ∀ W, Only (fun _ => False) w W → Calls Tryz.prog 235 #[.agg #[.int .i64 a, .int .i64 n, .string t]] W fun en w' => en = .returned (.string tx) ∧ Only (fun _ => False) W w')
    (HW : ∀ W, Only (fun _ => False) w W → Calls Tryz.prog F (.pointer (some ⟨m, 0, none⟩) :: caps).toArray W fun en w' => en = .returned (.agg #[.int .i64 a, .int .i64 n, .string t]) ∧ Only (fun _ => False) W w') :
    Calls Tryz.prog 281 #[.pointer (some ⟨m, 0, none⟩), .slice (some ⟨g, 0, none⟩) 1 1] w fun en w' => en = .returned (.slice (some ⟨w.heap.size, 0, none⟩) 1 1) ∧ w'.heap[w.heap.size]? = some (.cells #[.string tx] 9 (0, 0)) ∧ Only (fun _ => False) w w' := by
  have hsn := hsnT
  have hm := mk23one
  have hsf := hsfT
  have g0 : w.cell? ⟨g, 0, none⟩ = some (.func (.func F) #[] caps.toArray) := cell_of hg rfl
  have g1 : w.cell? ⟨g, 1, none⟩ = some (.nilFunc) := cell_of hg rfl
  have gl := heap_lt hg
  have O2 := (onlyA w (.cells #[.string ⟨#[]⟩] 9)).alloc (.cells #[.func (.func F) #[] caps.toArray, .nilFunc] 338)
  have HW1 := hide (HW _ O2)
  have HTy := hide HTx
  have HO2 := hide O2
  clear hg HTx HW O2
  go_enter Tryz.func281, Tryz.ntmps281
  go_wp2
  go_loopg [13] 1 (fun gh s13 wr => (gh = 1 ∧ s13 = .int .i64 0 ∧ wr = w.alloc (.cells #[.string ⟨#[]⟩] 9)) ∨ (gh = 0 ∧ s13 = .int .i64 1 ∧ wr.heap[w.heap.size]? = some (.cells #[.string tx] 9 (0, 0)) ∧ Only (fun _ => False) w wr))
  case atStart => exact Or.inl ⟨rfl, rfl, rfl⟩
  case round =>
    rcases hrel with ⟨hgh, rfl, hw⟩ | ⟨hgh, rfl, h1, h3⟩
    · subst hw
      go_wp2_with fail
      refine (HW1.out).mono ?_
      rintro en w2 ⟨rfl, ho2⟩
      have hO2 := HO2.out.trans ho2 (fun _ _ e => e)
      have HT2 := hide (HTy.out w2 hO2)
      have hb2 := (ho2.block w.heap.size (by simp; omega) (fun e => e)).trans ((Below.heap_alloc _ _ _ (by simp)).trans (new0 w (.cells #[.string ⟨#[]⟩] 9)))
      have HB2 := hide hb2
      have HOw := hide hO2
      clear ho2 hO2 hb2 HW1 HTy
      go_wp2_with (go_at_call 235; refine (HT2.out).mono ?_; rintro en w3 ⟨rfl, ho3⟩; have hb3 := (ho3.block w.heap.size (heap_lt HB2.out) (fun e => e)).trans HB2.out; have r0 : w3.cell? ⟨w.heap.size, 0, none⟩ = some (.string ⟨#[]⟩) := cell_of hb3 rfl; have rf := free_of hb3; have rl := heap_lt hb3; have HB3 := hide hb3; have HO3 := hide (HOw.out.trans ho3 (fun _ _ e => e)); clear hb3 ho3)
      go_roundg 0
      case measure => omega
      case rel => exact Or.inr ⟨rfl, rfl, set1 HB3.out _, HO3.out.setCell (p := ⟨w.heap.size, 0, none⟩) (fun h => absurd h (by show ¬ w.heap.size < w.heap.size; omega)) _⟩
    · go_wp2
      go_ret
      exact ⟨rfl, h1, h3⟩
set_option maxRecDepth 20000 in
set_option maxHeartbeats 2000000 in
theorem key_doN (p : Pl8) (s : St8) (B : Nat) (I : Nat → World → Value → Prop) (z : Value) (hz : KeyK I B p.wN z) (a n : Int) (t tx : ByteArray) (htx : tx.size ≤ 500) (hI : ∀ x y, I B p.wN (.agg #[x, y]) → Gives p s x (.agg #[.int .i64 a, .int .i64 n, .string t]) ∧ y = .nilFunc)
    (HTx : ∀ W, On8 p s W → Calls Tryz.prog 235 #[.agg #[.int .i64 a, .int .i64 n, .string t]] W fun en w' => en = .returned (.string tx) ∧ Only (fun _ => False) W w') : KeyGives p s z tx := by
  obtain ⟨lb, ab, g, x, y, z, rfl, _, hlb, hg, hab, hA, hi⟩ := hz
  obtain ⟨⟨F, caps, rfl, hcf1, hG⟩, rfl⟩ := hI x y hi
  obtain ⟨nb, e, _, hnb⟩ := hA
  obtain rfl : z = .func (.func 371) #[] #[.pointer (some ⟨nb, 0, none⟩)] := by injection e with e; have := congrArg (fun a => a[0]?) e; simpa using this
  refine ⟨377, [.pointer (some ⟨lb, 0, none⟩), .pointer (some ⟨ab, 0, none⟩)], rfl, cf377, fun w h => ?_⟩
  have hcf := cf371
  have hlw := (h.O.block lb (heap_lt hlb) (fun e => e)).trans hlb
  have hgw := (h.O.block g (heap_lt hg) (fun e => e)).trans hg
  have haw := (h.O.block ab (heap_lt hab) (fun e => e)).trans hab
  have hnw := (h.O.block nb (heap_lt hnb) (fun e => e)).trans hnb
  have l0 : w.cell? ⟨lb, 0, none⟩ = some (.slice (some ⟨g, 0, none⟩) 1 1) := cell_of hlw rfl
  have ll := heap_lt hlw
  have HT := hide (fun W (hW : Only (fun _ => False) w W) => textsOf_oneN p.m g F caps hcf1 a n t tx W ((hW.block g (heap_lt hgw) (fun e => e)).trans hgw) (fun W' h' => HTx W' (h.calm (hW.trans h' (fun _ _ e => e)))) (fun W' h' => hG W' (h.calm (hW.trans h' (fun _ _ e => e)))))
  have HA := hide haw
  have HN := hide hnw
  have HB := hide (bounded_do (some ⟨p.m, 0, none⟩) tx htx)
  clear h hlb hg hab hnb hlw hgw haw hnw hG HTx hI hi hcf1
  go_enter Tryz.func377, Tryz.ntmps377
  go_wp2_with fail
  refine (HT.out _ (onlyA w _)).mono ?_
  rintro en w2 ⟨rfl, hb2, ho2⟩
  have hO := (onlyA w _).trans ho2 (fun _ _ e => e)
  have haw := (hO.block ab (heap_lt HA.out) (fun e => e)).trans HA.out
  have a0 : w2.cell? ⟨ab, 0, none⟩ = some (.func (.func 371) #[] #[.pointer (some ⟨nb, 0, none⟩)]) := cell_of haw rfl
  have al := heap_lt haw
  have hnw := (hO.block nb (heap_lt HN.out) (fun e => e)).trans HN.out
  have HAr := hide (arr_do (some ⟨p.m, 0, none⟩) nb 0 w2 hnw)
  have hb3 : w2.heap[w.heap.size + 1]? = some (.cells #[.string tx] 9 (0, 0)) := by simpa using hb2
  have HJ := hide (join_one (w.heap.size + 1) 1 tx ⟨#[44]⟩ w2 (cell_of hb3 rfl))
  have hb0 := (ho2.block w.heap.size (by simp) (fun e => e)).trans (new0 w _)
  have r0 : w2.cell? ⟨w.heap.size, 0, none⟩ = some (.int .i64 0) := cell_of hb0 rfl
  have r1 : w2.cell? ⟨w.heap.size, 1, none⟩ = some (.string ⟨#[]⟩) := cell_of hb0 rfl
  have rf := free_of hb0
  have rl := heap_lt hb0
  have HO := hide hO
  clear hO ho2 hb2 hb3 hb0 haw hnw HT HA HN
  go_wp2_with (first | (go_at_call 283; refine (HJ.out).mono ?_; rintro en w' ⟨rfl, h3⟩; subst w') | (go_at_call 347; refine (HB.out _).mono ?_; rintro en w' ⟨rfl, h3⟩; subst w') | (go_at_call 371; refine (HAr.out).mono ?_; rintro en w' ⟨rfl, h3⟩; subst w'))
  refine bodyPost_ret (v := .agg #[.int .i64 0, .string tx]) (by simp [results, Tryz.results377, go_sem, r0, r1]) rfl ⟨rfl, ?_⟩
  exact (HO.out.setCell (p := ⟨w.heap.size, 0, none⟩) (fun h => absurd h (by show ¬ w.heap.size < w.heap.size; omega)) _).setCell (p := ⟨w.heap.size, 1, none⟩) (fun h => absurd h (by show ¬ w.heap.size < w.heap.size; omega)) _
end Go.Proofs.YtdbdbaepmdmnfaaGreatDoor

