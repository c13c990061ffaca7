import Derived.Test.YtdbdbaepmdmnfaaGreatDoorZ30
import Derived.Test.YtdbdbaepmdmnfaaGreatDoorZ15
namespace Go.Proofs.YtdbdbaepmdmnfaaGreatDoor
open Go.RowKit
theorem cf346 (args : Array Value) (w : World) : (callFunc 346 args).run Tryz.prog w = .ok (.enter 346 args) w := callFunc_in Tryz.func346 (by kernel_rfl) rfl args w
theorem cf292d (args : Array Value) (w : World) : (callFunc 292 args).run Tryz.prog w = .ok (.enter 292 args) w := callFunc_in Tryz.func292 (by kernel_rfl) rfl args w
theorem cf437 (args : Array Value) (w : World) : (callFunc 437 args).run Tryz.prog w = .ok (.enter 437 args) w := callFunc_in Tryz.func437 (by kernel_rfl) rfl args w
theorem cf398 (args : Array Value) (w : World) : (callFunc 398 args).run Tryz.prog w = .ok (.enter 398 args) w := callFunc_in Tryz.func398 (by kernel_rfl) rfl args w
theorem cf278 (args : Array Value) (w : World) : (callFunc 278 args).run Tryz.prog w = .ok (.enter 278 args) w := callFunc_in Tryz.func278 (by kernel_rfl) rfl args w
set_option maxRecDepth 20000 in
set_option maxHeartbeats 2000000 in
/-- Two texts joined. -/
theorem gives_join (p : Pl8) (s : St8) (I J : Nat → World → Value → Prop) (B : Nat) (x y : Value) (h : JoinK I J B p.wN (.agg #[x, y])) (a1 n1 a2 n2 : Int) (t1 t2 tx1 tx2 : ByteArray) (hI : ∀ x y, I B p.wN (.agg #[x, y]) → Gives p s x (.agg #[.int .i64 a1, .int .i64 n1, .string t1])) (hJ : ∀ x y, J B p.wN (.agg #[x, y]) → Gives p s x (.agg #[.int .i64 a2, .int .i64 n2, .string t2]))
    (HT1 : ∀ W, On8 p s W → Calls Tryz.prog 235 #[.agg #[.int .i64 a1, .int .i64 n1, .string t1]] W fun en w' => en = .returned (.string tx1) ∧ Only (fun _ => False) W w') (HT2 : ∀ W, On8 p s W → Calls Tryz.prog 235 #[.agg #[.int .i64 a2, .int .i64 n2, .string t2]] W fun en w' => en = .returned (.string tx2) ∧ Only (fun _ => False) W w') (hsz : tx1.size + tx2.size ≤ 500) : Gives p s x (.agg #[.int .i64 2, .int .i64 0, .string (tx1 ++ tx2)]) ∧ y = .nilFunc := by
  obtain ⟨lb, rb, x1, y1, x2, y2, e, _, hl, hr, hi, hj⟩ := h
  obtain ⟨rfl, rfl⟩ := agg_two e
  refine ⟨?_, rfl⟩
  obtain ⟨F1, caps1, rfl, hcf1, hG1⟩ := hI _ _ hi
  obtain ⟨F2, caps2, rfl, hcf2, hG2⟩ := hJ _ _ hj
  refine ⟨346, [.pointer (some ⟨lb, 0, none⟩), .pointer (some ⟨rb, 0, none⟩)], rfl, cf346, fun w h => ?_⟩
  unfold Enters at hcf1 hcf2
  have hlw := (h.O.block lb (heap_lt hl) (fun e => e)).trans hl
  have hrw := (h.O.block rb (heap_lt hr) (fun e => e)).trans hr
  have el : w.cell? ⟨lb, 0, none⟩ = some (.func (.func F1) #[] caps1.toArray) := cell_of hlw rfl
  have er : w.cell? ⟨rb, 0, none⟩ = some (.func (.func F2) #[] caps2.toArray) := cell_of hrw rfl
  have ll := heap_lt hlw
  have rl := heap_lt hrw
  have HG1 := hide (fun W (hW : Only (fun _ => False) w W) => hG1 W (h.calm hW))
  have HG2 := hide (fun W (hW : Only (fun _ => False) w W) => hG2 W (h.calm hW))
  have HTa := hide (fun W (hW : Only (fun _ => False) w W) => HT1 W (h.calm hW))
  have HTb := hide (fun W (hW : Only (fun _ => False) w W) => HT2 W (h.calm hW))
  have hss : (tx1 ++ tx2).size ≤ 500 := by rw [ByteArray.size_append]; omega
  have HB := hide (bounded_do (some ⟨p.m, 0, none⟩) (tx1 ++ tx2) hss)
  have HO := hide (ofText (tx1 ++ tx2))
  have hadd : ∀ W, (Op.stringOp .add tx1 tx2).run Tryz.prog W = .ok (.string (tx1 ++ tx2)) W := fun W => run_string_add_sum W _ _ (by omega)
  clear h hlw hrw hG1 hG2 HT1 HT2 hI hJ hi hj hl hr
  go_enter Tryz.func346, Tryz.ntmps346
  go_wp2_with fail
  refine (HG1.out _ (onlyA w _)).mono ?_
  rintro en w2 ⟨rfl, ho2⟩
  have hO2 := (onlyA w _).trans ho2 (fun _ _ e => e)
  have HB0 := hide ((ho2.block w.heap.size (by simp) (fun e => e)).trans (new0 w _))
  have HO2 := hide hO2
  clear ho2 hO2 HG1
  go_wp2_with fail
  refine (HTa.out w2 HO2.out).mono ?_
  rintro en w3 ⟨rfl, ho3⟩
  have hO3 := HO2.out.trans ho3 (fun _ _ e => e)
  have er3 := (hO3.cell (p := ⟨rb, 0, none⟩) rl (fun e => e)).trans er
  have rl3 := Nat.lt_of_lt_of_le rl hO3.size
  have HB3 := hide ((ho3.block w.heap.size (heap_lt HB0.out) (fun e => e)).trans HB0.out)
  have HO3 := hide hO3
  clear ho3 hO3 HTa HB0
  go_wp2_with fail
  refine (HG2.out w3 HO3.out).mono ?_
  rintro en w4 ⟨rfl, ho4⟩
  have hO4 := HO3.out.trans ho4 (fun _ _ e => e)
  have HB4 := hide ((ho4.block w.heap.size (heap_lt HB3.out) (fun e => e)).trans HB3.out)
  have HO4 := hide hO4
  clear ho4 hO4 HG2 HB3
  go_wp2_with fail
  refine (HTb.out w4 HO4.out).mono ?_
  rintro en w5 ⟨rfl, ho5⟩
  have hO5 := HO4.out.trans ho5 (fun _ _ e => e)
  have hb5 := (ho5.block w.heap.size (heap_lt HB4.out) (fun e => e)).trans HB4.out
  have r0 : w5.cell? ⟨w.heap.size, 0, none⟩ = some (.int .i64 0) := cell_of hb5 rfl
  have r1 : w5.cell? ⟨w.heap.size, 1, none⟩ = some (.int .i64 0) := cell_of hb5 rfl
  have r2 : w5.cell? ⟨w.heap.size, 2, none⟩ = some (.string ⟨#[]⟩) := cell_of hb5 rfl
  have rf := free_of hb5
  have rl5 := heap_lt hb5
  have HO5 := hide hO5
  have HB5 := hide hb5
  clear ho5 hO5 hb5 HTb HB4 hss hsz
  generalize hT : tx1 ++ tx2 = tt at *
  have HTT := hide hT
  clear hT
  go_wp2_with (first | (go_at_call 347; refine (HB.out _).mono ?_; rintro en w' ⟨rfl, h3⟩; subst w') | (go_at_call 96; refine (HO.out _).mono ?_; rintro en w' ⟨rfl, h3⟩; subst h3))
  have hX := (Below.heap_alloc (((w5.setCell ⟨w.heap.size, 0, none⟩ (.int .i64 2)).setCell ⟨w.heap.size, 1, none⟩ (.int .i64 0)).setCell ⟨w.heap.size, 2, none⟩ (.string tt)) (.cells #[.int .i64 2, .int .i64 0, .string tt] 203) w.heap.size (by simpa using rl5)).trans (set3 HB5.out (.int .i64 2) (.int .i64 0) (.string tt))
  have q0 := cell_of (o := 0) hX rfl
  have q1 := cell_of (o := 1) hX rfl
  have q2 := cell_of (o := 2) hX rfl
  refine bodyPost_ret (v := .agg #[.int .i64 2, .int .i64 0, .string tt]) (by simp [results, Tryz.results346, go_sem, q0, q1, q2]) rfl ⟨by rw [HTT.out], ?_⟩
  exact ((((HO5.out.setCell (p := ⟨w.heap.size, 0, none⟩) (fun h => absurd h (by show ¬ w.heap.size < w.heap.size; omega)) _).setCell (p := ⟨w.heap.size, 1, none⟩) (fun h => absurd h (by show ¬ w.heap.size < w.heap.size; omega)) _).setCell (p := ⟨w.heap.size, 2, none⟩) (fun h => absurd h (by show ¬ w.heap.size < w.heap.size; omega)) _).alloc _)
set_option maxRecDepth 20000 in
set_option maxHeartbeats 2000000 in
/-- An array is emptied. -/
theorem does_del (p : Pl8) (s : St8) (B : Nat) (v : Value) (h : DelK B p.wN v) (hA : s.A.length ≤ 100) : Does p s { s with A := [] } v := by
  obtain ⟨ab, z, rfl, _, hab, nb, e, _, hnb⟩ := h
  obtain rfl : z = .func (.func 371) #[] #[.pointer (some ⟨nb, 0, none⟩)] := by injection e with e; have := congrArg (fun a => a[0]?) e; simpa using this
  refine ⟨292, [.pointer (some ⟨ab, 0, none⟩)], rfl, cf292d, fun w h => ?_⟩
  have hcf := cf371
  have haw := (h.O.block ab (heap_lt hab) (fun e => e)).trans hab
  have hnw := (h.O.block nb (heap_lt hnb) (fun e => e)).trans hnb
  have a0 : w.cell? ⟨ab, 0, none⟩ = some (.func (.func 371) #[] #[.pointer (some ⟨nb, 0, none⟩)]) := cell_of haw rfl
  have al := heap_lt haw
  obtain ⟨po, pn, pc, hM⟩ := h.M
  have m0 : w.cell? ⟨p.m, 0, none⟩ = some (.pointer (some ⟨p.ab, 0, none⟩)) := cell_of hM rfl
  have ml := heap_lt hM
  have HAr := hide (fun W (hW : Only (fun _ => False) w W) => arr_do (some ⟨p.m, 0, none⟩) nb 0 W ((hW.block nb (heap_lt hnw) (fun e => e)).trans hnw))
  have HE : Hid (∀ W, On8 p s W → Calls Tryz.prog 293 #[.pointer (some ⟨p.ab, 0, none⟩), .int .i64 0] W fun en w' => en = .returned (.tuple #[]) ∧ On8 p { s with A := [] } w' ∧ Kept p W w') := hide (fun W h => by
    obtain ⟨kv, hR⟩ := h.R
    refine (empty_all _ _ _ _ kv s.A hA W hR).mono ?_
    rintro en w' ⟨e, hR', ho⟩
    have ho2 : Only (fun q => q = p.akb ∨ q = p.aM ∨ kv.ownBlock = some q) W w' := ho.mono (fun q _ e => by rcases e with e | e; exact Or.inl e; exact Or.inr (Or.inl e))
    exact ⟨e, h.turnA hR ho2 hR', Kept.ofA h hR ho2 hR' (fun q hq => by cases hq)⟩)
  have HH := hide h
  have HAb := hide hab
  have d0 : w.drew.cell? ⟨p.m, 0, none⟩ = some (.pointer (some ⟨p.ab, 0, none⟩)) := m0
  have d1 : w.drew.cell? ⟨ab, 0, none⟩ = some (.func (.func 371) #[] #[.pointer (some ⟨nb, 0, none⟩)]) := a0
  clear h hab hnb haw hnw hM
  go_enter Tryz.func292, Tryz.ntmps292
  go_upto_region 1 with fail
  go_region_held3 (fun W => W.cell? ⟨p.m, 0, none⟩ = some (.pointer (some ⟨p.ab, 0, none⟩)) ∧ W.cell? ⟨ab, 0, none⟩ = some (.func (.func 371) #[] #[.pointer (some ⟨nb, 0, none⟩)])) (repeat (first | (with_reducible assumption) | (with_reducible refine And.intro ?_ ?_)))
    (first | (go_at_call 371; refine (HAr.out _ (toDrew (Only.refl _ w))).mono ?_; rintro en w' ⟨rfl, h3⟩; subst w') | (go_at_call 293; refine (HE.out _ (HH.out.calm (toDrew (Only.refl _ w)))).mono ?_; rintro en w2 ⟨rfl, hq, hk⟩; obtain ⟨po2, pn2, pc2, hM2⟩ := hq.M; have x0 : w2.cell? ⟨p.m, 0, none⟩ = some (.pointer (some ⟨p.ab, 0, none⟩)) := cell_of hM2 rfl; have x1 : w2.cell? ⟨ab, 0, none⟩ = some (.func (.func 371) #[] #[.pointer (some ⟨nb, 0, none⟩)]) := cell_of ((hq.O.block ab (heap_lt HAb.out) (fun e => e)).trans HAb.out) rfl; have H1 := hide hq; have H2 := hide ((Kept.of (toDrew (Only.refl _ w))).trans hk); clear hq hk hM2))
  go_wp2
  go_ret
  exact ⟨rfl, H1.out, H2.out⟩
end Go.Proofs.YtdbdbaepmdmnfaaGreatDoor

namespace Go.Proofs.YtdbdbaepmdmnfaaGreatDoor
open Go.RowKit
set_option maxRecDepth 20000 in
set_option maxHeartbeats 2000000 in
theorem cut_do (pm : Option Addr) (t : ByteArray) (ht : t.size ≤ 500) (w : World) : Calls Tryz.prog 438 #[.pointer pm, .string t, .string ⟨#[32]⟩] w fun en w' => ∃ v, en = .returned v ∧ w'.ownsRow w.heap.size 9 1 v (words [] t.data.toList).length (strsV (words [] t.data.toList)) ∧ Only (fun _ => False) w w' := by
  have HC := hide (cut_blank t ht w)
  go_enter Tryz.func438, Tryz.ntmps438
  go_wp2_with fail
  refine (HC.out).mono ?_
  rintro en w2 ⟨v, rfl, hr, ho⟩
  obtain ⟨po, pc, rfl⟩ := ownsRow_slice hr
  have HR := hide hr
  have HO := hide ho
  clear hr ho HC
  go_wp2
  go_ret
  exact ⟨_, rfl, HR.out, HO.out⟩
theorem own_base2 {w : World} {B B' : Nat} {e : TypeId} {z : Nat} {v : Value} {n : Nat} {xs : List Value} (h : w.ownsRow B e z v n xs) (hb : B' ≤ B) : w.ownsRow B' e z v n xs := by
  refine ⟨h.1, ?_⟩
  rcases h.2 with h2 | ⟨g, cap, cur, h1, h2, h3⟩
  · exact Or.inl h2
  · exact Or.inr ⟨g, cap, cur, h1, Nat.le_trans hb h2, h3⟩
set_option maxRecDepth 20000 in
set_option maxHeartbeats 2000000 in
/-- What cuts by FS. -/
theorem cutting_do (p : Pl8) (s : St8) (t : ByteArray) (ht : t.size ≤ 500) (f0 : s.cs[6]? = some (.int .i64 2)) (f1 : s.cs[7]? = some (.int .i64 0)) (f2 : s.cs[8]? = some (.string ⟨#[32]⟩)) (w : World) (h : On8 p s w) :
    Calls Tryz.prog 437 #[.pointer (some ⟨p.m, 0, none⟩), .string t] w fun en w' => ∃ v, en = .returned v ∧ w'.ownsRow w.heap.size 9 1 v (words [] t.data.toList).length (strsV (words [] t.data.toList)) ∧ Only (fun _ => False) w w' := by
  obtain ⟨po, pn, pc, hM⟩ := h.M
  have HT := hide (mtext8 p.m p.ab p.vb s.txt (.slice po pn pc) _ s.out.size s.fuel 0 2 2 0 ⟨#[32]⟩ (by decide) (by omega) w hM (h.V.cell f0) (h.V.cell f1) (h.V.cell f2))
  have HC := hide (cut_do (some ⟨p.m, 0, none⟩) t ht)
  clear h hM f0 f1 f2 ht
  go_enter Tryz.func437, Tryz.ntmps437
  go_wp2_with fail
  refine (HT.out).mono ?_
  rintro en w2 ⟨rfl, ho2⟩
  have HO2 := hide ho2
  clear ho2 HT
  go_wp2_with fail
  refine (HC.out w2).mono ?_
  rintro en w3 ⟨v, rfl, hr, ho3⟩
  obtain ⟨po, pc, rfl⟩ := ownsRow_slice hr
  have HR := hide hr
  have HO3 := hide ho3
  clear hr ho3 HC
  go_wp2
  go_ret
  exact ⟨_, rfl, own_base2 HR.out HO2.out.size, HO2.out.trans HO3.out (fun _ _ e => e)⟩
/-- The digits of a small number. -/
def dd (i : Nat) : List UInt8 := if i < 10 then [UInt8.ofNat (48 + i)] else [UInt8.ofNat (48 + i / 10), UInt8.ofNat (48 + i % 10)]
theorem dec_dd {i : Nat} (h : i < 100) : Lib.decDigits i = dd i := by
  unfold dd
  by_cases h1 : i < 10
  · rw [if_pos h1, Lib.decDigits_one h1]
  · rw [if_neg h1, Lib.decDigits_two h1 h]
theorem dec_inj (i j : Nat) (hi : i < 20) (hj : j < 20) (e : Lib.decDigits i = Lib.decDigits j) : i = j := by
  have h : ∀ i : Fin 20, ∀ j : Fin 20, dd i.val = dd j.val → i = j := by decide
  rw [dec_dd (by omega), dec_dd (by omega)] at e
  exact congrArg Fin.val (h ⟨i, hi⟩ ⟨j, hj⟩ e)
/-- The first i elements that split makes. -/
def splitA (L : List (List UInt8)) : AL := L.zipIdx.map (fun q => (ofB (Lib.decDigits (q.2 + 1)), rdK (ofB q.1), rdN (ofB q.1), ofB q.1))
theorem splitA_take (L : List (List UInt8)) (i : Nat) (x : List UInt8) (hx : L[i]? = some x) : splitA (L.take (i + 1)) = splitA (L.take i) ++ [(ofB (Lib.decDigits (i + 1)), rdK (ofB x), rdN (ofB x), ofB x)] := by
  have hl : i < L.length := (List.getElem?_eq_some_iff.1 hx).1
  have e : L.take (i + 1) = L.take i ++ [x] := by rw [List.take_add_one, hx]; rfl
  rw [e]
  unfold splitA
  rw [List.zipIdx_append, List.map_append]
  simp [List.length_take, Nat.min_eq_left (Nat.le_of_lt hl)]
theorem splitA_new (L : List (List UInt8)) (hL : L.length ≤ 15) (i : Nat) (hi : i < L.length) : ∀ q ∈ splitA (L.take i), q.1 ≠ ofB (Lib.decDigits (i + 1)) := by
  intro q hq e
  unfold splitA at hq
  obtain ⟨⟨y, j⟩, hm, rfl⟩ := List.mem_map.1 hq
  have hj : j < i := by
    have := List.mem_zipIdx hm
    simp at this
    omega
  have := congrArg (fun b => b.data.toList) e
  have := dec_inj (j + 1) (i + 1) (by omega) (by omega) (by simpa [ofB] using this)
  omega
theorem splitA_len (L : List (List UInt8)) : (splitA L).length = L.length := by simp [splitA]
end Go.Proofs.YtdbdbaepmdmnfaaGreatDoor

namespace Go.Proofs.YtdbdbaepmdmnfaaGreatDoor
open Go.RowKit
/-- A row of texts that is not the keys'. -/
def RowK (p : Pl8) (L : List (List UInt8)) (po : Option Addr) (W : World) : Prop := 0 < L.length → ∃ g cur, po = some ⟨g, 0, none⟩ ∧ W.heap[g]? = some (.cells cur 9 (0, 0)) ∧ ¬ KRow p W g ∧ ∀ (i : Nat) x, L[i]? = some x → cur[i]? = some (.string (ofB x))
theorem RowK.of {p : Pl8} {s : St8} {L : List (List UInt8)} {po : Option Addr} {pc : Nat} {W0 W : World} (h : On8 p s W0) (ho : Only (fun _ => False) W0 W) (hr : W.ownsRow W0.heap.size 9 1 (.slice po L.length pc) L.length (strsV L)) : RowK p L po W := fun h0 => by
  rcases hr.2 with ⟨_, h2⟩ | ⟨g, cap, cur, e, hb, hg, hc, hm, hz, htk⟩
  · omega
  · injection e with e1 _ _
    refine ⟨g, cur, e1, hg, h.notRow ho hb, fun i x hx => ?_⟩
    have hl : i < L.length := (List.getElem?_eq_some_iff.1 hx).1
    have : (cur.toList.take (L.length * 1))[i]? = (strsV L)[i]? := by rw [htk]
    rw [List.getElem?_take, if_pos (by omega)] at this
    rw [← Array.getElem?_toList, this]
    simp [strsV, hx]
theorem RowK.kept {p : Pl8} {s : St8} {L : List (List UInt8)} {po : Option Addr} {W w' : World} (h : RowK p L po W) (h0 : On8 p s W) (hk : Kept p W w') : RowK p L po w' := fun hl => by
  obtain ⟨g, cur, e, hg, hn, hc⟩ := h hl
  obtain ⟨h1, h2⟩ := hk.new9 h0 hn hg
  exact ⟨g, cur, e, h1, h2, hc⟩
set_option maxRecDepth 20000 in
set_option maxHeartbeats 4000000 in
theorem split_do (p : Pl8) (s : St8) (pb tb ab nb F : Nat) (caps : List Value) (y : Value) (t : ByteArray) (ht : t.size ≤ 500) (hL : (words [] t.data.toList).length ≤ 15) (hxl : ∀ x ∈ words [] t.data.toList, x.length ≤ 500) (hA : s.A.length ≤ 100) (a n : Int) (tt : ByteArray) (hcf1 : Enters F) (HG : ∀ W, On8 p s W → Calls Tryz.prog F (.pointer (some ⟨p.m, 0, none⟩) :: caps).toArray W fun en w' => en = .returned (.agg #[.int .i64 a, .int .i64 n, .string tt]) ∧ Only (fun _ => False) W w') (HTx : ∀ W, On8 p s W → Calls Tryz.prog 235 #[.agg #[.int .i64 a, .int .i64 n, .string tt]] W fun en w' => en = .returned (.string t) ∧ Only (fun _ => False) W w')
    (f0 : s.cs[6]? = some (.int .i64 2)) (f1 : s.cs[7]? = some (.int .i64 0)) (f2 : s.cs[8]? = some (.string ⟨#[32]⟩)) (hpb : p.wN.heap[pb]? = some (.cells #[.func (.func 437) #[] #[]] 500 (0, 0))) (htb : p.wN.heap[tb]? = some (.cells #[.func (.func F) #[] caps.toArray, y] 338 (0, 0))) (hab : p.wN.heap[ab]? = some (.cells #[.func (.func 371) #[] #[.pointer (some ⟨nb, 0, none⟩)]] 430 (0, 0))) (hnb : p.wN.heap[nb]? = some (.cells #[.int .i64 0] 3 (0, 0))) (w : World) (h : On8 p s w) :
    Calls Tryz.prog 398 #[.pointer (some ⟨p.m, 0, none⟩), .pointer (some ⟨pb, 0, none⟩), .pointer (some ⟨tb, 0, none⟩), .pointer (some ⟨ab, 0, none⟩)] w fun en w' => en = .returned (.agg #[.int .i64 1, .int .i64 (words [] t.data.toList).length, .string ⟨#[]⟩]) ∧ On8 p { s with A := splitA (words [] t.data.toList) } w' ∧ Kept p w w' := by
  have hcf := cf371
  have hcf7 := cf437
  unfold Enters at hcf1
  have hpw := (h.O.block pb (heap_lt hpb) (fun e => e)).trans hpb
  have htw := (h.O.block tb (heap_lt htb) (fun e => e)).trans htb
  have p0 : w.cell? ⟨pb, 0, none⟩ = some (.func (.func 437) #[] #[]) := cell_of hpw rfl
  have t0 : w.cell? ⟨tb, 0, none⟩ = some (.func (.func F) #[] caps.toArray) := cell_of htw rfl
  have pl := heap_lt hpw
  have tl := heap_lt htw
  have HH := hide h
  have HG1 := hide HG
  have HT1 := hide HTx
  have HCu := hide (cutting_do p s t ht f0 f1 f2)
  have HAb := hide hab
  have HNb := hide hnb
  clear h HG HTx hpw htw hpb htb hab hnb f0 f1 f2
  have d0 : (w.alloc (.cells #[.int .i64 0, .int .i64 0, .string ⟨#[]⟩] 203)).drew.cell? ⟨pb, 0, none⟩ = some (.func (.func 437) #[] #[]) := past p0 _
  have d1 : (w.alloc (.cells #[.int .i64 0, .int .i64 0, .string ⟨#[]⟩] 203)).drew.cell? ⟨tb, 0, none⟩ = some (.func (.func F) #[] caps.toArray) := past t0 _
  go_enter Tryz.func398, Tryz.ntmps398
  go_upto_region 1 with fail
  go_region_held3 (fun W => W.cell? ⟨pb, 0, none⟩ = some (.func (.func 437) #[] #[]) ∧ W.cell? ⟨tb, 0, none⟩ = some (.func (.func F) #[] caps.toArray)) (repeat (first | (with_reducible assumption) | (with_reducible refine And.intro ?_ ?_)))
    (first | (go_at_call 235; refine (HT1.out w2 (HH.out.calm HO2.out)).mono ?_; rintro en w3 ⟨rfl, ho3⟩; have hO3 := HO2.out.trans ho3 (fun _ _ e => e); have x3 := (hO3.cell (p := ⟨pb, 0, none⟩) pl (fun e => e)).trans p0; have y3 := (hO3.cell (p := ⟨tb, 0, none⟩) tl (fun e => e)).trans t0; have HO3 := hide hO3; have HB3 := hide ((ho3.block w.heap.size (heap_lt HB2.out) (fun e => e)).trans HB2.out); clear ho3 hO3) | (go_at_call 437; refine (HCu.out w3 (HH.out.calm HO3.out)).mono ?_; rintro en w4 ⟨v, rfl, hr4, ho4⟩; obtain ⟨po, pc, rfl⟩ := ownsRow_slice hr4; have hO4 := HO3.out.trans ho4 (fun _ _ e => e); have x4 := (hO4.cell (p := ⟨pb, 0, none⟩) pl (fun e => e)).trans p0; have y4 := (hO4.cell (p := ⟨tb, 0, none⟩) tl (fun e => e)).trans t0; have HO4 := hide hO4; have HB4 := hide ((ho4.block w.heap.size (heap_lt HB3.out) (fun e => e)).trans HB3.out); have HR4 := hide (own_base2 hr4 HO3.out.size); clear ho4 hO4 hr4) | (with_reducible show Calls Tryz.prog F _ _ _; refine (HG1.out _ (HH.out.calm (toDrew (onlyA w (.cells #[.int .i64 0, .int .i64 0, .string ⟨#[]⟩] 203))))).mono ?_; rintro en w2 ⟨rfl, ho2⟩; have hO2 := (toDrew (onlyA w (.cells #[.int .i64 0, .int .i64 0, .string ⟨#[]⟩] 203))).trans ho2 (fun _ _ e => e); have x2 := (hO2.cell (p := ⟨pb, 0, none⟩) pl (fun e => e)).trans p0; have y2 := (hO2.cell (p := ⟨tb, 0, none⟩) tl (fun e => e)).trans t0; have HO2 := hide hO2; have HB2 := hide ((ho2.block w.heap.size (by simp) (fun e => e)).trans (heapD (new0 w _))); clear ho2 hO2))
  clear HG1 HT1 HCu HB2 HB3 HO2 HO3 x2 x3 x4 y2 y3 y4 d0 d1 p0 t0
  generalize hLL : words [] t.data.toList = L at *
  have hq4 := HH.out.calm HO4.out
  have haw := (hq4.O.block ab (heap_lt HAb.out) (fun e => e)).trans HAb.out
  have hnw := (hq4.O.block nb (heap_lt HNb.out) (fun e => e)).trans HNb.out
  have a0 : w4.cell? ⟨ab, 0, none⟩ = some (.func (.func 371) #[] #[.pointer (some ⟨nb, 0, none⟩)]) := cell_of haw rfl
  have al := heap_lt haw
  have HAr := hide (arr_do (some ⟨p.m, 0, none⟩) nb 0 w4 hnw)
  obtain ⟨po2, pn2, pc2, hM4⟩ := hq4.M
  have m0 : w4.cell? ⟨p.m, 0, none⟩ = some (.pointer (some ⟨p.ab, 0, none⟩)) := cell_of hM4 rfl
  have ml := heap_lt hM4
  have HE : Hid (∀ W, On8 p s W → Calls Tryz.prog 293 #[.pointer (some ⟨p.ab, 0, none⟩), .int .i64 0] W fun en w' => en = .returned (.tuple #[]) ∧ On8 p { s with A := [] } w' ∧ Kept p W w') := hide (fun W h => by
    obtain ⟨kv, hR⟩ := h.R
    refine (empty_all _ _ _ _ kv s.A hA W hR).mono ?_
    rintro en w' ⟨e, hR', ho⟩
    have ho2 : Only (fun q => q = p.akb ∨ q = p.aM ∨ kv.ownBlock = some q) W w' := ho.mono (fun q _ e => by rcases e with e | e; exact Or.inl e; exact Or.inr (Or.inl e))
    exact ⟨e, h.turnA hR ho2 hR', Kept.ofA h hR ho2 hR' (fun q hq => by cases hq)⟩)
  have HQ4 := hide hq4
  clear hq4 haw hnw hM4
  go_wp2_with (first | (go_at_call 371; refine (HAr.out).mono ?_; rintro en w' ⟨rfl, h3⟩; subst w') | (go_at_call 293; refine (HE.out w4 HQ4.out).mono ?_; rintro en w5 ⟨rfl, hq5, hk5⟩; have HQ5 := hide hq5; have HK5 := hide hk5; clear hq5 hk5))
  have hrow5 : RowK p L po w5 := (RowK.of HH.out HO4.out HR4.out).kept HQ4.out HK5.out
  have hb5 := HK5.out.new HH.out (q := w.heap.size) (Nat.le_refl _) (by decide) (by decide) HB4.out
  have HKw := hide ((Kept.of HO4.out).trans HK5.out)
  have hT0 : ({ s with A := [] } : St8) = { s with A := splitA (L.take 0) } := rfl
  have HQ5b : Hid (On8 p { s with A := splitA (L.take 0) } w5) := hide (hT0 ▸ HQ5.out)
  have HRow := hide hrow5
  have HB5 := hide hb5
  have HX := hide hxl
  clear hrow5 hb5 hT0 HQ5 HE HQ4 HK5 HAr a0 m0 hxl HR4 HB4 HO4
  go_loopg [30] L.length (fun gh s30 wr => ∃ j : Nat, j ≤ L.length ∧ gh = L.length - j ∧ s30 = .int .i64 j ∧ On8 p { s with A := splitA (L.take j) } wr ∧ Kept p w wr ∧ RowK p L po wr ∧ wr.heap[w.heap.size]? = some (.cells #[.int .i64 0, .int .i64 0, .string ⟨#[]⟩] 203 (0, 0)))
  case atStart => exact ⟨0, Nat.zero_le _, rfl, rfl, HQ5b.out, HKw.out, HRow.out, HB5.out⟩
  case round =>
    obtain ⟨j, hj, hgh, rfl, hq, hk, hrw, hb⟩ := hrel
    by_cases hlt : j < L.length
    · obtain ⟨x, hx⟩ : ∃ x, L[j]? = some x := ⟨_, List.getElem?_eq_getElem hlt⟩
      obtain ⟨g, cur, rfl, hg, hn, hcu⟩ := hrw (by omega)
      have g0 : wr.cell? ⟨g, j, none⟩ = some (.string (ofB x)) := cell_of hg (hcu j x hx)
      have gl := heap_lt hg
      have hki : (j : Int) < (L.length : Int) := by omega
      have hk0 : (0 : Int) ≤ (j : Int) := by omega
      have hk1 : (j : Int) ≤ 15 := by omega
      have hwr : IntKind.i64.wrap ((j : Int) + 1) = (j : Int) + 1 := by rw [IntKind.wrap_i64]; omega
      obtain ⟨po2, pn2, pc2, hM⟩ := hq.M
      have m0 : wr.cell? ⟨p.m, 0, none⟩ = some (.pointer (some ⟨p.ab, 0, none⟩)) := cell_of hM rfl
      have m0d : wr.drew.cell? ⟨p.m, 0, none⟩ = some (.pointer (some ⟨p.ab, 0, none⟩)) := m0
      have ml := heap_lt hM
      have HI : Hid (∀ W, Calls Tryz.prog 399 #[.int .i64 ((j : Int) + 1)] W fun en w' => en = .returned (.string (ofB (Lib.decDigits (j + 1)))) ∧ w' = W) := hide (fun W => by
        have := Tryz.strconv_Itoa_small (j + 1) (by omega) W
        rw [show ((j : Int) + 1) = ((j + 1 : Nat) : Int) by omega]
        exact this)
      have HRd := hide (readB_any (ofB x) (by show x.toArray.size ≤ 500; have := HX.out x (List.mem_of_getElem? hx); simpa using this))
      have HS : Hid (∀ W, On8 p { s with A := splitA (L.take j) } W → Calls Tryz.prog 316 #[.pointer (some ⟨p.ab, 0, none⟩), .agg #[.int .i64 0, .string (ofB (Lib.decDigits (j + 1)))], .agg #[.int .i64 (rdK (ofB x)), .int .i64 (rdN (ofB x)), .string (ofB x)]] W fun en w' => en = .returned (.tuple #[]) ∧ On8 p { s with A := splitA (L.take (j + 1)) } w' ∧ Kept p W w') := hide (fun W hW => by
        obtain ⟨kv, hR⟩ := hW.R
        refine (store_new _ _ _ _ kv _ (ofB (Lib.decDigits (j + 1))) (rdK (ofB x), rdN (ofB x), ofB x) (by rw [dec_dd (by omega)]; show (dd (j + 1)).toArray.size ≤ 1000; unfold dd; split <;> simp) (splitA_new L hL j hlt) (by rw [splitA_len]; simp; omega) W hW.O.size hR).mono ?_
        rintro en w' ⟨e, kv', hR', ho, hn⟩
        rw [splitA_take L j x hx]
        exact ⟨e, hW.turnA hR ho hR', Kept.ofA hW hR ho hR' hn⟩)
      have HQ := hide hq
      have HK := hide hk
      have HRw := hide hrw
      have HBo := hide hb
      have HG := hide hgh
      clear hq hk hrw hb hgh hM hg hn hcu hx
      go_upto_region 7 with fail
      go_region_held3 (fun W => W.cell? ⟨p.m, 0, none⟩ = some (.pointer (some ⟨p.ab, 0, none⟩))) (repeat (first | (with_reducible assumption)))
        (first | (go_at_call 399; refine (HI.out _).mono ?_; rintro en w' ⟨rfl, h3⟩; subst w') | (go_at_call 400; refine (HRd.out _).mono ?_; rintro en w6 ⟨rfl, ho6⟩; have hO6 := (toDrew (Only.refl (fun _ => False) wr)).trans ho6 (fun _ _ e => e); have hq6 := HQ.out.calm hO6; obtain ⟨po6, pn6, pc6, hM6⟩ := hq6.M; have m6 : w6.cell? ⟨p.m, 0, none⟩ = some (.pointer (some ⟨p.ab, 0, none⟩)) := cell_of hM6 rfl; have HO6 := hide hO6; have HQ6 := hide hq6; clear ho6 hO6 hq6 hM6) | (go_at_call 316; refine (HS.out w6 HQ6.out).mono ?_; rintro en w7 ⟨rfl, hq7, hk7⟩; obtain ⟨po7, pn7, pc7, hM7⟩ := hq7.M; have m7 : w7.cell? ⟨p.m, 0, none⟩ = some (.pointer (some ⟨p.ab, 0, none⟩)) := cell_of hM7 rfl; have HQ7 := hide hq7; have HK7 := hide hk7; clear hq7 hk7 hM7))
      go_wp2
      go_roundg (L.length - (j + 1))
      case measure => rw [HG.out]; omega
      case rel =>
        have hkk := (Kept.of HO6.out).trans HK7.out
        exact ⟨j + 1, by omega, rfl, by go_num, HQ7.out, HK.out.trans hkk, HRw.out.kept HQ.out hkk, hkk.new HH.out (Nat.le_refl _) (by decide) (by decide) HBo.out⟩
    · obtain rfl : j = L.length := by omega
      have hfin : On8 p { s with A := splitA L } wr := by rw [List.take_length] at hq; exact hq
      have hki : ¬ ((L.length : Int) < (L.length : Int)) := by omega
      have HCn := hide (of_count (L.length : Int))
      have r0 : wr.cell? ⟨w.heap.size, 0, none⟩ = some (.int .i64 0) := cell_of hb rfl
      have r1 : wr.cell? ⟨w.heap.size, 1, none⟩ = some (.int .i64 0) := cell_of hb rfl
      have r2 : wr.cell? ⟨w.heap.size, 2, none⟩ = some (.string ⟨#[]⟩) := cell_of hb rfl
      have rf := free_of hb
      have rl := heap_lt hb
      have HQ := hide hfin
      have HK := hide hk
      have HBo := hide hb
      clear hq hk hrw hb hgh hfin
      go_wp2_with (first | (go_at_call 396; refine (HCn.out _).mono ?_; rintro en w' ⟨rfl, h3⟩; subst h3))
      have hS := set3 HBo.out (.int .i64 1) (.int .i64 (L.length : Int)) (.string ⟨#[]⟩)
      have hX := (Below.heap_alloc ((((wr.setCell ⟨w.heap.size, 0, none⟩ (.int .i64 1)).setCell ⟨w.heap.size, 1, none⟩ (.int .i64 (L.length : Int))).setCell ⟨w.heap.size, 2, none⟩ (.string ⟨#[]⟩)).alloc (.cells #[.int .i64 1, .int .i64 (L.length : Int), .string ⟨#[]⟩] 203)) (.cells #[.int .i64 1, .int .i64 (L.length : Int), .string ⟨#[]⟩] 203) w.heap.size (by simp; omega)).trans ((Below.heap_alloc _ (.cells #[.int .i64 1, .int .i64 (L.length : Int), .string ⟨#[]⟩] 203) w.heap.size (by simpa using rl)).trans hS)
      have q0 := cell_of (o := 0) hX rfl
      have q1 := cell_of (o := 1) hX rfl
      have q2 := cell_of (o := 2) hX rfl
      rw [hLL]
      refine bodyPost_ret (v := .agg #[.int .i64 1, .int .i64 (L.length : Int), .string ⟨#[]⟩]) (by simp [results, Tryz.results398, go_sem, q0, q1, q2]) rfl ⟨rfl, ?_, ?_⟩
      · exact ((HH.out.box3 HQ.out HBo.out (Nat.le_refl _) _ _ _).calm (onlyA _ _)).calm (onlyA _ _)
      · exact ((((HK.out.set (Nat.le_refl _) _).set (Nat.le_refl _) _).set (Nat.le_refl _) _).trans (Kept.of (onlyA _ _))).trans (Kept.of (onlyA _ _))
/-- What was made of split. -/
theorem works_split (p : Pl8) (s : St8) (I : Nat → World → Value → Prop) (B : Nat) (x y : Value) (h : SplitK I B p.wN (.agg #[x, y])) (t : ByteArray) (ht : t.size ≤ 500) (hL : (words [] t.data.toList).length ≤ 15) (hxl : ∀ x ∈ words [] t.data.toList, x.length ≤ 500) (hA : s.A.length ≤ 100) (a n : Int) (tt : ByteArray) (hI : ∀ x y, I B p.wN (.agg #[x, y]) → Gives p s x (.agg #[.int .i64 a, .int .i64 n, .string tt])) (HTx : ∀ W, On8 p s W → Calls Tryz.prog 235 #[.agg #[.int .i64 a, .int .i64 n, .string tt]] W fun en w' => en = .returned (.string t) ∧ Only (fun _ => False) W w')
    (f0 : s.cs[6]? = some (.int .i64 2)) (f1 : s.cs[7]? = some (.int .i64 0)) (f2 : s.cs[8]? = some (.string ⟨#[32]⟩)) : Works p s { s with A := splitA (words [] t.data.toList) } x (.agg #[.int .i64 1, .int .i64 (words [] t.data.toList).length, .string ⟨#[]⟩]) := by
  obtain ⟨pb, tb, ab, x', y', z, e, _, hpb, htb, hab, hi, nb, ez, _, hnb⟩ := h
  obtain ⟨rfl, rfl⟩ := agg_two e
  obtain rfl : z = .func (.func 371) #[] #[.pointer (some ⟨nb, 0, none⟩)] := by injection ez with ez; have := congrArg (fun a => a[0]?) ez; simpa using this
  obtain ⟨F, caps, rfl, hcf, hG⟩ := hI _ _ hi
  exact ⟨398, [.pointer (some ⟨pb, 0, none⟩), .pointer (some ⟨tb, 0, none⟩), .pointer (some ⟨ab, 0, none⟩)], rfl, cf398, fun w hw => split_do p s pb tb ab nb F caps y' t ht hL hxl hA a n tt hcf hG HTx f0 f1 f2 hpb htb hab hnb w hw⟩
end Go.Proofs.YtdbdbaepmdmnfaaGreatDoor

