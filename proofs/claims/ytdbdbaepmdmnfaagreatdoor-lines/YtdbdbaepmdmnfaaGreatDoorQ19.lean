import Derived.Test.YtdbdbaepmdmnfaaGreatDoorQ18
import Derived.Deep.DeepCutAuto
import Derived.Deep.RegionLaw
import Derived.Deep.RegionHeld3
namespace Go.Proofs.YtdbdbaepmdmnfaaGreatDoor
open Go.RowKit
theorem new_at2D {W : World} {n : Nat} (h : W.heap.size = n) (o : Obj) : (W.alloc o).drew.heap[n]? = some o := new_at2 h o
theorem heap_allocD (W : World) (o : Obj) {k : Nat} (h : k < W.heap.size) : (W.alloc o).drew.heap[k]? = W.heap[k]? := Below.heap_alloc _ _ _ h
theorem past {W : World} {a : Addr} {v : Value} (h : W.cell? a = some v) (o : Obj) : (W.alloc o).cell? a = some v := (World.cell?_alloc_some W a o (by rw [h]; rfl)).trans h
theorem pastD {W : World} {a : Addr} {v : Value} (h : W.cell? a = some v) (o : Obj) : (W.alloc o).drew.cell? a = some v := past h o
theorem farC {W : World} {p a : Addr} {v x : Value} (h : W.cell? a = some v) (hn : p.block ≠ a.block) : (W.setCell p x).cell? a = some v := (World.cell?_setCell_far W p a x hn).trans h
theorem set1 {w : World} {b t : Nat} {x : Value} (h : w.heap[b]? = some (.cells #[x] t (0, 0))) (v : Value) : (w.setCell ⟨b, 0, none⟩ v).heap[b]? = some (.cells #[v] t (0, 0)) := heap_setCell_same h v
theorem set2 {w : World} {b t : Nat} {x y : Value} (h : w.heap[b]? = some (.cells #[x, y] t (0, 0))) (u v : Value) : ((w.setCell ⟨b, 0, none⟩ u).setCell ⟨b, 1, none⟩ v).heap[b]? = some (.cells #[u, v] t (0, 0)) := heap_setCell_same (heap_setCell_same h u) v
theorem lay {P Q : Prop} (h : P) (k : P → Q) : Q := k h
/-- The made replacement: what it has caught. -/
def ReplE (G : Nat → World → Value → Nat → Prop) (s : ByteArray) (B : Nat) (w : World) (v : Value) : Prop := ∃ b7 b8 b9 b5 x7 x8 y8 x9 y9, v = .agg #[.func (.func 401) #[] #[.pointer (some ⟨b7, 0, none⟩), .pointer (some ⟨b8, 0, none⟩), .pointer (some ⟨b9, 0, none⟩), .pointer (some ⟨b5, 0, none⟩)], .nilFunc] ∧ (B ≤ b7 ∧ B ≤ b8 ∧ B ≤ b9 ∧ B ≤ b5) ∧
  w.heap[b7]? = some (.cells #[x7] 449 (0, 0)) ∧ PatE G B w x7 ∧ w.heap[b8]? = some (.cells #[x8, y8] 338 (0, 0)) ∧ ConstE B w (.agg #[x8, y8]) 2 0 s ∧ w.heap[b9]? = some (.cells #[x9, y9] 338 (0, 0)) ∧ FieldE B w (.agg #[x9, y9]) ∧ w.heap[b5]? = some (.cells #[.func (.func 332) #[] #[]] 502 (0, 0))
theorem repl_keep {G : Nat → World → Value → Nat → Prop} (hG : Calm G) {s : ByteArray} {B : Nat} {w w' : World} {v : Value} (h : ReplE G s B w v) (ho : Only (fun q => q < B) w w') : ReplE G s B w' v := by
  obtain ⟨b7, b8, b9, b5, x7, x8, y8, x9, y9, e, ⟨k7, k8, k9, k5⟩, h7, hp, h8, hc, h9, hf, h5⟩ := h
  exact ⟨b7, b8, b9, b5, x7, x8, y8, x9, y9, e, ⟨k7, k8, k9, k5⟩, (ho.block b7 (heap_lt h7) (by omega)).trans h7, pat_keep hG hp ho, (ho.block b8 (heap_lt h8) (by omega)).trans h8, const_keep hc ho, (ho.block b9 (heap_lt h9) (by omega)).trans h9, field_keep hf ho, (ho.block b5 (heap_lt h5) (by omega)).trans h5⟩
theorem repl_down {G : Nat → World → Value → Nat → Prop} {s : ByteArray} {A B : Nat} {w : World} {v : Value} (h : ReplE G s B w v) (hA : A ≤ B) : ReplE G s A w v := by
  obtain ⟨b7, b8, b9, b5, x7, x8, y8, x9, y9, e, ⟨k7, k8, k9, k5⟩, h7, hp, h8, hc, h9, hf, h5⟩ := h
  exact ⟨b7, b8, b9, b5, x7, x8, y8, x9, y9, e, ⟨by omega, by omega, by omega, by omega⟩, h7, pat_down hp hA, h8, const_down hc hA, h9, field_down hf hA, h5⟩
set_option maxRecDepth 20000 in
set_option maxHeartbeats 4000000 in
theorem repl_made (kp : Option Addr) (t s : ByteArray) (G : Nat → World → Value → Nat → Prop) (hR : ReadsAs t G) (hG : Calm G) (g cap : Nat) (w : World) (hg : g < w.heap.size) (e0 : w.cell? ⟨g, 0, none⟩ = some (.iface 304 (.agg #[.string t]))) (e1 : w.cell? ⟨g, 1, none⟩ = some (.iface 303 (.agg #[.string s]))) :
    Calls Tryz.prog 330 #[.pointer kp, .slice (some ⟨g, 0, none⟩) 2 cap, .func (.func 332) #[] #[]] w fun en w' => ∃ v, en = .returned v ∧ ReplE G s w.heap.size w' v ∧ Only (fun _ => False) w w' := by
  have hmf := hmfT
  have hsf := hsfT
  have hsn := hsnT
  have HP := hide (pat_made kp t G hR hG)
  have HS := hide (expr_str kp s)
  have HF := hide (field_made kp)
  have HG := hide hG
  clear hR hG
  go_enter Tryz.func330, Tryz.ntmps330
  go_upto_region 1 with fail
  go_cut [7, 8] (fun s7 s8 wc => ∃ b7 b8 x7 x8 y8, s7 = .pointer (some ⟨b7, 0, none⟩) ∧ s8 = .pointer (some ⟨b8, 0, none⟩) ∧ wc.heap[b7]? = some (.cells #[x7] 449 (0, 0)) ∧ (∃ B, w.heap.size + 1 < B ∧ PatE G B wc x7) ∧ w.heap.size + 1 < b7 ∧ w.heap.size + 1 < b8 ∧ wc.heap[b8]? = some (.cells #[x8, y8] 338 (0, 0)) ∧ ConstE (w.heap.size + 1 + 1) wc (.agg #[x8, y8]) 2 0 s ∧ wc.heap[w.heap.size]? = some (.cells #[.func (.func 332) #[] #[]] 502 (0, 0)) ∧ wc.heap[w.heap.size + 1]? = some (.cells #[.nilFunc, .nilFunc] 338 (0, 0)) ∧ Only (fun _ => False) w wc)
  case first =>
    go_region_held3 (fun W => W.cell? ⟨g, 0, none⟩ = some (.iface 304 (.agg #[.string t])) ∧ W.cell? ⟨g, 1, none⟩ = some (.iface 303 (.agg #[.string s]))) (first | (refine ⟨?_, ?_⟩ <;> (repeat (first | (with_reducible assumption) | (with_reducible refine past ?_ _) | (with_reducible refine pastD ?_ _) | ((with_reducible refine farC ?_ ?_); (rotate_left; focus (simp <;> omega))))))) (first | (go_at_call 163; refine (HS.out _).mono ?_; rintro en w2 ⟨rfl, hw2⟩; subst hw2) | (go_at_call 299; refine (HP.out _).mono ?_; rintro en w2 ⟨x, rfl, hpe, ho2⟩; have hpe2 := hpe; obtain ⟨pp, gg, nn, cc, ff, rfl, _, _, _⟩ := hpe; have HPE := hide hpe2; clear hpe2; have hO : Only (fun _ => False) w w2 := Only.trans (by repeat (first | with_reducible exact Only.refl _ _ | with_reducible refine Only.alloc ?_ _ | with_reducible refine toDrew ?_)) ho2 (fun _ _ e => e); have q0 := (hO.cell (p := ⟨g, 0, none⟩) hg (fun e => e)).trans e0; have q1 := (hO.cell (p := ⟨g, 1, none⟩) hg (fun e => e)).trans e1; have hg2 : g < w2.heap.size := Nat.lt_of_lt_of_le hg hO.size; have hg3 := Nat.lt_add_right 1 hg2; have hg4 := Nat.lt_add_right 1 hg3; have hg5 := Nat.lt_add_right 1 hg4; have hg6 := Nat.lt_add_right 1 hg5; have hg7 := Nat.lt_add_right 1 hg6; have hg8 := Nat.lt_add_right 1 hg7; refine lay (P := Hid (w2.heap[w.heap.size]? = some (.cells #[.func (.func 332) #[] #[]] 502 (0, 0)))) ?_ (fun HBx0 => ?_); (focus (refine hide ?_; refine (ho2.block _ ?_ (fun e => e)).trans ?_; (focus (first | (simp; done) | (simp; omega))); (repeat (first | ((with_reducible refine new_at2D ?_ _); focus (simp; done)) | ((with_reducible refine (heap_allocD _ _ ?_).trans ?_); (focus (first | (simp; done) | (simp; omega)))) | ((with_reducible refine new_at2 ?_ _); focus (simp; done)) | ((with_reducible refine (Below.heap_alloc _ _ _ ?_).trans ?_); (focus (first | (simp; done) | (simp; omega)))))); done)); refine lay (P := Hid (w2.heap[w.heap.size + 1]? = some (.cells #[.nilFunc, .nilFunc] 338 (0, 0)))) ?_ (fun HBx1 => ?_); (focus (refine hide ?_; refine (ho2.block _ ?_ (fun e => e)).trans ?_; (focus (first | (simp; done) | (simp; omega))); (repeat (first | ((with_reducible refine new_at2D ?_ _); focus (simp; done)) | ((with_reducible refine (heap_allocD _ _ ?_).trans ?_); (focus (first | (simp; done) | (simp; omega)))) | ((with_reducible refine new_at2 ?_ _); focus (simp; done)) | ((with_reducible refine (Below.heap_alloc _ _ _ ?_).trans ?_); (focus (first | (simp; done) | (simp; omega)))))); done)); (try (refine lay (P := w2.heap[w.heap.size + 1 + 1]? = some (.cells #[.nilFunc] 449 (0, 0))) ?_ (fun b0609 => ?_); (focus (refine (ho2.block _ ?_ (fun e => e)).trans ?_; (focus (first | (simp; done) | (simp; omega))); (repeat (first | ((with_reducible refine new_at2D ?_ _); focus (simp; done)) | ((with_reducible refine (heap_allocD _ _ ?_).trans ?_); (focus (first | (simp; done) | (simp; omega)))) | ((with_reducible refine new_at2 ?_ _); focus (simp; done)) | ((with_reducible refine (Below.heap_alloc _ _ _ ?_).trans ?_); (focus (first | (simp; done) | (simp; omega)))))); done)); have b0609c : w2.cell? ⟨w.heap.size + 1 + 1, 0, none⟩ = some .nilFunc := cell_of b0609 rfl; have b0609f := free_of b0609; have b0609l := heap_lt b0609; have b0609l1 := Nat.lt_add_right 1 b0609l; have b0609l2 := Nat.lt_add_right 1 b0609l1; have b0609l3 := Nat.lt_add_right 1 b0609l2; have b0609l4 := Nat.lt_add_right 1 b0609l3; have b0609l5 := Nat.lt_add_right 1 b0609l4; have b0609l6 := Nat.lt_add_right 1 b0609l5; have Hb0609 := hide b0609; clear b0609)); (try (refine lay (P := w2.heap[w.heap.size + 1 + 1]? = some (.cells #[.nilFunc, .nilFunc] 338 (0, 0))) ?_ (fun b0474 => ?_); (focus (refine (ho2.block _ ?_ (fun e => e)).trans ?_; (focus (first | (simp; done) | (simp; omega))); (repeat (first | ((with_reducible refine new_at2D ?_ _); focus (simp; done)) | ((with_reducible refine (heap_allocD _ _ ?_).trans ?_); (focus (first | (simp; done) | (simp; omega)))) | ((with_reducible refine new_at2 ?_ _); focus (simp; done)) | ((with_reducible refine (Below.heap_alloc _ _ _ ?_).trans ?_); (focus (first | (simp; done) | (simp; omega)))))); done)); have b0474c : w2.cell? ⟨w.heap.size + 1 + 1, 0, none⟩ = some .nilFunc := cell_of b0474 rfl; have b0474d : w2.cell? ⟨w.heap.size + 1 + 1, 1, none⟩ = some .nilFunc := cell_of b0474 rfl; have b0474f := free_of b0474; have b0474l := heap_lt b0474; have b0474l1 := Nat.lt_add_right 1 b0474l; have b0474l2 := Nat.lt_add_right 1 b0474l1; have b0474l3 := Nat.lt_add_right 1 b0474l2; have b0474l4 := Nat.lt_add_right 1 b0474l3; have b0474l5 := Nat.lt_add_right 1 b0474l4; have b0474l6 := Nat.lt_add_right 1 b0474l5; have Hb0474 := hide b0474; clear b0474)); (try (refine lay (P := w2.heap[w.heap.size + 1 + 1 + 1]? = some (.cells #[.nilFunc] 449 (0, 0))) ?_ (fun b1609 => ?_); (focus (refine (ho2.block _ ?_ (fun e => e)).trans ?_; (focus (first | (simp; done) | (simp; omega))); (repeat (first | ((with_reducible refine new_at2D ?_ _); focus (simp; done)) | ((with_reducible refine (heap_allocD _ _ ?_).trans ?_); (focus (first | (simp; done) | (simp; omega)))) | ((with_reducible refine new_at2 ?_ _); focus (simp; done)) | ((with_reducible refine (Below.heap_alloc _ _ _ ?_).trans ?_); (focus (first | (simp; done) | (simp; omega)))))); done)); have b1609c : w2.cell? ⟨w.heap.size + 1 + 1 + 1, 0, none⟩ = some .nilFunc := cell_of b1609 rfl; have b1609f := free_of b1609; have b1609l := heap_lt b1609; have b1609l1 := Nat.lt_add_right 1 b1609l; have b1609l2 := Nat.lt_add_right 1 b1609l1; have b1609l3 := Nat.lt_add_right 1 b1609l2; have b1609l4 := Nat.lt_add_right 1 b1609l3; have b1609l5 := Nat.lt_add_right 1 b1609l4; have b1609l6 := Nat.lt_add_right 1 b1609l5; have Hb1609 := hide b1609; clear b1609)); (try (refine lay (P := w2.heap[w.heap.size + 1 + 1 + 1]? = some (.cells #[.nilFunc, .nilFunc] 338 (0, 0))) ?_ (fun b1474 => ?_); (focus (refine (ho2.block _ ?_ (fun e => e)).trans ?_; (focus (first | (simp; done) | (simp; omega))); (repeat (first | ((with_reducible refine new_at2D ?_ _); focus (simp; done)) | ((with_reducible refine (heap_allocD _ _ ?_).trans ?_); (focus (first | (simp; done) | (simp; omega)))) | ((with_reducible refine new_at2 ?_ _); focus (simp; done)) | ((with_reducible refine (Below.heap_alloc _ _ _ ?_).trans ?_); (focus (first | (simp; done) | (simp; omega)))))); done)); have b1474c : w2.cell? ⟨w.heap.size + 1 + 1 + 1, 0, none⟩ = some .nilFunc := cell_of b1474 rfl; have b1474d : w2.cell? ⟨w.heap.size + 1 + 1 + 1, 1, none⟩ = some .nilFunc := cell_of b1474 rfl; have b1474f := free_of b1474; have b1474l := heap_lt b1474; have b1474l1 := Nat.lt_add_right 1 b1474l; have b1474l2 := Nat.lt_add_right 1 b1474l1; have b1474l3 := Nat.lt_add_right 1 b1474l2; have b1474l4 := Nat.lt_add_right 1 b1474l3; have b1474l5 := Nat.lt_add_right 1 b1474l4; have b1474l6 := Nat.lt_add_right 1 b1474l5; have Hb1474 := hide b1474; clear b1474)); (try (refine lay (P := w2.heap[w.heap.size + 1 + 1 + 1 + 1 + 1 + 1 + 1]? = some (.cells #[.nilFunc] 449 (0, 0))) ?_ (fun b2609 => ?_); (focus (refine (ho2.block _ ?_ (fun e => e)).trans ?_; (focus (first | (simp; done) | (simp; omega))); (repeat (first | ((with_reducible refine new_at2D ?_ _); focus (simp; done)) | ((with_reducible refine (heap_allocD _ _ ?_).trans ?_); (focus (first | (simp; done) | (simp; omega)))) | ((with_reducible refine new_at2 ?_ _); focus (simp; done)) | ((with_reducible refine (Below.heap_alloc _ _ _ ?_).trans ?_); (focus (first | (simp; done) | (simp; omega)))))); done)); have b2609c : w2.cell? ⟨w.heap.size + 1 + 1 + 1 + 1 + 1 + 1 + 1, 0, none⟩ = some .nilFunc := cell_of b2609 rfl; have b2609f := free_of b2609; have b2609l := heap_lt b2609; have b2609l1 := Nat.lt_add_right 1 b2609l; have b2609l2 := Nat.lt_add_right 1 b2609l1; have b2609l3 := Nat.lt_add_right 1 b2609l2; have b2609l4 := Nat.lt_add_right 1 b2609l3; have b2609l5 := Nat.lt_add_right 1 b2609l4; have b2609l6 := Nat.lt_add_right 1 b2609l5; have Hb2609 := hide b2609; clear b2609)); (try (refine lay (P := w2.heap[w.heap.size + 1 + 1 + 1 + 1 + 1 + 1 + 1]? = some (.cells #[.nilFunc, .nilFunc] 338 (0, 0))) ?_ (fun b2474 => ?_); (focus (refine (ho2.block _ ?_ (fun e => e)).trans ?_; (focus (first | (simp; done) | (simp; omega))); (repeat (first | ((with_reducible refine new_at2D ?_ _); focus (simp; done)) | ((with_reducible refine (heap_allocD _ _ ?_).trans ?_); (focus (first | (simp; done) | (simp; omega)))) | ((with_reducible refine new_at2 ?_ _); focus (simp; done)) | ((with_reducible refine (Below.heap_alloc _ _ _ ?_).trans ?_); (focus (first | (simp; done) | (simp; omega)))))); done)); have b2474c : w2.cell? ⟨w.heap.size + 1 + 1 + 1 + 1 + 1 + 1 + 1, 0, none⟩ = some .nilFunc := cell_of b2474 rfl; have b2474d : w2.cell? ⟨w.heap.size + 1 + 1 + 1 + 1 + 1 + 1 + 1, 1, none⟩ = some .nilFunc := cell_of b2474 rfl; have b2474f := free_of b2474; have b2474l := heap_lt b2474; have b2474l1 := Nat.lt_add_right 1 b2474l; have b2474l2 := Nat.lt_add_right 1 b2474l1; have b2474l3 := Nat.lt_add_right 1 b2474l2; have b2474l4 := Nat.lt_add_right 1 b2474l3; have b2474l5 := Nat.lt_add_right 1 b2474l4; have b2474l6 := Nat.lt_add_right 1 b2474l5; have Hb2474 := hide b2474; clear b2474)); (try (refine lay (P := w2.heap[w.heap.size + 1 + 1 + 1 + 1 + 1 + 1 + 1 + 1]? = some (.cells #[.nilFunc] 449 (0, 0))) ?_ (fun b3609 => ?_); (focus (refine (ho2.block _ ?_ (fun e => e)).trans ?_; (focus (first | (simp; done) | (simp; omega))); (repeat (first | ((with_reducible refine new_at2D ?_ _); focus (simp; done)) | ((with_reducible refine (heap_allocD _ _ ?_).trans ?_); (focus (first | (simp; done) | (simp; omega)))) | ((with_reducible refine new_at2 ?_ _); focus (simp; done)) | ((with_reducible refine (Below.heap_alloc _ _ _ ?_).trans ?_); (focus (first | (simp; done) | (simp; omega)))))); done)); have b3609c : w2.cell? ⟨w.heap.size + 1 + 1 + 1 + 1 + 1 + 1 + 1 + 1, 0, none⟩ = some .nilFunc := cell_of b3609 rfl; have b3609f := free_of b3609; have b3609l := heap_lt b3609; have b3609l1 := Nat.lt_add_right 1 b3609l; have b3609l2 := Nat.lt_add_right 1 b3609l1; have b3609l3 := Nat.lt_add_right 1 b3609l2; have b3609l4 := Nat.lt_add_right 1 b3609l3; have b3609l5 := Nat.lt_add_right 1 b3609l4; have b3609l6 := Nat.lt_add_right 1 b3609l5; have Hb3609 := hide b3609; clear b3609)); (try (refine lay (P := w2.heap[w.heap.size + 1 + 1 + 1 + 1 + 1 + 1 + 1 + 1]? = some (.cells #[.nilFunc, .nilFunc] 338 (0, 0))) ?_ (fun b3474 => ?_); (focus (refine (ho2.block _ ?_ (fun e => e)).trans ?_; (focus (first | (simp; done) | (simp; omega))); (repeat (first | ((with_reducible refine new_at2D ?_ _); focus (simp; done)) | ((with_reducible refine (heap_allocD _ _ ?_).trans ?_); (focus (first | (simp; done) | (simp; omega)))) | ((with_reducible refine new_at2 ?_ _); focus (simp; done)) | ((with_reducible refine (Below.heap_alloc _ _ _ ?_).trans ?_); (focus (first | (simp; done) | (simp; omega)))))); done)); have b3474c : w2.cell? ⟨w.heap.size + 1 + 1 + 1 + 1 + 1 + 1 + 1 + 1, 0, none⟩ = some .nilFunc := cell_of b3474 rfl; have b3474d : w2.cell? ⟨w.heap.size + 1 + 1 + 1 + 1 + 1 + 1 + 1 + 1, 1, none⟩ = some .nilFunc := cell_of b3474 rfl; have b3474f := free_of b3474; have b3474l := heap_lt b3474; have b3474l1 := Nat.lt_add_right 1 b3474l; have b3474l2 := Nat.lt_add_right 1 b3474l1; have b3474l3 := Nat.lt_add_right 1 b3474l2; have b3474l4 := Nat.lt_add_right 1 b3474l3; have b3474l5 := Nat.lt_add_right 1 b3474l4; have b3474l6 := Nat.lt_add_right 1 b3474l5; have Hb3474 := hide b3474; clear b3474)); have HO := hide hO; clear hO; have HO2 := hide ho2; clear ho2))
    all_goals
      go_wp2_with fail
      go_meet
    all_goals
      have hzw := heap_lt HBx1.out
      first
        | refine ⟨_, _, .func (.func 378) #[] #[.pointer (some ⟨pp, 0, none⟩)], .func (.func 298) #[] #[.pointer (some ⟨w2.heap.size + 1 + 1 + 1, 0, none⟩)], .nilFunc, rfl, rfl, ?_, ⟨_, ?_, pat_keep HG.out HPE.out ?_⟩, ?_, ?_, ?_, ⟨_, rfl, by omega, ?_⟩, ?_, ?_, HO.out.trans (D := fun _ => False) (E := fun q => w.heap.size ≤ q) ?_ (fun q h1 h2 => by omega)⟩
          · (repeat (first | ((with_reducible refine new_at2 ?_ _); focus (simp; done)) | ((with_reducible refine (Below.heap_alloc _ _ _ ?_).trans ?_); (focus (first | omega | (simp; done) | (simp; omega)))) | (with_reducible refine set2 (x := .nilFunc) (y := .nilFunc) ?_ _ _) | (with_reducible refine set1 (x := .nilFunc) ?_ _) | ((with_reducible refine (Below.heap_setCell _ _ _ _ ?_).trans ?_); (focus (show _ ≠ _; first | (simp; done) | (simp; omega) | omega))) | (with_reducible exact HBx0.out) | (with_reducible exact HBx1.out) | (with_reducible exact Hb0609.out) | (with_reducible exact Hb0474.out) | (with_reducible exact Hb1609.out) | (with_reducible exact Hb1474.out) | (with_reducible exact Hb2609.out) | (with_reducible exact Hb2474.out) | (with_reducible exact Hb3609.out) | (with_reducible exact Hb3474.out)))
          · first | omega | (simp; done) | (simp; omega)
          · (repeat (first | (with_reducible exact Only.refl _ _) | (with_reducible refine Only.alloc ?_ _) | (with_reducible refine toDrew ?_) | ((with_reducible refine Only.setCell ?_ ?_ _); (rotate_left; (focus (intro _; show _; first | (simp; done) | (simp; omega) | omega))))))
          · first | omega | (simp; done) | (simp; omega)
          · first | omega | (simp; done) | (simp; omega)
          · (repeat (first | ((with_reducible refine new_at2 ?_ _); focus (simp; done)) | ((with_reducible refine (Below.heap_alloc _ _ _ ?_).trans ?_); (focus (first | omega | (simp; done) | (simp; omega)))) | (with_reducible refine set2 (x := .nilFunc) (y := .nilFunc) ?_ _ _) | (with_reducible refine set1 (x := .nilFunc) ?_ _) | ((with_reducible refine (Below.heap_setCell _ _ _ _ ?_).trans ?_); (focus (show _ ≠ _; first | (simp; done) | (simp; omega) | omega))) | (with_reducible exact HBx0.out) | (with_reducible exact HBx1.out) | (with_reducible exact Hb0609.out) | (with_reducible exact Hb0474.out) | (with_reducible exact Hb1609.out) | (with_reducible exact Hb1474.out) | (with_reducible exact Hb2609.out) | (with_reducible exact Hb2474.out) | (with_reducible exact Hb3609.out) | (with_reducible exact Hb3474.out)))
          · (repeat (first | ((with_reducible refine new_at2 ?_ _); focus (simp; done)) | ((with_reducible refine (Below.heap_alloc _ _ _ ?_).trans ?_); (focus (first | omega | (simp; done) | (simp; omega)))) | (with_reducible refine set2 (x := .nilFunc) (y := .nilFunc) ?_ _ _) | (with_reducible refine set1 (x := .nilFunc) ?_ _) | ((with_reducible refine (Below.heap_setCell _ _ _ _ ?_).trans ?_); (focus (show _ ≠ _; first | (simp; done) | (simp; omega) | omega))) | (with_reducible exact HBx0.out) | (with_reducible exact HBx1.out) | (with_reducible exact Hb0609.out) | (with_reducible exact Hb0474.out) | (with_reducible exact Hb1609.out) | (with_reducible exact Hb1474.out) | (with_reducible exact Hb2609.out) | (with_reducible exact Hb2474.out) | (with_reducible exact Hb3609.out) | (with_reducible exact Hb3474.out)))
          · (repeat (first | ((with_reducible refine new_at2 ?_ _); focus (simp; done)) | ((with_reducible refine (Below.heap_alloc _ _ _ ?_).trans ?_); (focus (first | omega | (simp; done) | (simp; omega)))) | (with_reducible refine set2 (x := .nilFunc) (y := .nilFunc) ?_ _ _) | (with_reducible refine set1 (x := .nilFunc) ?_ _) | ((with_reducible refine (Below.heap_setCell _ _ _ _ ?_).trans ?_); (focus (show _ ≠ _; first | (simp; done) | (simp; omega) | omega))) | (with_reducible exact HBx0.out) | (with_reducible exact HBx1.out) | (with_reducible exact Hb0609.out) | (with_reducible exact Hb0474.out) | (with_reducible exact Hb1609.out) | (with_reducible exact Hb1474.out) | (with_reducible exact Hb2609.out) | (with_reducible exact Hb2474.out) | (with_reducible exact Hb3609.out) | (with_reducible exact Hb3474.out)))
          · (repeat (first | ((with_reducible refine new_at2 ?_ _); focus (simp; done)) | ((with_reducible refine (Below.heap_alloc _ _ _ ?_).trans ?_); (focus (first | omega | (simp; done) | (simp; omega)))) | (with_reducible refine set2 (x := .nilFunc) (y := .nilFunc) ?_ _ _) | (with_reducible refine set1 (x := .nilFunc) ?_ _) | ((with_reducible refine (Below.heap_setCell _ _ _ _ ?_).trans ?_); (focus (show _ ≠ _; first | (simp; done) | (simp; omega) | omega))) | (with_reducible exact HBx0.out) | (with_reducible exact HBx1.out) | (with_reducible exact Hb0609.out) | (with_reducible exact Hb0474.out) | (with_reducible exact Hb1609.out) | (with_reducible exact Hb1474.out) | (with_reducible exact Hb2609.out) | (with_reducible exact Hb2474.out) | (with_reducible exact Hb3609.out) | (with_reducible exact Hb3474.out)))
          · (repeat (first | (with_reducible exact Only.refl _ _) | (with_reducible refine Only.alloc ?_ _) | (with_reducible refine toDrew ?_) | ((with_reducible refine Only.setCell ?_ ?_ _); (rotate_left; (focus (intro _; show _; first | (simp; done) | (simp; omega) | omega))))))
        | refine ⟨_, _, .func (.func 378) #[] #[.pointer (some ⟨pp, 0, none⟩)], .func (.func 298) #[] #[.pointer (some ⟨w2.heap.size + 1 + 1 + 1 + 1, 0, none⟩)], .nilFunc, rfl, rfl, ?_, ⟨_, ?_, pat_keep HG.out HPE.out ?_⟩, ?_, ?_, ?_, ⟨_, rfl, by omega, ?_⟩, ?_, ?_, HO.out.trans (D := fun _ => False) (E := fun q => w.heap.size ≤ q) ?_ (fun q h1 h2 => by omega)⟩
          · (repeat (first | ((with_reducible refine new_at2 ?_ _); focus (simp; done)) | ((with_reducible refine (Below.heap_alloc _ _ _ ?_).trans ?_); (focus (first | omega | (simp; done) | (simp; omega)))) | (with_reducible refine set2 (x := .nilFunc) (y := .nilFunc) ?_ _ _) | (with_reducible refine set1 (x := .nilFunc) ?_ _) | ((with_reducible refine (Below.heap_setCell _ _ _ _ ?_).trans ?_); (focus (show _ ≠ _; first | (simp; done) | (simp; omega) | omega))) | (with_reducible exact HBx0.out) | (with_reducible exact HBx1.out) | (with_reducible exact Hb0609.out) | (with_reducible exact Hb0474.out) | (with_reducible exact Hb1609.out) | (with_reducible exact Hb1474.out) | (with_reducible exact Hb2609.out) | (with_reducible exact Hb2474.out) | (with_reducible exact Hb3609.out) | (with_reducible exact Hb3474.out)))
          · first | omega | (simp; done) | (simp; omega)
          · (repeat (first | (with_reducible exact Only.refl _ _) | (with_reducible refine Only.alloc ?_ _) | (with_reducible refine toDrew ?_) | ((with_reducible refine Only.setCell ?_ ?_ _); (rotate_left; (focus (intro _; show _; first | (simp; done) | (simp; omega) | omega))))))
          · first | omega | (simp; done) | (simp; omega)
          · first | omega | (simp; done) | (simp; omega)
          · (repeat (first | ((with_reducible refine new_at2 ?_ _); focus (simp; done)) | ((with_reducible refine (Below.heap_alloc _ _ _ ?_).trans ?_); (focus (first | omega | (simp; done) | (simp; omega)))) | (with_reducible refine set2 (x := .nilFunc) (y := .nilFunc) ?_ _ _) | (with_reducible refine set1 (x := .nilFunc) ?_ _) | ((with_reducible refine (Below.heap_setCell _ _ _ _ ?_).trans ?_); (focus (show _ ≠ _; first | (simp; done) | (simp; omega) | omega))) | (with_reducible exact HBx0.out) | (with_reducible exact HBx1.out) | (with_reducible exact Hb0609.out) | (with_reducible exact Hb0474.out) | (with_reducible exact Hb1609.out) | (with_reducible exact Hb1474.out) | (with_reducible exact Hb2609.out) | (with_reducible exact Hb2474.out) | (with_reducible exact Hb3609.out) | (with_reducible exact Hb3474.out)))
          · (repeat (first | ((with_reducible refine new_at2 ?_ _); focus (simp; done)) | ((with_reducible refine (Below.heap_alloc _ _ _ ?_).trans ?_); (focus (first | omega | (simp; done) | (simp; omega)))) | (with_reducible refine set2 (x := .nilFunc) (y := .nilFunc) ?_ _ _) | (with_reducible refine set1 (x := .nilFunc) ?_ _) | ((with_reducible refine (Below.heap_setCell _ _ _ _ ?_).trans ?_); (focus (show _ ≠ _; first | (simp; done) | (simp; omega) | omega))) | (with_reducible exact HBx0.out) | (with_reducible exact HBx1.out) | (with_reducible exact Hb0609.out) | (with_reducible exact Hb0474.out) | (with_reducible exact Hb1609.out) | (with_reducible exact Hb1474.out) | (with_reducible exact Hb2609.out) | (with_reducible exact Hb2474.out) | (with_reducible exact Hb3609.out) | (with_reducible exact Hb3474.out)))
          · (repeat (first | ((with_reducible refine new_at2 ?_ _); focus (simp; done)) | ((with_reducible refine (Below.heap_alloc _ _ _ ?_).trans ?_); (focus (first | omega | (simp; done) | (simp; omega)))) | (with_reducible refine set2 (x := .nilFunc) (y := .nilFunc) ?_ _ _) | (with_reducible refine set1 (x := .nilFunc) ?_ _) | ((with_reducible refine (Below.heap_setCell _ _ _ _ ?_).trans ?_); (focus (show _ ≠ _; first | (simp; done) | (simp; omega) | omega))) | (with_reducible exact HBx0.out) | (with_reducible exact HBx1.out) | (with_reducible exact Hb0609.out) | (with_reducible exact Hb0474.out) | (with_reducible exact Hb1609.out) | (with_reducible exact Hb1474.out) | (with_reducible exact Hb2609.out) | (with_reducible exact Hb2474.out) | (with_reducible exact Hb3609.out) | (with_reducible exact Hb3474.out)))
          · (repeat (first | ((with_reducible refine new_at2 ?_ _); focus (simp; done)) | ((with_reducible refine (Below.heap_alloc _ _ _ ?_).trans ?_); (focus (first | omega | (simp; done) | (simp; omega)))) | (with_reducible refine set2 (x := .nilFunc) (y := .nilFunc) ?_ _ _) | (with_reducible refine set1 (x := .nilFunc) ?_ _) | ((with_reducible refine (Below.heap_setCell _ _ _ _ ?_).trans ?_); (focus (show _ ≠ _; first | (simp; done) | (simp; omega) | omega))) | (with_reducible exact HBx0.out) | (with_reducible exact HBx1.out) | (with_reducible exact Hb0609.out) | (with_reducible exact Hb0474.out) | (with_reducible exact Hb1609.out) | (with_reducible exact Hb1474.out) | (with_reducible exact Hb2609.out) | (with_reducible exact Hb2474.out) | (with_reducible exact Hb3609.out) | (with_reducible exact Hb3474.out)))
          · (repeat (first | (with_reducible exact Only.refl _ _) | (with_reducible refine Only.alloc ?_ _) | (with_reducible refine toDrew ?_) | ((with_reducible refine Only.setCell ?_ ?_ _); (rotate_left; (focus (intro _; show _; first | (simp; done) | (simp; omega) | omega))))))
        | refine ⟨_, _, .func (.func 378) #[] #[.pointer (some ⟨pp, 0, none⟩)], .func (.func 298) #[] #[.pointer (some ⟨w2.heap.size + 1 + 1 + 1 + 1 + 1, 0, none⟩)], .nilFunc, rfl, rfl, ?_, ⟨_, ?_, pat_keep HG.out HPE.out ?_⟩, ?_, ?_, ?_, ⟨_, rfl, by omega, ?_⟩, ?_, ?_, HO.out.trans (D := fun _ => False) (E := fun q => w.heap.size ≤ q) ?_ (fun q h1 h2 => by omega)⟩
          · (repeat (first | ((with_reducible refine new_at2 ?_ _); focus (simp; done)) | ((with_reducible refine (Below.heap_alloc _ _ _ ?_).trans ?_); (focus (first | omega | (simp; done) | (simp; omega)))) | (with_reducible refine set2 (x := .nilFunc) (y := .nilFunc) ?_ _ _) | (with_reducible refine set1 (x := .nilFunc) ?_ _) | ((with_reducible refine (Below.heap_setCell _ _ _ _ ?_).trans ?_); (focus (show _ ≠ _; first | (simp; done) | (simp; omega) | omega))) | (with_reducible exact HBx0.out) | (with_reducible exact HBx1.out) | (with_reducible exact Hb0609.out) | (with_reducible exact Hb0474.out) | (with_reducible exact Hb1609.out) | (with_reducible exact Hb1474.out) | (with_reducible exact Hb2609.out) | (with_reducible exact Hb2474.out) | (with_reducible exact Hb3609.out) | (with_reducible exact Hb3474.out)))
          · first | omega | (simp; done) | (simp; omega)
          · (repeat (first | (with_reducible exact Only.refl _ _) | (with_reducible refine Only.alloc ?_ _) | (with_reducible refine toDrew ?_) | ((with_reducible refine Only.setCell ?_ ?_ _); (rotate_left; (focus (intro _; show _; first | (simp; done) | (simp; omega) | omega))))))
          · first | omega | (simp; done) | (simp; omega)
          · first | omega | (simp; done) | (simp; omega)
          · (repeat (first | ((with_reducible refine new_at2 ?_ _); focus (simp; done)) | ((with_reducible refine (Below.heap_alloc _ _ _ ?_).trans ?_); (focus (first | omega | (simp; done) | (simp; omega)))) | (with_reducible refine set2 (x := .nilFunc) (y := .nilFunc) ?_ _ _) | (with_reducible refine set1 (x := .nilFunc) ?_ _) | ((with_reducible refine (Below.heap_setCell _ _ _ _ ?_).trans ?_); (focus (show _ ≠ _; first | (simp; done) | (simp; omega) | omega))) | (with_reducible exact HBx0.out) | (with_reducible exact HBx1.out) | (with_reducible exact Hb0609.out) | (with_reducible exact Hb0474.out) | (with_reducible exact Hb1609.out) | (with_reducible exact Hb1474.out) | (with_reducible exact Hb2609.out) | (with_reducible exact Hb2474.out) | (with_reducible exact Hb3609.out) | (with_reducible exact Hb3474.out)))
          · (repeat (first | ((with_reducible refine new_at2 ?_ _); focus (simp; done)) | ((with_reducible refine (Below.heap_alloc _ _ _ ?_).trans ?_); (focus (first | omega | (simp; done) | (simp; omega)))) | (with_reducible refine set2 (x := .nilFunc) (y := .nilFunc) ?_ _ _) | (with_reducible refine set1 (x := .nilFunc) ?_ _) | ((with_reducible refine (Below.heap_setCell _ _ _ _ ?_).trans ?_); (focus (show _ ≠ _; first | (simp; done) | (simp; omega) | omega))) | (with_reducible exact HBx0.out) | (with_reducible exact HBx1.out) | (with_reducible exact Hb0609.out) | (with_reducible exact Hb0474.out) | (with_reducible exact Hb1609.out) | (with_reducible exact Hb1474.out) | (with_reducible exact Hb2609.out) | (with_reducible exact Hb2474.out) | (with_reducible exact Hb3609.out) | (with_reducible exact Hb3474.out)))
          · (repeat (first | ((with_reducible refine new_at2 ?_ _); focus (simp; done)) | ((with_reducible refine (Below.heap_alloc _ _ _ ?_).trans ?_); (focus (first | omega | (simp; done) | (simp; omega)))) | (with_reducible refine set2 (x := .nilFunc) (y := .nilFunc) ?_ _ _) | (with_reducible refine set1 (x := .nilFunc) ?_ _) | ((with_reducible refine (Below.heap_setCell _ _ _ _ ?_).trans ?_); (focus (show _ ≠ _; first | (simp; done) | (simp; omega) | omega))) | (with_reducible exact HBx0.out) | (with_reducible exact HBx1.out) | (with_reducible exact Hb0609.out) | (with_reducible exact Hb0474.out) | (with_reducible exact Hb1609.out) | (with_reducible exact Hb1474.out) | (with_reducible exact Hb2609.out) | (with_reducible exact Hb2474.out) | (with_reducible exact Hb3609.out) | (with_reducible exact Hb3474.out)))
          · (repeat (first | ((with_reducible refine new_at2 ?_ _); focus (simp; done)) | ((with_reducible refine (Below.heap_alloc _ _ _ ?_).trans ?_); (focus (first | omega | (simp; done) | (simp; omega)))) | (with_reducible refine set2 (x := .nilFunc) (y := .nilFunc) ?_ _ _) | (with_reducible refine set1 (x := .nilFunc) ?_ _) | ((with_reducible refine (Below.heap_setCell _ _ _ _ ?_).trans ?_); (focus (show _ ≠ _; first | (simp; done) | (simp; omega) | omega))) | (with_reducible exact HBx0.out) | (with_reducible exact HBx1.out) | (with_reducible exact Hb0609.out) | (with_reducible exact Hb0474.out) | (with_reducible exact Hb1609.out) | (with_reducible exact Hb1474.out) | (with_reducible exact Hb2609.out) | (with_reducible exact Hb2474.out) | (with_reducible exact Hb3609.out) | (with_reducible exact Hb3474.out)))
          · (repeat (first | (with_reducible exact Only.refl _ _) | (with_reducible refine Only.alloc ?_ _) | (with_reducible refine toDrew ?_) | ((with_reducible refine Only.setCell ?_ ?_ _); (rotate_left; (focus (intro _; show _; first | (simp; done) | (simp; omega) | omega))))))
  case rest =>
    obtain ⟨b7, b8, x7, x8, y8, rfl, rfl, h7, ⟨B7, hB7, hp7⟩, k7, k8, h8, hc8, hx0, hx1, hO⟩ := hcut
    have H7 := hide h7
    have HP7 := hide hp7
    have H8 := hide h8
    have HC8 := hide hc8
    have HX0 := hide hx0
    have HX1 := hide hx1
    have HO := hide hO
    clear h7 hp7 h8 hc8 hx0 hx1 hO HP HS
    go_wp2_with fail
    refine (HF.out _).mono ?_
    rintro en w3 ⟨v3, rfl, ⟨nb, c, g9, rfl, kn, kc, hn, hc⟩, ho3⟩
    have hF : FieldE wc.heap.size w3 _ := ⟨nb, c, g9, rfl, kn, kc, hn, hc⟩
    have hX1 := (ho3.block _ (heap_lt HX1.out) (fun e => e)).trans HX1.out
    have r0 : w3.cell? ⟨w.heap.size + 1, 0, none⟩ = some .nilFunc := cell_of hX1 rfl
    have r1 : w3.cell? ⟨w.heap.size + 1, 1, none⟩ = some .nilFunc := cell_of hX1 rfl
    have rf := free_of hX1
    have rl := heap_lt hX1
    have HX13 := hide hX1
    have HF3 := hide hF
    have HO3 := hide ho3
    clear hn hc hF hX1 ho3 HF kn kc
    go_wp2
    have hol : Only (fun q => q = w.heap.size + 1) w3 (((w3.setCell ⟨w.heap.size + 1, 0, none⟩ (.func (.func 401) #[] #[.pointer (some ⟨b7, 0, none⟩), .pointer (some ⟨b8, 0, none⟩), .pointer (some ⟨w3.heap.size, 0, none⟩), .pointer (some ⟨w.heap.size, 0, none⟩)])).setCell ⟨w.heap.size + 1, 1, none⟩ .nilFunc).alloc (.cells #[.func (.func 386) #[] #[.pointer (some ⟨g9, 0, none⟩)], .func (.func 317) #[] #[.pointer (some ⟨nb, 0, none⟩)]] 338)) := (((Only.refl (fun q => q = w.heap.size + 1) w3).setCell (p := ⟨w.heap.size + 1, 0, none⟩) (fun _ => rfl) _).setCell (p := ⟨w.heap.size + 1, 1, none⟩) (fun _ => rfl) _).alloc _
    have hz3 : wc.heap.size ≤ w3.heap.size := HO3.out.size
    have hzc := heap_lt HX1.out
    have ho7 : Only (fun q => q = w.heap.size + 1) wc _ := (HO3.out.mono (E := fun q => q = w.heap.size + 1) (fun _ _ e => e.elim)).trans hol (fun _ _ e => e)
    refine bodyPost_ret (v := .agg #[.func (.func 401) #[] #[.pointer (some ⟨b7, 0, none⟩), .pointer (some ⟨b8, 0, none⟩), .pointer (some ⟨w3.heap.size, 0, none⟩), .pointer (some ⟨w.heap.size, 0, none⟩)], .nilFunc]) (by simp [results, Tryz.results330, go_sem, r0, r1, rl]) rfl ⟨_, rfl, ⟨b7, b8, w3.heap.size, w.heap.size, x7, x8, y8, _, _, rfl, ⟨by omega, by omega, by omega, by omega⟩, ?_, pat_down (pat_keep HG.out HP7.out (ho7.mono (fun q _ e => by omega))) (by omega), ?_, const_down (const_keep HC8.out (ho7.mono (fun q _ e => by omega))) (by omega), ?_, field_down (field_keep HF3.out (hol.mono (fun q _ e => by omega))) (by omega), ?_⟩, ?_⟩
    · exact (ho7.block b7 (heap_lt H7.out) (by omega)).trans H7.out
    · exact (ho7.block b8 (heap_lt H8.out) (by omega)).trans H8.out
    · exact new_at2 (by simp) _
    · exact (ho7.block w.heap.size (heap_lt HX0.out) (by omega)).trans HX0.out
    · exact HO.out.trans ho7 (fun q h e => by omega)
end Go.Proofs.YtdbdbaepmdmnfaaGreatDoor

namespace Go.Proofs.YtdbdbaepmdmnfaaGreatDoor
open Go.RowKit
set_option maxRecDepth 20000 in
set_option maxHeartbeats 4000000 in
theorem own_made (kp : Option Addr) (t s : ByteArray) (a : Int) (G : Nat → World → Value → Nat → Prop) (hR : ReadsAs t G) (hG : Calm G) (g cap : Nat) (w : World) (hg : g < w.heap.size) (e0 : w.cell? ⟨g, 0, none⟩ = some (.iface 304 (.agg #[.string t]))) (e1 : w.cell? ⟨g, 1, none⟩ = some (.iface 303 (.agg #[.string s]))) :
    Calls Tryz.prog 222 #[.pointer kp, .agg #[.string gsubX, .int .i64 a, .slice (some ⟨g, 0, none⟩) 2 cap]] w fun en w' => ∃ v, en = .returned v ∧ ReplE G s w.heap.size w' v ∧ Only (fun _ => False) w w' := by
  unfold gsubX
  have hmf := hmfT
  have hsf := hsfT
  have hsn := hsnT
  have HR := hide (repl_made kp t s G hR hG g cap)
  have HG := hide hG
  clear hR hG
  go_enter Tryz.func222, Tryz.ntmps222
  go_wp2_with fail
  refine (HR.out _ (by simp; omega) (past (past e0 _) _) (past (past e1 _) _)).mono ?_
  rintro en w2 ⟨v, rfl, hv, ho⟩
  have hv2 := hv
  obtain ⟨b7, b8, b9, b5, x7, x8, y8, x9, y9, rfl, _⟩ := hv2
  have hb := (ho.block (w.heap.size + 1) (by simp) (fun e => e)).trans (new_at2 (W := w.alloc _) (by simp) _)
  have r0 : w2.cell? ⟨w.heap.size + 1, 0, none⟩ = some .nilFunc := cell_of hb rfl
  have r1 : w2.cell? ⟨w.heap.size + 1, 1, none⟩ = some .nilFunc := cell_of hb rfl
  have rf := free_of hb
  have rl := heap_lt hb
  have HV := hide hv
  have HO := hide ho
  clear hv ho hb HR
  go_wp2
  refine bodyPost_ret (v := .agg #[.func (.func 401) #[] #[.pointer (some ⟨b7, 0, none⟩), .pointer (some ⟨b8, 0, none⟩), .pointer (some ⟨b9, 0, none⟩), .pointer (some ⟨b5, 0, none⟩)], .nilFunc]) (by simp [results, Tryz.results222, go_sem, r0, r1]) rfl ⟨_, rfl, repl_down (repl_keep HG.out HV.out (((Only.refl _ w2).setCell (p := ⟨w.heap.size + 1, 0, none⟩) (fun _ => by show w.heap.size + 1 < _; simp) _).setCell (p := ⟨w.heap.size + 1, 1, none⟩) (fun _ => by show w.heap.size + 1 < _; simp) _)) (by simp; omega), ?_⟩
  exact (((((onlyA w _).alloc _).trans HO.out (fun _ _ e => e)).setCell (p := ⟨w.heap.size + 1, 0, none⟩) (fun h => absurd h (by show ¬ w.heap.size + 1 < w.heap.size; omega)) _).setCell (p := ⟨w.heap.size + 1, 1, none⟩) (fun h => absurd h (by show ¬ w.heap.size + 1 < w.heap.size; omega)) _)
set_option maxRecDepth 20000 in
set_option maxHeartbeats 4000000 in
theorem expr_own (kp : Option Addr) (t s : ByteArray) (a : Int) (G : Nat → World → Value → Nat → Prop) (hR : ReadsAs t G) (hG : Calm G) (g cap : Nat) (w : World) (hg : g < w.heap.size) (e0 : w.cell? ⟨g, 0, none⟩ = some (.iface 304 (.agg #[.string t]))) (e1 : w.cell? ⟨g, 1, none⟩ = some (.iface 303 (.agg #[.string s]))) :
    Calls Tryz.prog 163 #[.pointer kp, .iface 312 (.agg #[.string gsubX, .int .i64 a, .slice (some ⟨g, 0, none⟩) 2 cap])] w fun en w' => ∃ v, en = .returned v ∧ ReplE G s w.heap.size w' v ∧ Only (fun _ => False) w w' := by
  have hmf := hmfT
  have hsf := hsfT
  have hsn := hsnT
  have t1 := te445_434
  have t2 := te445_436
  have t3 := te445_437
  have t4 := te445_188
  have t5 := te445_439
  have t6 := te445_442
  have t7 := te445_444
  have t8 := te445_445
  have HR := hide (own_made kp t s a G hR hG g cap)
  have HG := hide hG
  clear hR hG
  go_enter Tryz.func163, Tryz.ntmps163
  go_wp2_with fail
  refine (HR.out _ (by simp; omega) (past (past e0 _) _) (past (past e1 _) _)).mono ?_
  rintro en w2 ⟨v, rfl, hv, ho⟩
  have hv2 := hv
  obtain ⟨b7, b8, b9, b5, x7, x8, y8, x9, y9, rfl, _⟩ := hv2
  have hb := (ho.block w.heap.size (by simp; omega) (fun e => e)).trans ((Below.heap_alloc _ _ _ (by simp)).trans (new0 w _))
  have r0 : w2.cell? ⟨w.heap.size, 0, none⟩ = some .nilFunc := cell_of hb rfl
  have r1 : w2.cell? ⟨w.heap.size, 1, none⟩ = some .nilFunc := cell_of hb rfl
  have rf := free_of hb
  have rl := heap_lt hb
  have HV := hide hv
  have HO := hide ho
  clear hv ho hb HR
  go_wp2
  refine bodyPost_ret (v := .agg #[.func (.func 401) #[] #[.pointer (some ⟨b7, 0, none⟩), .pointer (some ⟨b8, 0, none⟩), .pointer (some ⟨b9, 0, none⟩), .pointer (some ⟨b5, 0, none⟩)], .nilFunc]) (by simp [results, Tryz.results163, go_sem, r0, r1]) rfl ⟨_, rfl, repl_down (repl_keep HG.out HV.out (((Only.refl _ w2).setCell (p := ⟨w.heap.size, 0, none⟩) (fun _ => by show w.heap.size < _; simp; omega) _).setCell (p := ⟨w.heap.size, 1, none⟩) (fun _ => by show w.heap.size < _; simp; omega) _)) (by simp; omega), ?_⟩
  exact (((((onlyA w _).alloc _).trans HO.out (fun _ _ e => e)).setCell (p := ⟨w.heap.size, 0, none⟩) (fun h => absurd h (by show ¬ w.heap.size < w.heap.size; omega)) _).setCell (p := ⟨w.heap.size, 1, none⟩) (fun h => absurd h (by show ¬ w.heap.size < w.heap.size; omega)) _)
set_option maxRecDepth 20000 in
set_option maxHeartbeats 1000000 in
theorem work_made (fn : Fn) (cap : Array Value) (w : World) : Calls Tryz.prog 215 #[.agg #[.func fn #[] cap, .nilFunc]] w fun en w' => en = .returned (.agg #[.func (.func 297) #[] #[.pointer (some ⟨w.heap.size, 0, none⟩)]]) ∧ w' = (w.alloc (.cells #[.func fn #[] cap, .nilFunc] 338)).alloc (.cells #[.func (.func 297) #[] #[.pointer (some ⟨w.heap.size, 0, none⟩)]] 185) := by
  have hmf := hmfT
  have hsf := hsfT
  have hsn := hsnT
  go_enter Tryz.func215, Tryz.ntmps215
  go_wp2
  exact bodyPost_ret (v := .agg #[.func (.func 297) #[] #[.pointer (some ⟨w.heap.size, 0, none⟩)]]) (by simp [results, Tryz.results215, go_sem]) rfl ⟨rfl, rfl⟩
set_option maxRecDepth 100000 in
theorem tx507_470 (v : Value) (w : World) : (Instr.typeAssert (.iface 350 v) 235 334 true).run Tryz.prog w = .ok (.tuple #[.agg #[], .bool false]) w := by kernel_rfl
set_option maxRecDepth 100000 in
theorem tx507_419 (v : Value) (w : World) : (Instr.typeAssert (.iface 350 v) 235 285 true).run Tryz.prog w = .ok (.tuple #[.agg #[.slice none 0 0, .nilIface], .bool false]) w := by kernel_rfl
set_option maxRecDepth 100000 in
theorem tx507_509 (v : Value) (w : World) : (Instr.typeAssert (.iface 350 v) 235 352 true).run Tryz.prog w = .ok (.tuple #[.agg #[.string ⟨#[]⟩, .int .i64 0], .bool false]) w := by kernel_rfl
set_option maxRecDepth 100000 in
theorem tx507_510 (v : Value) (w : World) : (Instr.typeAssert (.iface 350 v) 235 353 true).run Tryz.prog w = .ok (.tuple #[.agg #[.nilIface], .bool false]) w := by kernel_rfl
set_option maxRecDepth 100000 in
theorem tx507_512 (v : Value) (w : World) : (Instr.typeAssert (.iface 350 v) 235 355 true).run Tryz.prog w = .ok (.tuple #[.agg #[.nilIface, .int .i64 0], .bool false]) w := by kernel_rfl
set_option maxRecDepth 100000 in
theorem tx507_513 (v : Value) (w : World) : (Instr.typeAssert (.iface 350 v) 235 356 true).run Tryz.prog w = .ok (.tuple #[.agg #[.string ⟨#[]⟩, .int .i64 0, .slice none 0 0], .bool false]) w := by kernel_rfl
set_option maxRecDepth 100000 in
theorem tx419_470 (v : Value) (w : World) : (Instr.typeAssert (.iface 285 v) 235 334 true).run Tryz.prog w = .ok (.tuple #[.agg #[], .bool false]) w := by kernel_rfl
/-- A fact about a func value that nothing turns which turns older blocks alone. -/
structure Keeps (I : Nat → World → Value → Prop) : Prop where
  isF : ∀ B w x, I B w x → ∃ F cap, x = .func (.func F) #[] cap
  keep : ∀ B w w' x, I B w x → Only (fun q => q < B) w w' → I B w' x
  down : ∀ A B w x, I B w x → A ≤ B → I A w x
/-- What works an expression out. -/
def WorkF (G : Nat → World → Value → Nat → Prop) (s : ByteArray) (B : Nat) (w : World) (v : Value) : Prop := ∃ ec x y, v = .func (.func 297) #[] #[.pointer (some ⟨ec, 0, none⟩)] ∧ B ≤ ec ∧ w.heap[ec]? = some (.cells #[x, y] 338 (0, 0)) ∧ ReplE G s B w (.agg #[x, y])
theorem work_keeps {G : Nat → World → Value → Nat → Prop} (hG : Calm G) (s : ByteArray) : Keeps (WorkF G s) where
  isF := fun _ _ _ ⟨_, _, _, e, _⟩ => ⟨_, _, e⟩
  keep := fun B w w' x ⟨ec, y, z, e, k, h, hr⟩ ho => ⟨ec, y, z, e, k, (ho.block ec (heap_lt h) (by omega)).trans h, repl_keep hG hr ho⟩
  down := fun A B w x ⟨ec, y, z, e, k, h, hr⟩ hA => ⟨ec, y, z, e, by omega, h, repl_down hr hA⟩
/-- What prints the record. -/
def PrintF (B : Nat) (w : World) (v : Value) : Prop := ∃ lb eb c g z, v = .func (.func 280) #[] #[.pointer (some ⟨lb, 0, none⟩), .pointer (some ⟨eb, 0, none⟩)] ∧ (B ≤ lb ∧ B ≤ eb ∧ B ≤ c) ∧ w.heap[lb]? = some (.cells #[.slice (some ⟨g, 0, none⟩) 0 0] 252 (0, 0)) ∧ w.heap[eb]? = some (.cells #[.func (.func 298) #[] #[.pointer (some ⟨c, 0, none⟩)], z] 338 (0, 0)) ∧ w.heap[c]? = some (.cells #[.int .i64 0, .int .i64 0, .string ⟨#[]⟩] 203 (0, 0))
theorem print_keeps : Keeps PrintF where
  isF := fun _ _ _ ⟨_, _, _, _, _, e, _⟩ => ⟨_, _, e⟩
  keep := fun B w w' x ⟨lb, eb, c, g, z, e, ⟨k1, k2, k3⟩, h1, h2, h3⟩ ho => ⟨lb, eb, c, g, z, e, ⟨k1, k2, k3⟩, (ho.block lb (heap_lt h1) (by omega)).trans h1, (ho.block eb (heap_lt h2) (by omega)).trans h2, (ho.block c (heap_lt h3) (by omega)).trans h3⟩
  down := fun A B w x ⟨lb, eb, c, g, z, e, ⟨k1, k2, k3⟩, h⟩ hA => ⟨lb, eb, c, g, z, e, ⟨by omega, by omega, by omega⟩, h⟩
set_option maxRecDepth 20000 in
set_option maxHeartbeats 4000000 in
theorem counted_work (kp : Option Addr) (t s : ByteArray) (a : Int) (G : Nat → World → Value → Nat → Prop) (hR : ReadsAs t G) (hG : Calm G) (g cap : Nat) (w : World) (hg : g < w.heap.size) (e0 : w.cell? ⟨g, 0, none⟩ = some (.iface 304 (.agg #[.string t]))) (e1 : w.cell? ⟨g, 1, none⟩ = some (.iface 303 (.agg #[.string s]))) :
    Calls Tryz.prog 161 #[.pointer kp, .iface 350 (.agg #[.iface 312 (.agg #[.string gsubX, .int .i64 a, .slice (some ⟨g, 0, none⟩) 2 cap])])] w fun en w' => ∃ x, en = .returned (.agg #[x]) ∧ WorkF G s w.heap.size w' x ∧ Only (fun _ => False) w w' := by
  have hmf := hmfT
  have hsf := hsfT
  have hsn := hsnT
  have t1 := ts507_424
  have t2 := ts507_427
  have t3 := ts507_429
  have t4 := ts507_432
  have t5 := tx507_419
  have t6 := tx507_509
  have t7 := tx507_510
  have t8 := tx507_512
  have t9 := tx507_513
  have t10 := ts507_507
  have HR := hide (expr_own kp t s a G hR hG g cap)
  have HW := hide work_made
  have HG := hide hG
  clear hR hG
  go_enter Tryz.func161, Tryz.ntmps161
  go_wp2_with fail
  refine (HR.out _ (by simp; omega) (past (past e0 _) _) (past (past e1 _) _)).mono ?_
  rintro en w2 ⟨v, rfl, hv, ho⟩
  have hv2 := hv
  obtain ⟨b7, b8, b9, b5, x7, x8, y8, x9, y9, rfl, _⟩ := hv2
  have hb := (ho.block w.heap.size (by simp; omega) (fun e => e)).trans ((Below.heap_alloc _ _ _ (by simp)).trans (new0 w _))
  have r0 : w2.cell? ⟨w.heap.size, 0, none⟩ = some .nilFunc := cell_of hb rfl
  have rf := free_of hb
  have rl := heap_lt hb
  have HV := hide hv
  have HO := hide ho
  clear hv ho hb HR
  go_wp2_with (go_at_call 215; refine (HW.out _ _ _).mono ?_; rintro en w3 ⟨rfl, hw3⟩; subst hw3)
  have hzw : w.heap.size + 1 + 1 ≤ w2.heap.size := by have := HO.out.size; simpa using this
  refine bodyPost_ret (v := .agg #[.func (.func 297) #[] #[.pointer (some ⟨w2.heap.size, 0, none⟩)]]) (by simp [results, Tryz.results161, go_sem, r0, rl]) rfl ⟨_, rfl, ⟨w2.heap.size, _, _, rfl, by omega, (Below.heap_alloc _ _ _ (by simp)).trans (new_at2 (by simp) _), repl_down (repl_keep HG.out HV.out ((((Only.refl _ w2).setCell (p := ⟨w.heap.size, 0, none⟩) (fun _ => by show w.heap.size < _; simp; omega) _).alloc _).alloc _)) (by simp; omega)⟩, ?_⟩
  exact ((((((onlyA w _).alloc _).trans HO.out (fun _ _ e => e)).setCell (p := ⟨w.heap.size, 0, none⟩) (fun h => absurd h (by show ¬ w.heap.size < w.heap.size; omega)) _).alloc _).alloc _)
set_option maxRecDepth 20000 in
set_option maxHeartbeats 2000000 in
theorem print_made2 (kp : Option Addr) (w : World) : Calls Tryz.prog 210 #[.pointer kp, .agg #[.slice none 0 0, .nilIface]] w fun en w' => ∃ v, en = .returned (.agg #[v]) ∧ PrintF w.heap.size w' v ∧ Only (fun _ => False) w w' := by
  have hmf := hmfT
  have hsf := hsfT
  have hsn := hsnT
  have HE := hide (exprs_none kp)
  have HC := hide (exprOr_nil kp 0 0 ⟨#[]⟩)
  go_enter Tryz.func210, Tryz.ntmps210
  go_wp2_with (go_at_call 128; refine (HE.out _).mono ?_; rintro en w2 ⟨rfl, hw2⟩; subst hw2)
  refine (HC.out _).mono ?_
  rintro en w3 ⟨rfl, hb3, ho3⟩
  have hz : w.heap.size + 1 + 1 + 1 + 1 ≤ w3.heap.size := by have := ho3.size; simpa using this
  have hr : w3.heap[w.heap.size + 1]? = some (.cells #[.nilFunc] 185 (0, 0)) := (ho3.block _ (by simp <;> omega) (fun e => e)).trans ((Below.heap_alloc _ _ _ (by simp <;> omega)).trans ((Below.heap_alloc _ _ _ (by simp <;> omega)).trans (new_at2 (W := w.alloc _) (by simp) _)))
  have hl : w3.heap[w.heap.size + 1 + 1 + 1]? = some (.cells #[.slice (some ⟨w.heap.size + 1 + 1, 0, none⟩) 0 0] 252 (0, 0)) := (ho3.block _ (by simp <;> omega) (fun e => e)).trans (new_at2 (W := ((w.alloc _).alloc _).alloc _) (by simp) _)
  have r0 : w3.cell? ⟨w.heap.size + 1, 0, none⟩ = some .nilFunc := cell_of hr rfl
  have rf := free_of hr
  have hrl := heap_lt hr
  have HB := hide hb3
  have HL := hide hl
  have HO : Hid (Only (fun _ => False) w w3) := ((((onlyA w _).alloc _).alloc _).alloc _).trans ho3 (fun _ _ e => e)
  clear hb3 hr hl ho3 HC HE
  have hB : w3.heap[w.heap.size + 1 + 1 + 1 + 1 + 1 + 1]? = some (.cells #[.int .i64 0, .int .i64 0, .string ⟨#[]⟩] 203 (0, 0)) := by simpa using HB.out
  have hbl := heap_lt hB
  have HB2 := hide hB
  clear hB HB
  go_wp2
  refine bodyPost_ret (v := .agg #[.func (.func 280) #[] #[.pointer (some ⟨w.heap.size + 1 + 1 + 1, 0, none⟩), .pointer (some ⟨w3.heap.size, 0, none⟩)]]) (by simp [results, Tryz.results210, go_sem, r0, hrl]) rfl ⟨_, rfl, ⟨w.heap.size + 1 + 1 + 1, w3.heap.size, w.heap.size + 1 + 1 + 1 + 1 + 1 + 1, w.heap.size + 1 + 1, .nilFunc, rfl, ⟨by omega, by omega, by omega⟩, ?_, ?_, ?_⟩, ?_⟩
  · exact (Below.heap_alloc _ _ _ (by rw [size_setCell]; omega)).trans ((Below.heap_setCell _ _ _ _ (by show w.heap.size + 1 + 1 + 1 ≠ w.heap.size + 1; omega)).trans HL.out)
  · exact new_at2 (by simp) _
  · exact (Below.heap_alloc _ _ _ (by rw [size_setCell]; omega)).trans ((Below.heap_setCell _ _ _ _ (by show w.heap.size + 1 + 1 + 1 + 1 + 1 + 1 ≠ w.heap.size + 1; omega)).trans HB2.out)
  · exact (HO.out.setCell (p := ⟨w.heap.size + 1, 0, none⟩) (fun h => absurd h (by show ¬ w.heap.size + 1 < w.heap.size; omega)) _).alloc _
set_option maxRecDepth 20000 in
set_option maxHeartbeats 4000000 in
theorem counted_print (kp : Option Addr) (w : World) :
    Calls Tryz.prog 161 #[.pointer kp, printV] w fun en w' => ∃ x, en = .returned (.agg #[x]) ∧ PrintF w.heap.size w' x ∧ Only (fun _ => False) w w' := by
  unfold printV
  have hmf := hmfT
  have hsf := hsfT
  have hsn := hsnT
  have t1 := ts419_424
  have t2 := ts419_427
  have t3 := ts419_429
  have t4 := ts419_432
  have t5 := ts419_419
  have HR := hide (print_made2 kp)
  go_enter Tryz.func161, Tryz.ntmps161
  go_wp2_with fail
  refine (HR.out _).mono ?_
  rintro en w2 ⟨v, rfl, hv, ho⟩
  have hv2 := hv
  obtain ⟨lb, eb, c, g, z, rfl, _⟩ := hv2
  have hb := (ho.block w.heap.size (by simp; omega) (fun e => e)).trans ((Below.heap_alloc _ _ _ (by simp)).trans (new0 w _))
  have r0 : w2.cell? ⟨w.heap.size, 0, none⟩ = some .nilFunc := cell_of hb rfl
  have rf := free_of hb
  have rl := heap_lt hb
  have HV := hide hv
  have HO := hide ho
  clear hv ho hb HR
  go_wp2
  refine bodyPost_ret (v := .agg #[.func (.func 280) #[] #[.pointer (some ⟨lb, 0, none⟩), .pointer (some ⟨eb, 0, none⟩)]]) (by simp [results, Tryz.results161, go_sem, r0]) rfl ⟨_, rfl, print_keeps.down _ _ _ _ (print_keeps.keep _ _ _ _ HV.out ((Only.refl _ w2).setCell (p := ⟨w.heap.size, 0, none⟩) (fun _ => by show w.heap.size < _; simp; omega) _)) (by simp; omega), ?_⟩
  exact ((((onlyA w _).alloc _).trans HO.out (fun _ _ e => e)).setCell (p := ⟨w.heap.size, 0, none⟩) (fun h => absurd h (by show ¬ w.heap.size < w.heap.size; omega)) _)
/-- A made statement: a step, and what it does. -/
def StF (I : Nat → World → Value → Prop) (B : Nat) (w : World) (v : Value) : Prop := ∃ b x, v = .func (.func 162) #[] #[.pointer (some ⟨b, 0, none⟩)] ∧ B ≤ b ∧ w.heap[b]? = some (.cells #[x] 185 (0, 0)) ∧ I B w x
theorem st_keeps {I : Nat → World → Value → Prop} (h : Keeps I) : Keeps (StF I) where
  isF := fun _ _ _ ⟨_, _, e, _⟩ => ⟨_, _, e⟩
  keep := fun B w w' x ⟨b, y, e, k, h1, h2⟩ ho => ⟨b, y, e, k, (ho.block b (heap_lt h1) (by omega)).trans h1, h.keep _ _ _ _ h2 ho⟩
  down := fun A B w x ⟨b, y, e, k, h1, h2⟩ hA => ⟨b, y, e, by omega, h1, h.down _ _ _ _ h2 hA⟩
set_option maxRecDepth 20000 in
set_option maxHeartbeats 4000000 in
theorem stmt_made (kp : Option Addr) (I : Nat → World → Value → Prop) (hI : Keeps I) (ty : Nat) (u : Value) (w : World) (h1 : ∀ W, (Instr.typeAssert (.iface ty u) 235 95 true).run Tryz.prog W = .ok (.tuple #[.slice none 0 0, .bool false]) W) (h2 : ∀ W, (Instr.typeAssert (.iface ty u) 235 334 true).run Tryz.prog W = .ok (.tuple #[.agg #[], .bool false]) W)
    (H : ∀ W, Only (fun _ => False) w W → Calls Tryz.prog 161 #[.pointer kp, .iface ty u] W fun en w' => ∃ x, en = .returned (.agg #[x]) ∧ I W.heap.size w' x ∧ Only (fun _ => False) W w') :
    Calls Tryz.prog 126 #[.pointer kp, .iface ty u] w fun en w' => ∃ x, en = .returned (.agg #[x]) ∧ StF I w.heap.size w' x ∧ Only (fun _ => False) w w' := by
  have hmf := hmfT
  have hsf := hsfT
  have hsn := hsnT
  have HR := hide (H _ (onlyA w (.cells #[.nilFunc] 185)))
  have HI := hide hI
  clear hI H
  go_enter Tryz.func126, Tryz.ntmps126
  go_wp2_with fail
  refine (HR.out).mono ?_
  rintro en w2 ⟨x, rfl, hv, ho⟩
  obtain ⟨F, cap, rfl⟩ := HI.out.isF _ _ _ hv
  have hb := (ho.block w.heap.size (by simp) (fun e => e)).trans (new0 w _)
  have r0 : w2.cell? ⟨w.heap.size, 0, none⟩ = some .nilFunc := cell_of hb rfl
  have rf := free_of hb
  have rl := heap_lt hb
  have HV := hide hv
  have HO := hide ho
  clear hv ho hb HR
  go_wp2
  have hzw : w.heap.size + 1 ≤ w2.heap.size := by have := HO.out.size; simpa using this
  refine bodyPost_ret (v := .agg #[.func (.func 162) #[] #[.pointer (some ⟨w2.heap.size, 0, none⟩)]]) (by simp [results, Tryz.results126, go_sem, r0, rl]) rfl ⟨_, rfl, ⟨w2.heap.size, _, rfl, by omega, new_at2 (by simp) _, HI.out.down _ _ _ _ (HI.out.keep _ _ _ _ HV.out (((Only.refl _ w2).setCell (p := ⟨w.heap.size, 0, none⟩) (fun _ => by show w.heap.size < _; simp) _).alloc _)) (by simp)⟩, ?_⟩
  exact ((((onlyA w _).trans HO.out (fun _ _ e => e)).setCell (p := ⟨w.heap.size, 0, none⟩) (fun h => absurd h (by show ¬ w.heap.size < w.heap.size; omega)) _).alloc _)
end Go.Proofs.YtdbdbaepmdmnfaaGreatDoor

