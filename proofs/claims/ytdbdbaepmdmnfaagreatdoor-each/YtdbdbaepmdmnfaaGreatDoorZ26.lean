import Derived.Test.YtdbdbaepmdmnfaaGreatDoorZ25
namespace Go.Proofs.YtdbdbaepmdmnfaaGreatDoor
open Go.RowKit
set_option maxRecDepth 20000 in
set_option maxHeartbeats 4000000 in
theorem ffind_do (p : Pl8) (s : St8) (nb : Nat) (x y : Value) (k : Nat) (hk : k ≤ 40) (a : Int) (ha : (a == 2) = false) (t : ByteArray) (hG : Gives p s x (.agg #[.int .i64 a, .int .i64 k, .string t])) (hnb : p.wN.heap[nb]? = some (.cells #[x, y] 338 (0, 0))) (w : World) (h : On8 p s w) :
    Calls Tryz.prog 317 #[.pointer (some ⟨p.m, 0, none⟩), .pointer (some ⟨nb, 0, none⟩)] w fun en w' => ∃ b2 b4, en = .returned (.agg #[.func (.func 319) #[] #[.pointer (some ⟨b2, 0, none⟩), .pointer (some ⟨b4, 0, none⟩)], .func (.func 321) #[] #[.pointer (some ⟨b2, 0, none⟩), .pointer (some ⟨b4, 0, none⟩)]]) ∧ w'.heap[b2]? = some (.cells #[.pointer (some ⟨p.m, 0, none⟩)] 130 (0, 0)) ∧ w'.heap[b4]? = some (.cells #[.int .i64 k] 3 (0, 0)) ∧ Only (fun _ => False) w w' := by
  obtain ⟨F, caps, rfl, hcf, hF⟩ := hG
  unfold Enters at hcf
  have hmf := hmfT
  have hsf := hsfT
  have hsn := hsnT
  have hnw := (h.O.block nb (heap_lt hnb) (fun e => e)).trans hnb
  have e0 : w.cell? ⟨nb, 0, none⟩ = some (.func (.func F) #[] caps.toArray) := cell_of hnw rfl
  have hnl := heap_lt hnw
  have HF := hide (fun W (hW : Only (fun _ => False) w W) => hF W (h.calm hW))
  have HN := hide (field_number_on (some ⟨p.m, 0, none⟩) a ha k hk t)
  clear hnb hnw hF h ha hk
  go_enter Tryz.func317, Tryz.ntmps317
  go_upto_region 1 with fail
  have n0 : ((w.alloc (.cells #[.pointer (some ⟨p.m, 0, none⟩)] 130)).alloc (.cells #[.nilFunc, .nilFunc] 436)).cell? ⟨w.heap.size, 0, none⟩ = some (.pointer (some ⟨p.m, 0, none⟩)) := past (cell_of (new0 w _) rfl) _
  have n0d : ((w.alloc (.cells #[.pointer (some ⟨p.m, 0, none⟩)] 130)).alloc (.cells #[.nilFunc, .nilFunc] 436)).drew.cell? ⟨w.heap.size, 0, none⟩ = some (.pointer (some ⟨p.m, 0, none⟩)) := n0
  go_cut [4] (fun s4 wc => ∃ b4, s4 = .pointer (some ⟨b4, 0, none⟩) ∧ wc.heap[b4]? = some (.cells #[.int .i64 k] 3 (0, 0)) ∧ wc.heap[w.heap.size]? = some (.cells #[.pointer (some ⟨p.m, 0, none⟩)] 130 (0, 0)) ∧ wc.heap[w.heap.size + 1]? = some (.cells #[.nilFunc, .nilFunc] 436 (0, 0)) ∧ w.heap.size + 1 < b4 ∧ Only (fun _ => False) w wc)
  case first =>
    go_region_held3 (fun W => W.cell? ⟨w.heap.size, 0, none⟩ = some (.pointer (some ⟨p.m, 0, none⟩)) ∧ W.cell? ⟨nb, 0, none⟩ = some (.func (.func F) #[] caps.toArray)) (first | (refine ⟨?_, ?_⟩ <;> (repeat (first | (with_reducible assumption) | (with_reducible refine past ?_ _) | (with_reducible refine pastD ?_ _) | ((with_reducible refine farC ?_ ?_); (rotate_left; (focus (first | (simp; done) | (simp; omega) | omega))))))))
      (first | (go_at_call 318; refine (HN.out _).mono ?_; rintro en w2 ⟨rfl, ho2⟩; have hO : Only (fun _ => False) w w2 := Only.trans (by repeat (first | with_reducible exact HO1.out | with_reducible refine Only.alloc ?_ _ | with_reducible refine toDrew ?_)) ho2 (fun _ _ e => e); refine lay (P := Hid (w2.heap[w.heap.size]? = some (.cells #[.pointer (some ⟨p.m, 0, none⟩)] 130 (0, 0)))) ?_ (fun HC0 => ?_); (focus (refine hide ?_; refine (ho2.block _ ?_ (fun e => e)).trans ?_; (focus (first | (simp; done) | (simp; omega) | omega)); (repeat (first | (with_reducible exact HB0.out) | ((with_reducible refine new_at2D ?_ _); focus (simp; done)) | ((with_reducible refine (heap_allocD _ _ ?_).trans ?_); (focus (first | (simp; done) | (simp; omega) | omega))) | ((with_reducible refine new_at2 ?_ _); focus (simp; done)) | ((with_reducible refine (Below.heap_alloc _ _ _ ?_).trans ?_); (focus (first | (simp; done) | (simp; omega) | omega))))); done)); refine lay (P := Hid (w2.heap[w.heap.size + 1]? = some (.cells #[.nilFunc, .nilFunc] 436 (0, 0)))) ?_ (fun HC1 => ?_); (focus (refine hide ?_; refine (ho2.block _ ?_ (fun e => e)).trans ?_; (focus (first | (simp; done) | (simp; omega) | omega)); (repeat (first | (with_reducible exact HB1.out) | ((with_reducible refine new_at2D ?_ _); focus (simp; done)) | ((with_reducible refine (heap_allocD _ _ ?_).trans ?_); (focus (first | (simp; done) | (simp; omega) | omega))) | ((with_reducible refine new_at2 ?_ _); focus (simp; done)) | ((with_reducible refine (Below.heap_alloc _ _ _ ?_).trans ?_); (focus (first | (simp; done) | (simp; omega) | omega))))); done)); have v0 : w2.cell? ⟨w.heap.size, 0, none⟩ = some (.pointer (some ⟨p.m, 0, none⟩)) := cell_of HC0.out rfl; have v1 := (hO.cell (p := ⟨nb, 0, none⟩) hnl (fun e => e)).trans e0; (try (refine lay (P := Hid (w2.heap[w.heap.size + 1 + 1]? = some (.cells #[.int .i64 0] 3 (0, 0)))) ?_ (fun HD0 => ?_); (focus (refine hide ?_; refine (ho2.block _ ?_ (fun e => e)).trans ?_; (focus (first | (simp; done) | (simp; omega) | omega)); (repeat (first | (with_reducible exact HI0.out) | ((with_reducible refine new_at2D ?_ _); focus (simp; done)) | ((with_reducible refine (heap_allocD _ _ ?_).trans ?_); (focus (first | (simp; done) | (simp; omega) | omega))) | ((with_reducible refine new_at2 ?_ _); focus (simp; done)) | ((with_reducible refine (Below.heap_alloc _ _ _ ?_).trans ?_); (focus (first | (simp; done) | (simp; omega) | omega))))); done)); have HD0c : w2.cell? ⟨w.heap.size + 1 + 1, 0, none⟩ = some (.int .i64 0) := cell_of HD0.out rfl; have HD0f := free_of HD0.out; have HD0l := heap_lt HD0.out)); (try (refine lay (P := Hid (w2.heap[w1.heap.size]? = some (.cells #[.int .i64 0] 3 (0, 0)))) ?_ (fun HD1 => ?_); (focus (refine hide ?_; refine (ho2.block _ ?_ (fun e => e)).trans ?_; (focus (first | (simp; done) | (simp; omega) | omega)); (repeat (first | ((with_reducible refine new_at2D ?_ _); focus (simp; done)) | ((with_reducible refine (heap_allocD _ _ ?_).trans ?_); (focus (first | (simp; done) | (simp; omega) | omega))) | ((with_reducible refine new_at2 ?_ _); focus (simp; done)) | ((with_reducible refine (Below.heap_alloc _ _ _ ?_).trans ?_); (focus (first | (simp; done) | (simp; omega) | omega))))); done)); have HD1c : w2.cell? ⟨w1.heap.size, 0, none⟩ = some (.int .i64 0) := cell_of HD1.out rfl; have HD1f := free_of HD1.out; have HD1l := heap_lt HD1.out)); have hz3 := ho2.size; have HO := hide hO; clear hO; have HO2 := hide ho2; clear ho2) | (with_reducible show Calls Tryz.prog F _ _ _; refine (HF.out _ (by repeat (first | with_reducible exact Only.refl _ _ | with_reducible refine Only.alloc ?_ _ | with_reducible refine toDrew ?_))).mono ?_; rintro en w1 ⟨rfl, ho1⟩; have hO1 : Only (fun _ => False) w w1 := Only.trans (by repeat (first | with_reducible exact Only.refl _ _ | with_reducible refine Only.alloc ?_ _ | with_reducible refine toDrew ?_)) ho1 (fun _ _ e => e); have hz1 : w.heap.size + 1 + 1 ≤ w1.heap.size := (by have := ho1.size; simp at this; omega); refine lay (P := Hid (w1.heap[w.heap.size]? = some (.cells #[.pointer (some ⟨p.m, 0, none⟩)] 130 (0, 0)))) ?_ (fun HB0 => ?_); (focus (refine hide ?_; refine (ho1.block _ ?_ (fun e => e)).trans ?_; (focus (first | (simp; done) | (simp; omega) | omega)); (repeat (first | ((with_reducible refine new_at2D ?_ _); focus (simp; done)) | ((with_reducible refine (heap_allocD _ _ ?_).trans ?_); (focus (first | (simp; done) | (simp; omega) | omega))) | ((with_reducible refine new_at2 ?_ _); focus (simp; done)) | ((with_reducible refine (Below.heap_alloc _ _ _ ?_).trans ?_); (focus (first | (simp; done) | (simp; omega) | omega))))); done)); refine lay (P := Hid (w1.heap[w.heap.size + 1]? = some (.cells #[.nilFunc, .nilFunc] 436 (0, 0)))) ?_ (fun HB1 => ?_); (focus (refine hide ?_; refine (ho1.block _ ?_ (fun e => e)).trans ?_; (focus (first | (simp; done) | (simp; omega) | omega)); (repeat (first | ((with_reducible refine new_at2D ?_ _); focus (simp; done)) | ((with_reducible refine (heap_allocD _ _ ?_).trans ?_); (focus (first | (simp; done) | (simp; omega) | omega))) | ((with_reducible refine new_at2 ?_ _); focus (simp; done)) | ((with_reducible refine (Below.heap_alloc _ _ _ ?_).trans ?_); (focus (first | (simp; done) | (simp; omega) | omega))))); done)); have y0 : w1.cell? ⟨w.heap.size, 0, none⟩ = some (.pointer (some ⟨p.m, 0, none⟩)) := cell_of HB0.out rfl; have y1 := (hO1.cell (p := ⟨nb, 0, none⟩) hnl (fun e => e)).trans e0; (try (refine lay (P := Hid (w1.heap[w.heap.size + 1 + 1]? = some (.cells #[.int .i64 0] 3 (0, 0)))) ?_ (fun HI0 => ?_); (focus (refine hide ?_; refine (ho1.block _ ?_ (fun e => e)).trans ?_; (focus (first | (simp; done) | (simp; omega) | omega)); (repeat (first | ((with_reducible refine new_at2D ?_ _); focus (simp; done)) | ((with_reducible refine (heap_allocD _ _ ?_).trans ?_); (focus (first | (simp; done) | (simp; omega) | omega))) | ((with_reducible refine new_at2 ?_ _); focus (simp; done)) | ((with_reducible refine (Below.heap_alloc _ _ _ ?_).trans ?_); (focus (first | (simp; done) | (simp; omega) | omega))))); done)); have HI0c : w1.cell? ⟨w.heap.size + 1 + 1, 0, none⟩ = some (.int .i64 0) := cell_of HI0.out rfl; have HI0f := free_of HI0.out; have HI0l := heap_lt HI0.out)); have HO1 := hide hO1; clear hO1; have Ho1 := hide ho1; clear ho1))
    all_goals
      go_wp2_with fail
      go_meet
      have hzw := heap_lt HC1.out
      refine ⟨_, rfl, ?_, ?_, ?_, ?_, HO.out.trans (D := fun _ => False) (E := fun q => w.heap.size ≤ q) ?_ (fun q h1 h2 => by omega)⟩
      · (repeat (first | ((with_reducible refine new_at2 ?_ _); focus (simp; done)) | ((with_reducible refine (Below.heap_alloc _ _ _ ?_).trans ?_); (focus (first | omega | (simp; done) | (simp; omega)))) | (with_reducible refine set1 (x := .int .i64 0) ?_ _) | ((with_reducible refine (Below.heap_setCell _ _ _ _ ?_).trans ?_); (focus (show _ ≠ _; first | (simp; done) | (simp; omega) | omega))) | (with_reducible exact HC0.out) | (with_reducible exact HC1.out) | (with_reducible exact HD0.out) | (with_reducible exact HD1.out)))
      · (repeat (first | ((with_reducible refine new_at2 ?_ _); focus (simp; done)) | ((with_reducible refine (Below.heap_alloc _ _ _ ?_).trans ?_); (focus (first | omega | (simp; done) | (simp; omega)))) | (with_reducible refine set1 (x := .int .i64 0) ?_ _) | ((with_reducible refine (Below.heap_setCell _ _ _ _ ?_).trans ?_); (focus (show _ ≠ _; first | (simp; done) | (simp; omega) | omega))) | (with_reducible exact HC0.out) | (with_reducible exact HC1.out) | (with_reducible exact HD0.out) | (with_reducible exact HD1.out)))
      · (repeat (first | ((with_reducible refine new_at2 ?_ _); focus (simp; done)) | ((with_reducible refine (Below.heap_alloc _ _ _ ?_).trans ?_); (focus (first | omega | (simp; done) | (simp; omega)))) | (with_reducible refine set1 (x := .int .i64 0) ?_ _) | ((with_reducible refine (Below.heap_setCell _ _ _ _ ?_).trans ?_); (focus (show _ ≠ _; first | (simp; done) | (simp; omega) | omega))) | (with_reducible exact HC0.out) | (with_reducible exact HC1.out) | (with_reducible exact HD0.out) | (with_reducible exact HD1.out)))
      · first | omega | (simp; done) | (simp; omega)
      · (repeat (first | (with_reducible exact Only.refl _ _) | (with_reducible refine Only.alloc ?_ _) | (with_reducible refine toDrew ?_) | ((with_reducible refine Only.setCell ?_ ?_ _); (rotate_left; (focus (intro _; show _; first | (simp; done) | (simp; omega) | omega))))))
  case rest =>
    obtain ⟨b4, rfl, h4, hx0, hx1, k4, hO⟩ := hcut
    have r0 : wc.cell? ⟨w.heap.size + 1, 0, none⟩ = some .nilFunc := cell_of hx1 rfl
    have r1 : wc.cell? ⟨w.heap.size + 1, 1, none⟩ = some .nilFunc := cell_of hx1 rfl
    have rf := free_of hx1
    have rl := heap_lt hx1
    have H4 := hide h4
    have HX0 := hide hx0
    have HO := hide hO
    clear h4 hx0 hx1 hO
    go_wp2
    have hol : Only (fun q => q = w.heap.size + 1) wc _ := ((Only.refl (fun q => q = w.heap.size + 1) wc).setCell (p := ⟨w.heap.size + 1, 0, none⟩) (fun _ => rfl) (.func (.func 319) #[] #[.pointer (some ⟨w.heap.size, 0, none⟩), .pointer (some ⟨b4, 0, none⟩)])).setCell (p := ⟨w.heap.size + 1, 1, none⟩) (fun _ => rfl) (.func (.func 321) #[] #[.pointer (some ⟨w.heap.size, 0, none⟩), .pointer (some ⟨b4, 0, none⟩)])
    refine bodyPost_ret (v := .agg #[.func (.func 319) #[] #[.pointer (some ⟨w.heap.size, 0, none⟩), .pointer (some ⟨b4, 0, none⟩)], .func (.func 321) #[] #[.pointer (some ⟨w.heap.size, 0, none⟩), .pointer (some ⟨b4, 0, none⟩)]]) (by simp [results, Tryz.results317, go_sem, r0, r1]) rfl ⟨w.heap.size, b4, rfl, (hol.block _ (heap_lt HX0.out) (by omega)).trans HX0.out, (hol.block _ (heap_lt H4.out) (by omega)).trans H4.out, HO.out.trans hol (fun q h e => by omega)⟩
theorem agg_two {a b c d : Value} (e : Value.agg #[a, b] = .agg #[c, d]) : a = c ∧ b = d := by
  injection e with e
  have h0 := congrArg (fun a => a[0]?) e
  have h1 := congrArg (fun a => a[1]?) e
  simp at h0 h1
  exact ⟨h0, h1⟩
/-- What was made of a field finds its place. -/
theorem finds_field (p : Pl8) (s : St8) (I : Nat → World → Value → Prop) (B : Nat) (x y : Value) (h : FieldK I B p.wN (.agg #[x, y])) (k : Nat) (hk : k ≤ 40) (a : Int) (ha : (a == 2) = false) (t : ByteArray) (hI : ∀ x' y', I B p.wN (.agg #[x', y']) → Gives p s x' (.agg #[.int .i64 a, .int .i64 k, .string t])) : FindsK p s 319 321 3 #[.int .i64 k] y := by
  obtain ⟨nb, g, x', y', e, _, _, hnb, _, hi⟩ := h
  obtain ⟨_, rfl⟩ := agg_two e
  refine ⟨317, [.pointer (some ⟨nb, 0, none⟩)], rfl, cf317, fun W hW => ?_⟩
  refine (ffind_do p s nb x' y' k hk a ha t (hI _ _ hi) hnb W hW).mono ?_
  rintro en w' ⟨b2, b4, e, h2, h4, ho⟩
  exact ⟨_, _, e, ⟨_, _, rfl, rfl, h2, h4⟩, ho⟩
theorem gives_field (p : Pl8) (s : St8) (I : Nat → World → Value → Prop) (B : Nat) (x y : Value) (h : FieldK I B p.wN (.agg #[x, y])) (k : Nat) (hk : k ≤ 40) (a : Int) (ha : (a == 2) = false) (t : ByteArray) (hI : ∀ x' y', I B p.wN (.agg #[x', y']) → Gives p s x' (.agg #[.int .i64 a, .int .i64 k, .string t])) (b n : Int) (u : ByteArray) (hT : TakesK p s 319 3 #[.int .i64 k] b n u) : Gives p s x (.agg #[.int .i64 b, .int .i64 n, .string u]) := by
  have hf := finds_field p s I B x y h k hk a ha t hI
  obtain ⟨nb, g, x', y', e, _, _, _, hg, _⟩ := h
  obtain ⟨rfl, rfl⟩ := agg_two e
  exact found_on p s 319 321 3 #[.int .i64 k] g _ b n u hf hT hg
/-- The row of the array's keys. -/
def KRow (p : Pl8) (W : World) (q : Nat) : Prop := ∃ kv, W.heap[p.akb]? = some (.cells #[kv] 23 (0, 0)) ∧ kv.ownBlock = some q
/-- Blocks that a run's own doings leave as they were. -/
structure Kept (p : Pl8) (W w' : World) : Prop where
  size : W.heap.size ≤ w'.heap.size
  box : ∀ (q : Nat) (c : Array Value) (t : TypeId), q ≠ p.m → q ≠ p.vb → q ≠ p.sb → q ≠ p.akb → t ≠ 9 → t ≠ 5 → W.heap[q]? = some (.cells c t (0, 0)) → w'.heap[q]? = some (.cells c t (0, 0))
  row : ∀ (q : Nat) (c : Array Value), q ≠ p.m → q ≠ p.vb → q ≠ p.sb → q ≠ p.akb → p.akb < W.heap.size → ¬ KRow p W q → W.heap[q]? = some (.cells c 9 (0, 0)) → w'.heap[q]? = some (.cells c 9 (0, 0)) ∧ ¬ KRow p w' q
theorem Kept.of {p : Pl8} {W w' : World} (ho : Only (fun _ => False) W w') : Kept p W w' := ⟨ho.size, fun q _ _ _ _ _ _ _ _ h => (ho.block q (heap_lt h) (fun e => e)).trans h, fun q _ _ _ _ _ hl hn h => ⟨(ho.block q (heap_lt h) (fun e => e)).trans h, fun ⟨kv, h1, h2⟩ => hn ⟨kv, (ho.block _ hl (fun e => e)).symm.trans h1, h2⟩⟩⟩
theorem Kept.trans {p : Pl8} {W w' w'' : World} (h : Kept p W w') (h' : Kept p w' w'') : Kept p W w'' := ⟨Nat.le_trans h.size h'.size, fun q c t h1 h2 h3 h3' h4 h5 e => h'.box q c t h1 h2 h3 h3' h4 h5 (h.box q c t h1 h2 h3 h3' h4 h5 e), fun q c h1 h2 h3 h4 hl hn e => by
  obtain ⟨a, b⟩ := h.row q c h1 h2 h3 h4 hl hn e
  exact h'.row q c h1 h2 h3 h4 (Nat.lt_of_lt_of_le hl h.size) b a⟩
/-- The machine, its variables, its stream turn. -/
theorem Kept.ofV {p : Pl8} {s : St8} {W w' : World} {D : Nat → Prop} (h0 : On8 p s W) (hD : ∀ q, D q → q = p.m ∨ q = p.vb ∨ q = p.sb) (ho : Only D W w') : Kept p W w' := by
  have hn := h0.ne
  have hk : ¬ D p.akb := fun e => by rcases hD _ e with e | e | e; exact hn.1.2.2 e.symm; exact hn.2.1.2.2 e.symm; exact hn.2.2.1.2.2 e.symm
  exact ⟨ho.size, fun q _ _ h1 h2 h3 _ _ _ h => (ho.block q (heap_lt h) (fun e => by rcases hD q e with e | e | e; exact h1 e; exact h2 e; exact h3 e)).trans h, fun q c h1 h2 h3 _ hl hn h => ⟨(ho.block q (heap_lt h) (fun e => by rcases hD q e with e | e | e; exact h1 e; exact h2 e; exact h3 e)).trans h, fun ⟨kv, k1, k2⟩ => hn ⟨kv, (ho.block _ hl hk).symm.trans k1, k2⟩⟩⟩
/-- What was put out turns too. -/
theorem Kept.ofS {p : Pl8} {s : St8} {W w' : World} {tv : Value} (h0 : On8 p s W) (hT : W.ownsRow p.wN.heap.size 5 1 tv s.out.size (Lib.strCells s.out)) (ho : Only (fun q => q = p.m ∨ q = p.sb ∨ tv.ownBlock = some q) W w') : Kept p W w' := by
  have hn := h0.ne
  obtain ⟨kv, hA⟩ := h0.R
  have h4 := own_tag hT hA.k (by decide)
  refine ⟨ho.size, fun q c t h1 h2 h3 h3' h9 h5 h => (ho.block q (heap_lt h) (fun e => ?_)).trans h, fun q c h1 h2 h3 _ hl hnr h => ⟨(ho.block q (heap_lt h) (fun e => ?_)).trans h, fun ⟨kv, k1, k2⟩ => hnr ⟨kv, (ho.block _ hl (fun e => ?_)).symm.trans k1, k2⟩⟩⟩
  · rcases e with e | e | e
    · exact h1 e
    · exact h3 e
    · exact own_tag hT h (Ne.symm h5) e
  · rcases e with e | e | e
    · exact h1 e
    · exact h3 e
    · exact own_tag hT h (by decide) e
  · rcases e with e | e | e
    · exact hn.1.2.2 e.symm
    · exact hn.2.2.1.2.2 e.symm
    · exact h4 e
/-- The array turns. -/
theorem Kept.ofA {p : Pl8} {s : St8} {W w' : World} {kv kv' : Value} {A : AL} (_h0 : On8 p s W) (hA0 : ArrAt W p.wN.heap.size p.ab p.aM p.akb kv s.A) (ho : Only (fun q => q = p.akb ∨ q = p.aM ∨ kv.ownBlock = some q) W w') (hA : ArrAt w' p.wN.heap.size p.ab p.aM p.akb kv' A) (hn : ∀ q, kv'.ownBlock = some q → kv.ownBlock = some q ∨ W.heap.size ≤ q) : Kept p W w' := by
  obtain ⟨es, ck, e1, _⟩ := hA0.m
  refine ⟨ho.size, fun q c t h1 h2 h3 h3' h9 h5 h => (ho.block q (heap_lt h) (fun e => ?_)).trans h, fun q c h1 h2 h3 h3' hl hnr h => ⟨(ho.block q (heap_lt h) (fun e => ?_)).trans h, fun ⟨kx, k1, k2⟩ => ?_⟩⟩
  · rcases e with e | e | e
    · exact h3' e
    · rw [e, e1] at h; cases h
    · exact own_tag hA0.r h (Ne.symm h9) e
  · rcases e with e | e | e
    · exact h3' e
    · rw [e, e1] at h; cases h
    · exact hnr ⟨kv, hA0.k, e⟩
  · rw [hA.k] at k1
    obtain rfl : kv' = kx := by injection k1 with k1; injection k1 with k1; injection k1 with k1; injection k1
    rcases hn q k2 with e | e
    · exact hnr ⟨kv, hA0.k, e⟩
    · have := heap_lt h; omega
theorem On8.lts {p : Pl8} {s : St8} {W : World} (h : On8 p s W) : p.m < W.heap.size ∧ p.vb < W.heap.size ∧ p.sb < W.heap.size ∧ p.akb < W.heap.size ∧ p.ab < W.heap.size ∧ p.aM < W.heap.size := by
  obtain ⟨po, pn, pc, hM⟩ := h.M
  obtain ⟨tv, hS, _⟩ := h.S
  obtain ⟨kv, hA⟩ := h.R
  obtain ⟨es, ck, e1, _⟩ := hA.m
  exact ⟨heap_lt hM, heap_lt h.V, heap_lt hS, heap_lt hA.k, heap_lt hA.a, heap_lt e1⟩
/-- A block that is new to a run is kept. -/
theorem Kept.new {p : Pl8} {s : St8} {W0 W w' : World} (h : Kept p W w') (h0 : On8 p s W0) {q : Nat} {c : Array Value} {t : TypeId} (hq : W0.heap.size ≤ q) (h4 : t ≠ 9) (h5 : t ≠ 5) (e : W.heap[q]? = some (.cells c t (0, 0))) : w'.heap[q]? = some (.cells c t (0, 0)) := by
  have l := h0.lts
  exact h.box q c t (by omega) (by omega) (by omega) (by omega) h4 h5 e
/-- A row of texts that is not the keys' is kept. -/
theorem Kept.new9 {p : Pl8} {s : St8} {W w' : World} (h : Kept p W w') (h0 : On8 p s W) {q : Nat} {c : Array Value} (hn : ¬ KRow p W q) (e : W.heap[q]? = some (.cells c 9 (0, 0))) : w'.heap[q]? = some (.cells c 9 (0, 0)) ∧ ¬ KRow p w' q := by
  obtain ⟨po, pn, pc, hM⟩ := h0.M
  obtain ⟨tv, hS, _⟩ := h0.S
  obtain ⟨kv, hA⟩ := h0.R
  have hV := h0.V
  have hk := hA.k
  unfold MAt8 at hM
  unfold VAt at hV
  refine h.row q c (fun x => ?_) (fun x => ?_) (fun x => ?_) (fun x => ?_) h0.lts.2.2.2.1 hn e
  · rw [x, hM] at e; simp at e
  · rw [x, hV] at e; simp at e
  · rw [x, hS] at e; simp at e
  · rw [x, hk] at e; simp at e
/-- A row just made is not the keys'. -/
theorem On8.notRow {p : Pl8} {s : St8} {W0 W : World} (h0 : On8 p s W0) (ho : Only (fun _ => False) W0 W) {q : Nat} (hq : W0.heap.size ≤ q) : ¬ KRow p W q := fun ⟨kx, k1, k2⟩ => by
  obtain ⟨kv, hA⟩ := h0.R
  have e := (ho.block _ (heap_lt hA.k) (fun e => e)).symm.trans k1
  rw [hA.k] at e
  obtain rfl : kv = kx := by injection e with e; injection e with e; injection e with e; injection e
  have := (hA.r.lt q k2).2
  omega
theorem Kept.set {p : Pl8} {W w' : World} (h : Kept p W w') {a : Addr} (ha : W.heap.size ≤ a.block) (v : Value) : Kept p W (w'.setCell a v) := ⟨by simpa using h.size, fun q c t h1 h2 h3 h3' h4 h5 e => (Below.heap_setCell _ _ _ _ (by have := heap_lt e; omega)).trans (h.box q c t h1 h2 h3 h3' h4 h5 e), fun q c h1 h2 h3 h4 hl hn e => by
  obtain ⟨x, y⟩ := h.row q c h1 h2 h3 h4 hl hn e
  exact ⟨(Below.heap_setCell _ _ _ _ (by have := heap_lt e; omega)).trans x, fun ⟨kv, k1, k2⟩ => y ⟨kv, (Below.heap_setCell _ _ _ _ (by omega)).symm.trans k1, k2⟩⟩⟩
/-- Some other block of a run turns. -/
theorem On8.other {p : Pl8} {s : St8} {W : World} (h : On8 p s W) {q : Nat} {c : Array Value} {t : TypeId} (e : W.heap[q]? = some (.cells c t (0, 0))) (h1 : q ≠ p.m) (h2 : q ≠ p.vb) (h3 : q ≠ p.sb) (h6 : q ≠ p.ab ∧ q ≠ p.akb) (h4 : 9 ≠ t ∨ ¬ KRow p W q) (h5 : 5 ≠ t) (hq : p.wN.heap.size ≤ q) (o : Nat) (v : Value) : On8 p s (W.setCell ⟨q, o, none⟩ v) := by
  obtain ⟨po, pn, pc, hM⟩ := h.M
  obtain ⟨tv, hS, hT⟩ := h.S
  obtain ⟨kv, hA⟩ := h.R
  obtain ⟨es, ck, e1, _⟩ := hA.m
  have a1 : kv.ownBlock ≠ some q := fun x => by
    rcases h4 with h4 | h4
    · exact own_tag hA.r e h4 x
    · exact h4 ⟨kv, hA.k, x⟩
  have a2 := own_tag hT e h5
  have a3 : p.aM ≠ q := fun x => by rw [x, e] at e1; cases e1
  have ho : Only (fun k => k = q) W (W.setCell ⟨q, o, none⟩ v) := (Only.refl (fun k => k = q) W).setCell (p := ⟨q, o, none⟩) (fun _ => rfl) v
  exact ⟨h.hm, h.hv, h.hs, h.ha, h.nmv, h.nms, h.nvs, ⟨po, pn, pc, hM.only ho (fun e => h1 e.symm)⟩, h.V.only ho (fun e => h2 e.symm), ⟨tv, (ho.block p.sb (heap_lt hS) (fun e => h3 e.symm)).trans hS, ownsRow_of hT (fun k hk => ho.block k (hT.lt k hk).2 (fun e => a2 (by rw [hk, e])))⟩, ⟨kv, hA.only ho (Ne.symm h6.1) (Ne.symm h6.2) a3 (fun q hq e => a1 (by rw [hq, e]))⟩, h.O.trans ho (fun k hk e => by omega)⟩
/-- What is kept when a box of three cells, new to a run, turns. -/
theorem On8.box3 {p : Pl8} {s s0 : St8} {W0 W : World} (h0 : On8 p s0 W0) (h : On8 p s W) {q : Nat} {x0 x1 x2 : Value} (e : W.heap[q]? = some (.cells #[x0, x1, x2] 203 (0, 0))) (hq : W0.heap.size ≤ q) (u0 u1 u2 : Value) : On8 p s (((W.setCell ⟨q, 0, none⟩ u0).setCell ⟨q, 1, none⟩ u1).setCell ⟨q, 2, none⟩ u2) := by
  have l := h0.lts
  have l4 := h0.O.size
  have g1 := heap_setCell_same (o := 0) e u0
  have g2 := heap_setCell_same (o := 1) g1 u1
  exact ((h.other e (by omega) (by omega) (by omega) (by omega) (Or.inl (by decide)) (by decide) (by omega) 0 u0).other g1 (by omega) (by omega) (by omega) (by omega) (Or.inl (by decide)) (by decide) (by omega) 1 u1).other g2 (by omega) (by omega) (by omega) (by omega) (Or.inl (by decide)) (by decide) (by omega) 2 u2
/-- An expression's function works a value out; the run is then at s'. -/
def Works (p : Pl8) (s s' : St8) (x r : Value) : Prop := ∃ (F : Nat) (caps : List Value), x = .func (.func F) #[] caps.toArray ∧ Enters F ∧ ∀ W, On8 p s W → Calls Tryz.prog F (.pointer (some ⟨p.m, 0, none⟩) :: caps).toArray W fun en w' => en = .returned r ∧ On8 p s' w' ∧ Kept p W w'
theorem Gives.works {p : Pl8} {s : St8} {x r : Value} (h : Gives p s x r) : Works p s s x r := by
  obtain ⟨F, caps, e, hc, hF⟩ := h
  exact ⟨F, caps, e, hc, fun W hW => (hF W hW).mono (fun en w' h => ⟨h.1, hW.calm h.2, Kept.of h.2⟩)⟩
/-- Storing to a place. -/
def StoresK (p : Pl8) (s s' : St8) (fst : Nat) (kt : TypeId) (kc : Array Value) (v : Value) : Prop := Enters fst ∧ ∀ W b2 nb, On8 p s W → W.heap[b2]? = some (.cells #[.pointer (some ⟨p.m, 0, none⟩)] 130 (0, 0)) → W.heap[nb]? = some (.cells kc kt (0, 0)) → Calls Tryz.prog fst #[v, .pointer (some ⟨b2, 0, none⟩), .pointer (some ⟨nb, 0, none⟩)] W fun en w' => en = .returned (.tuple #[]) ∧ On8 p s' w' ∧ Kept p W w'
/-- Taking from a place; the run is then at s'. -/
def TakesW (p : Pl8) (s s' : St8) (ft : Nat) (kt : TypeId) (kc : Array Value) (a n : Int) (t : ByteArray) : Prop := Enters ft ∧ ∀ W b2 nb, On8 p s W → W.heap[b2]? = some (.cells #[.pointer (some ⟨p.m, 0, none⟩)] 130 (0, 0)) → W.heap[nb]? = some (.cells kc kt (0, 0)) → Calls Tryz.prog ft #[.pointer (some ⟨b2, 0, none⟩), .pointer (some ⟨nb, 0, none⟩)] W fun en w' => en = .returned (.agg #[.int .i64 a, .int .i64 n, .string t]) ∧ On8 p s' w' ∧ Kept p W w'
def setVar (cs : List Value) (k : Nat) (a n : Int) (t : ByteArray) : List Value := ((cs.set (k * 3) (.int .i64 a)).set (k * 3 + 1) (.int .i64 n)).set (k * 3 + 2) (.string t)
theorem cf310 (args : Array Value) (w : World) : (callFunc 310 args).run Tryz.prog w = .ok (.enter 310 args) w := callFunc_in Tryz.func310 (by kernel_rfl) rfl args w
theorem cf351 (args : Array Value) (w : World) : (callFunc 351 args).run Tryz.prog w = .ok (.enter 351 args) w := callFunc_in Tryz.func351 (by kernel_rfl) rfl args w
theorem cf353 (args : Array Value) (w : World) : (callFunc 353 args).run Tryz.prog w = .ok (.enter 353 args) w := callFunc_in Tryz.func353 (by kernel_rfl) rfl args w
end Go.Proofs.YtdbdbaepmdmnfaaGreatDoor

namespace Go.Proofs.YtdbdbaepmdmnfaaGreatDoor
open Go.RowKit
set_option maxRecDepth 20000 in
set_option maxHeartbeats 1000000 in
theorem set_variable_on (p : Pl8) (s : St8) (k : Nat) (hk : k < 10) (h1 : k ≠ 1) (a n : Int) (t : ByteArray) (x0 x1 x2 : Value) (e0 : s.cs[k * 3]? = some x0) (e1 : s.cs[k * 3 + 1]? = some x1) (e2 : s.cs[k * 3 + 2]? = some x2) (w : World) (h : On8 p s w) :
    Calls Tryz.prog 311 #[.pointer (some ⟨p.m, 0, none⟩), .int .i64 k, .agg #[.int .i64 a, .int .i64 n, .string t]] w fun en w' => en = .returned (.tuple #[]) ∧ On8 p { s with cs := setVar s.cs k a n t } w' ∧ Kept p w w' := by
  obtain ⟨po, pn, pc, hM⟩ := h.M
  have c1 : w.cell? ⟨p.m, 1, none⟩ = some (.slice (some ⟨p.vb, 0, none⟩) 10 10) := cell_of hM rfl
  have ml := heap_lt hM
  have v0 := h.V.cell e0
  have v1 := h.V.cell e1
  have v2 := h.V.cell e2
  have vl := heap_lt h.V
  have vf := free_of h.V
  have hli : 0 ≤ (k : Int) ∧ (k : Int) < 10 := by omega
  have hk1 : ((k : Int) == 1) = false := by rw [beq_eq_false_iff_ne]; omega
  have H := hide h
  have hvn : p.vb ≠ w.heap.size := by omega
  clear h hM e0 e1 e2
  go_enter Tryz.func311, Tryz.ntmps311
  go_upto_region 3 with fail
  go_region
  go_wp2
  go_end0
  have hO : Only (fun q => q = p.vb) w _ := toDrew (((((Only.refl (fun q => q = p.vb) w).setCell (p := ⟨p.vb, k * 3, none⟩) (fun _ => rfl) (.int .i64 a)).setCell (p := ⟨p.vb, k * 3 + 1, none⟩) (fun _ => rfl) (.int .i64 n)).setCell (p := ⟨p.vb, k * 3 + 2, none⟩) (fun _ => rfl) (.string t)).alloc (.cells #[.int .i64 a, .int .i64 n, .string t] 203))
  have hV := ((H.out.V.set (k * 3) (.int .i64 a)).set (k * 3 + 1) (.int .i64 n)).set (k * 3 + 2) (.string t)
  exact ⟨rfl, H.out.turnV hO (heapD ((Below.heap_alloc _ _ _ (heap_lt hV)).trans hV)), Kept.ofV H.out (fun q e => Or.inr (Or.inl e)) hO⟩
set_option maxRecDepth 20000 in
set_option maxHeartbeats 1000000 in
/-- Storing to a variable. -/
theorem stores_var (p : Pl8) (s : St8) (k : Nat) (hk : k < 10) (h1 : k ≠ 1) (a n : Int) (t : ByteArray) (x0 x1 x2 : Value) (e0 : s.cs[k * 3]? = some x0) (e1 : s.cs[k * 3 + 1]? = some x1) (e2 : s.cs[k * 3 + 2]? = some x2) : StoresK p s { s with cs := setVar s.cs k a n t } 310 3 #[.int .i64 k] (.agg #[.int .i64 a, .int .i64 n, .string t]) := by
  refine ⟨cf310, fun w b2 nb h g2 g4 => ?_⟩
  have l2 := heap_lt g2
  have l4 := heap_lt g4
  have c2 : w.cell? ⟨b2, 0, none⟩ = some (.pointer (some ⟨p.m, 0, none⟩)) := cell_of g2 rfl
  have c4 : w.cell? ⟨nb, 0, none⟩ = some (.int .i64 k) := cell_of g4 rfl
  have HR := hide (set_variable_on p s k hk h1 a n t x0 x1 x2 e0 e1 e2 _ (h.calm (onlyA w (.cells #[.int .i64 a, .int .i64 n, .string t] 203))))
  clear h e0 e1 e2 g2 g4 hk h1
  go_enter Tryz.func310, Tryz.ntmps310
  go_wp2_with fail
  refine (HR.out).mono ?_
  rintro en w2 ⟨rfl, hq, hk⟩
  have HQ := hide hq
  have HK := hide hk
  clear hq hk
  go_wp2
  go_end0
  exact ⟨rfl, HQ.out, (Kept.of (onlyA w _)).trans HK.out⟩
theorem Kept.byType {p : Pl8} {s : St8} {W w' : World} (h : Kept p W w') (h0 : On8 p s W) {q : Nat} {c : Array Value} {t : TypeId} (ht : t ≠ 9 ∧ t ≠ 5 ∧ t ≠ 200 ∧ t ≠ 203 ∧ t ≠ 142 ∧ t ≠ 23) (e : W.heap[q]? = some (.cells c t (0, 0))) : w'.heap[q]? = some (.cells c t (0, 0)) := by
  obtain ⟨po, pn, pc, hM⟩ := h0.M
  obtain ⟨tv, hS, _⟩ := h0.S
  obtain ⟨kv, hA⟩ := h0.R
  have hV := h0.V
  have hk := hA.k
  unfold MAt8 at hM
  unfold VAt at hV
  refine h.box q c t (fun x => ?_) (fun x => ?_) (fun x => ?_) (fun x => ?_) ht.1 ht.2.1 e
  · rw [x, hM] at e; simp only [Option.some.injEq, Obj.cells.injEq] at e; exact ht.2.2.1 e.2.1.symm
  · rw [x, hV] at e; simp only [Option.some.injEq, Obj.cells.injEq] at e; exact ht.2.2.2.1 e.2.1.symm
  · rw [x, hS] at e; simp only [Option.some.injEq, Obj.cells.injEq] at e; exact ht.2.2.2.2.1 e.2.1.symm
  · rw [x, hk] at e; simp only [Option.some.injEq, Obj.cells.injEq] at e; exact ht.2.2.2.2.2 e.2.1.symm
set_option maxRecDepth 20000 in
set_option maxHeartbeats 2000000 in
/-- What was made of a store. -/
theorem works_setW (p : Pl8) (s s1 s' : St8) (ft fst : Nat) (kt : TypeId) (kc : Array Value) (hkt : kt = 3 ∨ kt = 448) (lb rb : Nat) (x1 y1 x2 y2 : Value) (a n : Int) (t : ByteArray) (hl : p.wN.heap[lb]? = some (.cells #[x1, y1] 338 (0, 0))) (hr : p.wN.heap[rb]? = some (.cells #[x2, y2] 338 (0, 0))) (hF : FindsK p s ft fst kt kc y1) (hG : Works p s s1 x2 (.agg #[.int .i64 a, .int .i64 n, .string t])) (hS : StoresK p s1 s' fst kt kc (.agg #[.int .i64 a, .int .i64 n, .string t])) : Works p s s' (.func (.func 351) #[] #[.pointer (some ⟨lb, 0, none⟩), .pointer (some ⟨rb, 0, none⟩)]) (.agg #[.int .i64 a, .int .i64 n, .string t]) := by
  refine ⟨351, [.pointer (some ⟨lb, 0, none⟩), .pointer (some ⟨rb, 0, none⟩)], rfl, cf351, fun w h => ?_⟩
  obtain ⟨F1, caps1, rfl, hcf1, hF⟩ := hF
  obtain ⟨F2, caps2, rfl, hcf2, hG⟩ := hG
  obtain ⟨hcf3, hS⟩ := hS
  unfold Enters at hcf1 hcf2 hcf3
  have hmf := hmfT
  have hsf := hsfT
  have hsn := hsnT
  have hlw := (h.O.block lb (heap_lt hl) (fun e => e)).trans hl
  have hrw := (h.O.block rb (heap_lt hr) (fun e => e)).trans hr
  have el : w.cell? ⟨lb, 1, none⟩ = some (.func (.func F1) #[] caps1.toArray) := cell_of hlw rfl
  have er : w.cell? ⟨rb, 0, none⟩ = some (.func (.func F2) #[] caps2.toArray) := cell_of hrw rfl
  have ll := heap_lt hlw
  have rl := heap_lt hrw
  have HH := hide h
  have HF := hide (fun W (hW : Only (fun _ => False) w W) => hF W (h.calm hW))
  have HG := hide (fun W (hW : Only (fun _ => False) w W) => hG W (h.calm hW))
  have HS := hide (fun W b2 nb (hW : On8 p s1 W) => hS W b2 nb hW)
  have hkt6 : kt ≠ 9 ∧ kt ≠ 5 ∧ kt ≠ 200 ∧ kt ≠ 203 ∧ kt ≠ 142 ∧ kt ≠ 23 := by rcases hkt with e | e <;> rw [e] <;> decide
  clear h hlw hrw hF hG hS hl hr
  go_enter Tryz.func351, Tryz.ntmps351
  go_wp2_with fail
  refine (HF.out _ (onlyA w _)).mono ?_
  rintro en w1 ⟨tk, st, rfl, ⟨b2, nb, rfl, rfl, h2, h4⟩, ho1⟩
  have hO1 := (onlyA w _).trans ho1 (fun _ _ e => e)
  have el1 := (hO1.cell (p := ⟨lb, 1, none⟩) ll (fun e => e)).trans el
  have er1 := (hO1.cell (p := ⟨rb, 0, none⟩) rl (fun e => e)).trans er
  have hb0 := (ho1.block w.heap.size (by simp) (fun e => e)).trans (new0 w _)
  have HB0 := hide hb0
  have HO1 := hide hO1
  have H2 := hide h2
  have H4 := hide h4
  have z1 := ho1.size
  simp at z1
  have rl1 : rb < w1.heap.size := by omega
  clear ho1 hO1 hb0 h2 h4 z1
  go_wp2_with fail
  refine (HG.out _ (HO1.out.alloc _)).mono ?_
  rintro en w2 ⟨rfl, hq2, k2⟩
  have hon1 := HH.out.calm (HO1.out.alloc (.cells #[.func (.func ft) #[] #[.pointer (some ⟨b2, 0, none⟩), .pointer (some ⟨nb, 0, none⟩)], .func (.func fst) #[] #[.pointer (some ⟨b2, 0, none⟩), .pointer (some ⟨nb, 0, none⟩)]] 436))
  have hfb := k2.new HH.out (q := w1.heap.size) HO1.out.size (by decide) (by decide) (new0 w1 _)
  have f0 : w2.cell? ⟨w1.heap.size, 1, none⟩ = some (.func (.func fst) #[] #[.pointer (some ⟨b2, 0, none⟩), .pointer (some ⟨nb, 0, none⟩)]) := cell_of hfb rfl
  have fl := heap_lt hfb
  have hb2 := k2.byType hon1 (by decide) ((Below.heap_alloc _ _ _ (heap_lt H2.out)).trans H2.out)
  have hb4 := k2.byType hon1 hkt6 ((Below.heap_alloc _ _ _ (heap_lt H4.out)).trans H4.out)
  have hbr := k2.new HH.out (q := w.heap.size) (Nat.le_refl _) (by decide) (by decide) ((Below.heap_alloc _ _ _ (heap_lt HB0.out)).trans HB0.out)
  have z2 := k2.size
  simp at z2
  have HBr := hide hbr
  have HQ2 := hide hq2
  have HK2 := hide ((Kept.of (HO1.out.alloc _)).trans k2)
  have H22 := hide hb2
  have H24 := hide hb4
  have z0 := heap_lt HB0.out
  clear hq2 k2 hon1 hfb hb2 hb4 hbr H2 H4 HB0
  go_wp2_with fail
  refine (HS.out _ b2 nb (HQ2.out.calm (onlyA w2 _)) ((Below.heap_alloc _ _ _ (heap_lt H22.out)).trans H22.out) ((Below.heap_alloc _ _ _ (heap_lt H24.out)).trans H24.out)).mono ?_
  rintro en w3 ⟨rfl, h3, k3⟩
  have hv3 := k3.new HH.out (q := w2.heap.size) (by omega) (by decide) (by decide) (new0 w2 _)
  have hr3 := k3.new HH.out (q := w.heap.size) (by omega) (by decide) (by decide) ((Below.heap_alloc _ _ _ (heap_lt HBr.out)).trans HBr.out)
  have v0 : w3.cell? ⟨w2.heap.size, 0, none⟩ = some (.int .i64 a) := cell_of hv3 rfl
  have v1 : w3.cell? ⟨w2.heap.size, 1, none⟩ = some (.int .i64 n) := cell_of hv3 rfl
  have v2 : w3.cell? ⟨w2.heap.size, 2, none⟩ = some (.string t) := cell_of hv3 rfl
  have vl := heap_lt hv3
  have r0 : w3.cell? ⟨w.heap.size, 0, none⟩ = some (.int .i64 0) := cell_of hr3 rfl
  have r1 : w3.cell? ⟨w.heap.size, 1, none⟩ = some (.int .i64 0) := cell_of hr3 rfl
  have r2 : w3.cell? ⟨w.heap.size, 2, none⟩ = some (.string ⟨#[]⟩) := cell_of hr3 rfl
  have rf := free_of hr3
  have rl3 := heap_lt hr3
  have H3 := hide h3
  have HR3 := hide hr3
  have K3 := hide ((HK2.out.trans (Kept.of (onlyA w2 _))).trans k3)
  clear h3 k3 hv3 hr3
  go_wp2
  refine bodyPost_ret (v := .agg #[.int .i64 a, .int .i64 n, .string t]) (by simp [results, Tryz.results351, go_sem, r0, r1, r2]) rfl ⟨rfl, HH.out.box3 H3.out HR3.out (Nat.le_refl _) _ _ _, ((K3.out.set (Nat.le_refl _) _).set (Nat.le_refl _) _).set (Nat.le_refl _) _⟩
/-- The same where the right side turns nothing. -/
theorem works_setG (p : Pl8) (s s' : St8) (ft fst : Nat) (kt : TypeId) (kc : Array Value) (hkt : kt = 3 ∨ kt = 448) (lb rb : Nat) (x1 y1 x2 y2 : Value) (a n : Int) (t : ByteArray) (hl : p.wN.heap[lb]? = some (.cells #[x1, y1] 338 (0, 0))) (hr : p.wN.heap[rb]? = some (.cells #[x2, y2] 338 (0, 0))) (hF : FindsK p s ft fst kt kc y1) (hG : Gives p s x2 (.agg #[.int .i64 a, .int .i64 n, .string t])) (hS : StoresK p s s' fst kt kc (.agg #[.int .i64 a, .int .i64 n, .string t])) : Works p s s' (.func (.func 351) #[] #[.pointer (some ⟨lb, 0, none⟩), .pointer (some ⟨rb, 0, none⟩)]) (.agg #[.int .i64 a, .int .i64 n, .string t]) :=
  works_setW p s s s' ft fst kt kc hkt lb rb x1 y1 x2 y2 a n t hl hr hF hG.works hS
end Go.Proofs.YtdbdbaepmdmnfaaGreatDoor

