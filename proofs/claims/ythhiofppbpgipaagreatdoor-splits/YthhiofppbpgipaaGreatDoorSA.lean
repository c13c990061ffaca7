import Derived.Test.YthhiofppbpgipaaGreatDoorGA
import Derived.Test.YthhiofppbpgipaaGreatDoorGC
import Derived.Test.YthhiofppbpgipaaGreatDoorGE
import Derived.Deep.RegionLaw
import Derived.Deep.AppendLies
import Derived.Laws.BytesArg
import Derived.Lib.ConvBytes
import Derived.Deep.RegionWith
/- Texts cut into pieces: plain functions on lists of bytes. Nothing of the program is imported. -/
namespace Go.Proofs.YthhiofppbpgipaaGreatDoor
/-- The bytes from place a up to place b. -/
def cutL (l : List UInt8) (a b : Nat) : List UInt8 := (l.drop a).take (b - a)
theorem cutL_same (l : List UInt8) (a : Nat) : cutL l a a = [] := by simp [cutL]
theorem cutL_snoc {l : List UInt8} {a b : Nat} {c : UInt8} (hab : a ≤ b) (h : l[b]? = some c) : cutL l a (b + 1) = cutL l a b ++ [c] := by
  unfold cutL
  rw [show b + 1 - a = (b - a) + 1 by omega, List.take_add_one, List.getElem?_drop, show a + (b - a) = b by omega, h]
  rfl
theorem cutL_nil {l : List UInt8} {a b : Nat} (hb : b ≤ l.length) : cutL l a b = [] ↔ b ≤ a := by
  unfold cutL
  rw [← List.length_eq_zero_iff, List.length_take, List.length_drop]
  omega
theorem drop_at {l : List UInt8} {k : Nat} {c : UInt8} (h : l[k]? = some c) : l.drop k = c :: l.drop (k + 1) := by
  obtain ⟨hk, e⟩ := List.getElem?_eq_some_iff.1 h
  rw [List.drop_eq_getElem_cons hk, e]
/-- The words of a text: cur is what was read of the one that is open. -/
def words : List UInt8 → List UInt8 → List (List UInt8)
  | cur, [] => if cur = [] then [] else [cur]
  | cur, c :: l => if blankB c then (if cur = [] then words [] l else cur :: words [] l) else words (cur ++ [c]) l
/-- The pieces between the bytes that are s. -/
def splitB (s : UInt8) : List UInt8 → List UInt8 → List (List UInt8)
  | cur, [] => [cur]
  | cur, c :: l => if c = s then cur :: splitB s [] l else splitB s (cur ++ [c]) l
def eachB (l : List UInt8) : List (List UInt8) := l.map (fun c => [c])
/-- The pieces between the matches that are not empty; len k: how long the longest match at place k is. -/
def patCut (l : List UInt8) (len : Nat → Nat) : Nat → Nat → Nat → List (List UInt8)
  | 0, frm, _ => [cutL l frm l.length]
  | f + 1, frm, i => if l.length ≤ i then [cutL l frm l.length] else if 0 < len i then cutL l frm i :: patCut l len f (i + len i) (i + len i) else patCut l len f frm (i + 1)
theorem patCut_fuel {l : List UInt8} {len : Nat → Nat} {f g frm i : Nat} (hf : l.length - i ≤ f) (hg : l.length - i ≤ g) : patCut l len f frm i = patCut l len g frm i := by
  induction f generalizing g frm i with
  | zero =>
    cases g with
    | zero => rfl
    | succ g => rw [patCut, patCut, if_pos (by omega)]
  | succ f ih =>
    cases g with
    | zero => rw [patCut, patCut, if_pos (by omega)]
    | succ g =>
      rw [patCut, patCut]
      by_cases h : l.length ≤ i
      · rw [if_pos h, if_pos h]
      · rw [if_neg h, if_neg h]
        by_cases h2 : 0 < len i
        · rw [if_pos h2, if_pos h2, ih (g := g) (by omega) (by omega)]
        · rw [if_neg h2, if_neg h2, ih (g := g) (by omega) (by omega)]
def patC (l : List UInt8) (len : Nat → Nat) (frm i : Nat) : List (List UInt8) := patCut l len (l.length - i) frm i
theorem patC_end {l : List UInt8} {len : Nat → Nat} {frm i : Nat} (h : l.length ≤ i) : patC l len frm i = [cutL l frm l.length] := by
  unfold patC
  rw [show l.length - i = 0 by omega]; rfl
theorem patC_hit {l : List UInt8} {len : Nat → Nat} {frm i : Nat} (h : i < l.length) (h2 : 0 < len i) : patC l len frm i = cutL l frm i :: patC l len (i + len i) (i + len i) := by
  unfold patC
  obtain ⟨n, hn⟩ : ∃ n, l.length - i = n + 1 := ⟨l.length - i - 1, by omega⟩
  rw [hn, patCut, if_neg (by omega), if_pos h2, patCut_fuel (g := l.length - (i + len i)) (by omega) (Nat.le_refl _)]
theorem patC_pass {l : List UInt8} {len : Nat → Nat} {frm i : Nat} (h : i < l.length) (h2 : ¬ 0 < len i) : patC l len frm i = patC l len frm (i + 1) := by
  unfold patC
  obtain ⟨n, hn⟩ : ∃ n, l.length - i = n + 1 := ⟨l.length - i - 1, by omega⟩
  rw [hn, patCut, if_neg (by omega), if_neg h2, patCut_fuel (g := l.length - (i + 1)) (by omega) (Nat.le_refl _)]
/-- How words go on at a place. -/
theorem words_blank {l : List UInt8} {a k : Nat} {c : UInt8} (hk : l[k]? = some c) (hc : blankB c = true) : words (cutL l a k) (l.drop k) = (if k ≤ a then [] else [cutL l a k]) ++ words [] (l.drop (k + 1)) := by
  have hkl := (List.getElem?_eq_some_iff.1 hk).1
  rw [drop_at hk, words, if_pos hc]
  by_cases h : k ≤ a
  · rw [if_pos ((cutL_nil (by omega)).2 h), if_pos h]; rfl
  · rw [if_neg (fun e => h ((cutL_nil (by omega)).1 e)), if_neg h]; rfl
theorem words_in {l : List UInt8} {a k : Nat} {c : UInt8} (hak : a ≤ k) (hk : l[k]? = some c) (hc : blankB c = false) : words (cutL l a k) (l.drop k) = words (cutL l a (k + 1)) (l.drop (k + 1)) := by
  rw [drop_at hk, words, cutL_snoc hak hk, hc]; rfl
theorem words_end {l : List UInt8} {a : Nat} : words (cutL l a l.length) (l.drop l.length) = if l.length ≤ a then [] else [cutL l a l.length] := by
  rw [List.drop_length, words]
  by_cases h : l.length ≤ a
  · rw [if_pos ((cutL_nil (Nat.le_refl _)).2 h), if_pos h]
  · rw [if_neg (fun e => h ((cutL_nil (Nat.le_refl _)).1 e)), if_neg h]
theorem splitB_hit {l : List UInt8} {a k : Nat} {s : UInt8} (hk : l[k]? = some s) : splitB s (cutL l a k) (l.drop k) = cutL l a k :: splitB s [] (l.drop (k + 1)) := by
  rw [drop_at hk, splitB, if_pos rfl]
theorem splitB_pass {l : List UInt8} {a k : Nat} {s c : UInt8} (hak : a ≤ k) (hk : l[k]? = some c) (hc : c ≠ s) : splitB s (cutL l a k) (l.drop k) = splitB s (cutL l a (k + 1)) (l.drop (k + 1)) := by
  rw [drop_at hk, splitB, if_neg hc, cutL_snoc hak hk]
theorem splitB_end {l : List UInt8} {a : Nat} {s : UInt8} : splitB s (cutL l a l.length) (l.drop l.length) = [cutL l a l.length] := by
  rw [List.drop_length, splitB]
theorem eachB_step {l : List UInt8} {k : Nat} {c : UInt8} (hk : l[k]? = some c) : eachB (l.drop k) = [c] :: eachB (l.drop (k + 1)) := by
  rw [drop_at hk]; rfl
/-- How long the longest match at place k is; 0: there is none, or it is empty. -/
def LenR (R : Pat) (t : List UInt8) (k m : Nat) : Prop := k + m ≤ t.length ∧ (0 < m → R t k (k + m)) ∧ ∀ e, k < e → e ≤ t.length → R t k e → e ≤ k + m
theorem LenR.unique {R : Pat} {t : List UInt8} {k m n : Nat} (h : LenR R t k m) (h' : LenR R t k n) : m = n := by
  have h1 := h.1
  have h2 := h'.1
  by_cases h3 : m < n
  · have := h.2.2 (k + n) (by omega) h2 (h'.2.1 (by omega)); omega
  · by_cases h4 : n < m
    · have := h'.2.2 (k + m) (by omega) h1 (h.2.1 (by omega)); omega
    · omega
theorem lenR_upto (R : Pat) (t : List UInt8) (k : Nat) (n : Nat) (hn : k + n ≤ t.length) : ∃ m, m ≤ n ∧ (0 < m → R t k (k + m)) ∧ ∀ e, k < e → e ≤ k + n → R t k e → e ≤ k + m := by
  induction n with
  | zero => exact ⟨0, Nat.le_refl _, fun h => absurd h (Nat.lt_irrefl _), fun e h1 h2 => by omega⟩
  | succ n ih =>
    by_cases hr : R t k (k + (n + 1))
    · exact ⟨n + 1, Nat.le_refl _, fun _ => hr, fun e _ h2 _ => h2⟩
    · obtain ⟨m, h1, h2, h3⟩ := ih (by omega)
      refine ⟨m, by omega, h2, fun e he1 he2 he3 => ?_⟩
      by_cases e1 : e = k + (n + 1)
      · subst e1; exact absurd he3 hr
      · exact h3 e he1 (by omega) he3
theorem lenR_some (R : Pat) (t : List UInt8) (k : Nat) (hk : k ≤ t.length) : ∃ m, LenR R t k m := by
  obtain ⟨m, h1, h2, h3⟩ := lenR_upto R t k (t.length - k) (by omega)
  exact ⟨m, by omega, h2, fun e h4 h5 h6 => h3 e h4 (by omega) h6⟩
/-- A function that tells how long the longest match at each place is. -/
def IsLen (R : Pat) (t : List UInt8) (len : Nat → Nat) : Prop := ∀ k, k ≤ t.length → LenR R t k (len k)
theorem isLen_some (R : Pat) (t : List UInt8) : ∃ len, IsLen R t len := by
  have h : ∀ k, ∃ m, k ≤ t.length → LenR R t k m := fun k => by
    by_cases hk : k ≤ t.length
    · obtain ⟨m, hm⟩ := lenR_some R t k hk
      exact ⟨m, fun _ => hm⟩
    · exact ⟨0, fun h => absurd h hk⟩
  exact Classical.skolem.1 h
theorem IsLen.is {R : Pat} {t : List UInt8} {len : Nat → Nat} (hL : IsLen R t len) {k m : Nat} (h : LenR R t k m) : len k = m := (hL k (by have := h.1; omega)).unique h
theorem IsLen.le {R : Pat} {t : List UInt8} {len : Nat → Nat} (hL : IsLen R t len) (k : Nat) (hk : k ≤ t.length) : k + len k ≤ t.length := (hL k hk).1
theorem patCut_congr {l : List UInt8} {len len' : Nat → Nat} (h : ∀ k, k < l.length → len k = len' k) (f frm i : Nat) : patCut l len f frm i = patCut l len' f frm i := by
  induction f generalizing frm i with
  | zero => rfl
  | succ f ih =>
    rw [patCut, patCut]
    by_cases hi : l.length ≤ i
    · rw [if_pos hi, if_pos hi]
    · rw [if_neg hi, if_neg hi, h i (by omega), ih, ih]
/-- The pieces of a text between the matches of a pattern. -/
def patPieces (len : Nat → Nat) (t : List UInt8) : List (List UInt8) := if t = [] then [] else patC t len 0 0
theorem patPieces_same {R : Pat} {t : List UInt8} {len len' : Nat → Nat} (h : IsLen R t len) (h' : IsLen R t len') : patPieces len t = patPieces len' t := by
  unfold patPieces patC
  rw [patCut_congr (fun k hk => (h k (by omega)).unique (h' k (by omega)))]
/-- What Split answers: the pieces and the number of the error. -/
def SplitIs (t p : List UInt8) (L : List (List UInt8)) (n : Nat) : Prop :=
  (500 < t.length ∨ 500 < p.length → L = [] ∧ n = 1) ∧
  (¬ (500 < t.length ∨ 500 < p.length) →
    (p = [32] → L = words [] t ∧ n = 0) ∧ (p = [] → L = eachB t ∧ n = 0) ∧ (∀ c, p = [c] → c ≠ 32 → L = (if t = [] then [] else splitB c [] t) ∧ n = 0) ∧
    (2 ≤ p.length → (wholeP p = none → L = [] ∧ n = 7) ∧ ∀ R, wholeP p = some R → (∃ len, IsLen R t len ∧ L = patPieces len t) ∧ n = 0))
theorem SplitIs.unique {t p : List UInt8} {L M : List (List UInt8)} {n m : Nat} (h : SplitIs t p L n) (h' : SplitIs t p M m) : L = M ∧ n = m := by
  by_cases hl : 500 < t.length ∨ 500 < p.length
  · obtain ⟨rfl, rfl⟩ := h.1 hl
    obtain ⟨rfl, rfl⟩ := h'.1 hl
    exact ⟨rfl, rfl⟩
  · obtain ⟨a1, a2, a3, a4⟩ := h.2 hl
    obtain ⟨b1, b2, b3, b4⟩ := h'.2 hl
    match p with
    | [] =>
      obtain ⟨rfl, rfl⟩ := a2 rfl
      obtain ⟨rfl, rfl⟩ := b2 rfl
      exact ⟨rfl, rfl⟩
    | [c] =>
      by_cases hc : c = 32
      · subst hc
        obtain ⟨rfl, rfl⟩ := a1 rfl
        obtain ⟨rfl, rfl⟩ := b1 rfl
        exact ⟨rfl, rfl⟩
      · obtain ⟨rfl, rfl⟩ := a3 c rfl hc
        obtain ⟨rfl, rfl⟩ := b3 c rfl hc
        exact ⟨rfl, rfl⟩
    | a :: b :: r =>
      obtain ⟨a5, a6⟩ := a4 (by simp)
      obtain ⟨b5, b6⟩ := b4 (by simp)
      cases hw : wholeP (a :: b :: r) with
      | none =>
        obtain ⟨rfl, rfl⟩ := a5 hw
        obtain ⟨rfl, rfl⟩ := b5 hw
        exact ⟨rfl, rfl⟩
      | some R =>
        obtain ⟨⟨len, c1, rfl⟩, rfl⟩ := a6 R hw
        obtain ⟨⟨len', c2, rfl⟩, rfl⟩ := b6 R hw
        exact ⟨patPieces_same c1 c2, rfl⟩
/-- A piece as a text. -/
def ofB (l : List UInt8) : ByteArray := ⟨l.toArray⟩
def strsV (L : List (List UInt8)) : List Go.Value := L.map (fun l => Go.Value.string (ofB l))
theorem strsV_len (L : List (List UInt8)) : (strsV L).length = L.length := by simp [strsV]
theorem strsV_snoc (L : List (List UInt8)) (l : List UInt8) : strsV (L ++ [l]) = strsV L ++ [.string (ofB l)] := by simp [strsV]
theorem extract_cut (s : ByteArray) (a b : Nat) : s.extract a b = ofB (cutL s.data.toList a b) := by
  apply ByteArray.ext
  rw [ByteArray.data_extract]
  apply Array.toList_inj.1
  rw [Array.toList_extract, List.extract_eq_take_drop]
  rfl
theorem words_len (cur l : List UInt8) : (words cur l).length ≤ l.length + 1 := by
  induction l generalizing cur with
  | nil => unfold words; split <;> simp
  | cons c l ih =>
    unfold words
    split
    · split
      · have := ih []; simp only [List.length_cons]; omega
      · have := ih []; simp only [List.length_cons]; omega
    · have := ih (cur ++ [c]); simp only [List.length_cons]; omega
theorem splitB_len (s : UInt8) (cur l : List UInt8) : (splitB s cur l).length ≤ l.length + 1 := by
  induction l generalizing cur with
  | nil => simp [splitB]
  | cons c l ih =>
    unfold splitB
    split
    · have := ih []; simp only [List.length_cons]; omega
    · have := ih (cur ++ [c]); simp only [List.length_cons]; omega
theorem patCut_len (l : List UInt8) (len : Nat → Nat) (f frm i : Nat) : (patCut l len f frm i).length ≤ f + 1 := by
  induction f generalizing frm i with
  | zero => simp [patCut]
  | succ f ih =>
    unfold patCut
    split
    · simp
    · split
      · have := ih (i + len i) (i + len i); simp only [List.length_cons]; omega
      · have := ih frm (i + 1); omega
theorem SplitIs.len {t p : List UInt8} {L : List (List UInt8)} {n : Nat} (h : SplitIs t p L n) : L.length ≤ 501 := by
  by_cases hl : 500 < t.length ∨ 500 < p.length
  · rw [(h.1 hl).1]; simp
  · obtain ⟨a1, a2, a3, a4⟩ := h.2 hl
    match p with
    | [] => rw [(a2 rfl).1]; simp [eachB]; omega
    | [c] =>
      by_cases hc : c = 32
      · subst hc; rw [(a1 rfl).1]; have := words_len [] t; omega
      · rw [(a3 c rfl hc).1]
        split
        · simp
        · have := splitB_len c [] t; omega
    | a :: b :: r =>
      obtain ⟨a5, a6⟩ := a4 (by simp)
      cases hw : wholeP (a :: b :: r) with
      | none => rw [(a5 hw).1]; simp
      | some R =>
        obtain ⟨⟨len, _, rfl⟩, _⟩ := a6 R hw
        unfold patPieces
        split
        · simp
        · have := patCut_len t len (t.length - 0) 0 0; unfold patC; omega
end Go.Proofs.YthhiofppbpgipaaGreatDoor

namespace Go.Proofs.YthhiofppbpgipaaGreatDoor
open Go.RowKit
/-- A text's bytes lie in a block. -/
def BytesAt (w : World) (gb : Nat) (s : ByteArray) : Prop := ∀ (j : Nat) (c : UInt8), s.data.toList[j]? = some c → w.cell? ⟨gb, j, none⟩ = some (.int .u8 c.toNat)
/-- A new row of a text's bytes. -/
theorem bytes_new (s : ByteArray) (W : World) : ∃ W2 cap, (convert 9 166 (.string s)).run Tryz.prog W = .ok (.slice (some ⟨W.heap.size, 0, none⟩) s.size cap) W2 ∧ W2.heap.size = W.heap.size + 1 ∧ s.size ≤ cap ∧ Only (fun _ => False) W W2 ∧ BytesAt W2 W.heap.size s := by
  refine ⟨_, _, Lib.run_convert_string_bytes W 9 166 5 s Tryz.underlying9 Tryz.underlying166 Tryz.underlying5, Lib.bytesWorld_size W 5 s, grownCap_ge _ _ _ _, ⟨rfl, rfl, rfl, by rw [Lib.bytesWorld_size]; omega, fun k hk _ => Lib.bytesWorld_at_old W 5 s k hk⟩, fun j c hc => ?_⟩
  have hj := (List.getElem?_eq_some_iff.1 hc).1
  rw [Lib.bytesWorld_cell W 5 s j (by simpa using hj), List.getD_eq_getElem?_getD, hc]; rfl
theorem BytesAt.block {w w' : World} {gb : Nat} {s : ByteArray} (h : BytesAt w gb s) (hb : w'.heap[gb]? = w.heap[gb]?) : BytesAt w' gb s := fun j c hc => (World.cell?_of_block (w := w) (w' := w') (a := ⟨gb, j, none⟩) hb).trans (h j c hc)
theorem new_at {W : World} {n : Nat} (h : W.heap.size = n) (o : Obj) : (W.alloc o).heap[n]? = some o := by subst h; exact heap_alloc_new W o
set_option maxHeartbeats 4000000 in
theorem start_any (s : ByteArray) (w : World) :
    Calls Tryz.prog 114 #[.string s] w fun e w' => ∃ cap, s.size ≤ cap ∧ e = .returned (.agg #[.slice (some ⟨w.heap.size + 1, 0, none⟩) s.size cap, .int .i64 0, .slice (some ⟨w.heap.size + 2, 0, none⟩) 0 0]) ∧ BytesAt w' (w.heap.size + 1) s ∧ w'.heap[w.heap.size + 2]? = some (.cells #[] 9 (0, 0)) ∧ w'.heap.size = w.heap.size + 3 ∧ Only (fun _ => False) w w' := by
  obtain ⟨W2, cap, kc, hz, hcap, ho, hby⟩ := bytes_new s (w.alloc (.cells #[.slice none 0 0, .int .i64 0, .slice none 0 0] 241))
  have hb : W2.heap[w.heap.size]? = some (.cells #[.slice none 0 0, .int .i64 0, .slice none 0 0] 241 (0, 0)) := (ho.block _ (by simp) (fun e => e)).trans (heap_alloc_new w _)
  have hz2 : W2.heap.size = w.heap.size + 2 := by simpa using hz
  have hc0 : W2.cell? ⟨w.heap.size, 0, none⟩ = some (.slice none 0 0) := cell_of hb rfl
  have hc1 : W2.cell? ⟨w.heap.size, 1, none⟩ = some (.int .i64 0) := cell_of hb rfl
  have hc2 : W2.cell? ⟨w.heap.size, 2, none⟩ = some (.slice none 0 0) := cell_of hb rfl
  have hf : ∀ o, W2.frozen? ⟨w.heap.size, o, none⟩ = false := fun o => free_of hb o
  have kc' : (convert 9 166 (.string s)).run Tryz.prog (w.alloc (.cells #[.slice none 0 0, .int .i64 0, .slice none 0 0] 241)) = .ok (.slice (some ⟨w.heap.size + 1, 0, none⟩) s.size cap) W2 := by simpa using kc
  have HO := hide ho
  have hby2 : BytesAt W2 (w.heap.size + 1) s := by simpa using hby
  have HB := hide hby2
  clear kc hz hb ho hby hby2
  go_enter Tryz.func114, Tryz.ntmps114
  go_wp2
  refine bodyPost_ret (v := .agg #[.slice (some ⟨w.heap.size + 1, 0, none⟩) s.size cap, .int .i64 0, .slice (some ⟨w.heap.size + 2, 0, none⟩) 0 0]) (by simp [results, Tryz.results114, go_sem, hc0, hc1, hc2, hz2]) rfl ⟨cap, hcap, rfl, ?_, ?_, by simp [World.setCell, hz2], ?_⟩
  · refine HB.out.block ?_
    rw [Below.heap_alloc _ _ _ (by simp [World.setCell, hz2]), Below.heap_setCell _ _ _ _ (by simp), Below.heap_setCell _ _ _ _ (by simp), Below.heap_setCell _ _ _ _ (by simp)]
  · exact new_at (by simp [World.setCell, hz2]) _
  · exact ((((((Only.refl _ w).alloc _).trans HO.out (fun _ _ e => e)).setCell (p := ⟨w.heap.size, 0, none⟩) (fun h => absurd h (Nat.lt_irrefl _)) _).setCell (p := ⟨w.heap.size, 1, none⟩) (fun h => absurd h (Nat.lt_irrefl _)) _).setCell (p := ⟨w.heap.size, 2, none⟩) (fun h => absurd h (Nat.lt_irrefl _)) _).alloc _
/-- A cutter: the bytes of s lie in gb, it is the block cb itself; the next piece begins at frm, the pieces are xs. All this is new from block B on, and apart from the blocks of X. -/
def Cutter (B : Nat) (X : Nat → Prop) (w : World) (cb gb : Nat) (s : ByteArray) (frm : Nat) (xs : List (List UInt8)) : Prop := ∃ v cap,
  s.size ≤ cap ∧ w.heap[cb]? = some (.cells #[.slice (some ⟨gb, 0, none⟩) s.size cap, .int .i64 frm, v] 241 (0, 0)) ∧ BytesAt w gb s ∧ gb < w.heap.size ∧ w.ownsRow B 9 1 v xs.length (strsV xs) ∧ cb ≠ gb ∧ v.ownBlock ≠ some cb ∧ v.ownBlock ≠ some gb ∧ B ≤ cb ∧ B ≤ gb ∧ ∀ k, X k → k < w.heap.size ∧ k ≠ cb ∧ v.ownBlock ≠ some k
theorem info9s : (Tryz.prog.info? 9).map (fun i => (i.zero, i.size, i.bytes)) = some (some (.string ⟨#[]⟩), 1, 16) := by kernel_rfl
theorem newb1s (w : World) (a c : Obj) : ((w.alloc a).alloc c).heap[w.heap.size + 1]? = some c := new_at (by simp) c
/-- A piece of the bytes, as a text. -/
theorem piece_conv {w : World} {gb : Nat} {s : ByteArray} (h : BytesAt w gb s) (a b cap : Nat) (hab : a ≤ b) (hb : b ≤ s.size) : (convert 166 9 (.slice (some ⟨gb, a, none⟩) (b - a) cap)).run Tryz.prog w = .ok (.string (ofB (cutL s.data.toList a b))) w := by
  have hl : (cutL s.data.toList a b).length = b - a := by
    unfold cutL
    rw [List.length_take, List.length_drop, len_eq]
    omega
  rw [run_convert_bytes_arg w 166 5 Tryz.underlying166 Tryz.underlying5 gb a (b - a) cap ((cutL s.data.toList a b).map fun b => (b.toNat : Int)) (by simp [hl]) ?_ 9 Tryz.underlying9]
  · congr 2
    unfold strOfNums ofB
    simp [Function.comp_def]
  · intro i hi
    obtain ⟨c, hc⟩ : ∃ c, (cutL s.data.toList a b)[i]? = some c := ⟨_, List.getElem?_eq_getElem (by omega)⟩
    have hc2 : s.data.toList[a + i]? = some c := by
      unfold cutL at hc
      rw [List.getElem?_take_of_lt (by omega), List.getElem?_drop] at hc
      exact hc
    rw [h (a + i) c hc2, List.getD_eq_getElem?_getD, List.getElem?_map, hc]; rfl
set_option maxRecDepth 100000 in
set_option maxHeartbeats 4000000 in
theorem cut_any (B : Nat) (X : Nat → Prop) (cb gb : Nat) (s : ByteArray) (frm e frm2 : Nat) (xs : List (List UInt8)) (hfe : frm ≤ e) (hes : e ≤ s.size) (hx : xs.length ≤ 1000000) (w : World) (h : Cutter B X w cb gb s frm xs) :
    Calls Tryz.prog 117 #[.pointer (some ⟨cb, 0, none⟩), .int .i64 e, .int .i64 frm2] w fun en w' => en = .returned (.tuple #[]) ∧ Cutter B X w' cb gb s frm2 (xs ++ [cutL s.data.toList frm e]) ∧ Only (fun k => B ≤ k ∧ ¬ X k) w w' := by
  obtain ⟨i0, hi0, hz0, hz1, hz2⟩ := info_parts info9s
  obtain ⟨v, cap, hcap, hcb, hby, hgl, hown, hne, hnc, hng, hBc, hBg, hX⟩ := h
  obtain ⟨po, capv, rfl⟩ := ownsRow_slice hown
  have hcl := heap_lt hcb
  have c0 : w.cell? ⟨cb, 0, none⟩ = some (.slice (some ⟨gb, 0, none⟩) s.size cap) := cell_of hcb rfl
  have c1 : w.cell? ⟨cb, 1, none⟩ = some (.int .i64 frm) := cell_of hcb rfl
  have c2 : w.cell? ⟨cb, 2, none⟩ = some (.slice po xs.length capv) := cell_of hcb rfl
  have f0 := free_of hcb
  have kc : (convert 166 9 (.slice (if cap = frm then some ⟨gb, 0, none⟩ else some ⟨gb, frm, none⟩) (e - frm) (cap - frm))).run Tryz.prog w.drew = .ok (.string (ofB (cutL s.data.toList frm e))) w.drew := by
    by_cases hcf : cap = frm
    · rw [if_pos hcf, show e - frm = 0 - 0 by omega, piece_conv (w := w.drew) (fun j c hc => hby j c hc) 0 0 _ (Nat.le_refl _) (Nat.zero_le _), show e = frm by omega, cutL_same, cutL_same]
    · rw [if_neg hcf]
      exact piece_conv (w := w.drew) (fun j c hc => hby j c hc) frm e _ hfe hes
  have hfe' : (frm : Int) ≤ (e : Int) := by omega
  have hec' : (e : Int) ≤ (cap : Int) := by omega
  have HCB := hide hcb
  have HO := hide hown
  have HBy := hide hby
  have HX := hide hX
  clear hcb hown hby hX
  go_enter Tryz.func117, Tryz.ntmps117
  go_wp2_with fail
  have hn1 : some cb ≠ (Value.slice po xs.length capv).ownBlock := fun e => hnc e.symm
  go_region_law (refine step_append_lies _ (by rfl) _ _ _ (by rfl) B 9 i0 _ 1 16 Tryz.underlying25 hi0 hz0 hz1 hz2 rfl (by omega) (.slice po xs.length capv) xs.length (strsV xs) (by rfl) ((HO.out.alloc _).drew) ⟨w.heap.size, 0, none⟩ 1 1 [.string (ofB (cutL s.data.toList frm e))] (by rfl) (by rfl) (World.news_of_block (cs := #[.string (ofB (cutL s.data.toList frm e))]) (t := 9) (fr := (0, 0)) (new_at rfl _)) (by simp [Value.oneCell']) (by omega) (by unfold maxLen; omega) (by omega) (by simp; omega) (w.heap.size + 1) (by simp) ?_; intro gg cap2 w1 hown1 hgrow hat hlt; have hb1 : w1.heap[cb]? = some (.cells #[.slice (some ⟨gb, 0, none⟩) s.size cap, .int .i64 frm, .slice po xs.length capv] 241 (0, 0)) := (hgrow.block cb (by simp; omega) hn1).trans ((Below.heap_alloc _ _ _ hcl).trans HCB.out); have d1 : w1.cell? ⟨cb, 1, none⟩ = some (.int .i64 frm) := cell_of hb1 rfl; have d2 : w1.cell? ⟨cb, 2, none⟩ = some (.slice po xs.length capv) := cell_of hb1 rfl; have df := free_of hb1; have HB1 := hide hb1; clear hb1)
  all_goals
    have HA := hide hat
    have HG := hide hgrow
    have HO1 := hide hown1
    clear hat hgrow hown1
    go_wp2
    all_goals
      go_end0
      have hg1 : gg ≠ cb := by
        rintro rfl
        rcases HA.out with e | e
        · exact hnc e
        · omega
      have hg2 : gg ≠ gb := by
        rintro rfl
        rcases HA.out with e | e
        · exact hng e
        · omega
      refine ⟨rfl, ⟨.slice (some ⟨gg, 0, none⟩) (xs.length + 1) cap2, cap, hcap, ?_, ?_, ?_, ?_, hne, fun e => hg1 (Option.some.inj e), fun e => hg2 (Option.some.inj e), hBc, hBg, ?_⟩, ?_⟩
      · exact heap_setCell_same (heap_setCell_same HB1.out _) _
      · refine HBy.out.block ?_
        rw [Below.heap_setCell _ _ _ _ (fun e => hne e.symm), Below.heap_setCell _ _ _ _ (fun e => hne e.symm)]
        exact (HG.out.block gb (by simp; omega) (fun e => hng e.symm)).trans (Below.heap_alloc _ _ _ hgl)
      · have := HG.out.size
        simp at this
        simp [World.setCell]; omega
      · rw [strsV_snoc, show (xs ++ [cutL s.data.toList frm e]).length = xs.length + 1 by simp]
        exact ownsRow_of HO1.out (fun k hk => by cases hk; rw [Below.heap_setCell _ _ _ _ hg1, Below.heap_setCell _ _ _ _ hg1])
      · intro k hk
        obtain ⟨x1, x2, x3⟩ := HX.out k hk
        refine ⟨?_, x2, fun e => ?_⟩
        · have := HG.out.size
          simp at this
          simp [World.setCell]; omega
        · obtain rfl : gg = k := Option.some.inj e
          rcases HA.out with e | e
          · exact x3 e
          · omega
      · exact (((((Only.refl (fun k => B ≤ k ∧ ¬ X k) w).alloc _).drewN 1).grown HG.out (fun k hk _ => ⟨(HO.out.lt k hk).1, fun hx => (HX.out k hx).2.2 hk⟩)).setCell (p := ⟨cb, 2, none⟩) (fun _ => ⟨hBc, fun hx => (HX.out cb hx).2.1 rfl⟩) _).setCell (p := ⟨cb, 1, none⟩) (fun _ => ⟨hBc, fun hx => (HX.out cb hx).2.1 rfl⟩) _
end Go.Proofs.YthhiofppbpgipaaGreatDoor

namespace Go.Proofs.YthhiofppbpgipaaGreatDoor
open Go.RowKit
theorem Cutter.own {B : Nat} {X : Nat → Prop} {w : World} {cb gb : Nat} {s : ByteArray} {frm : Nat} {xs : List (List UInt8)} (h : Cutter B X w cb gb s frm xs) : ∃ v cap, w.cell? ⟨cb, 0, none⟩ = some (.slice (some ⟨gb, 0, none⟩) s.size cap) ∧ w.cell? ⟨cb, 1, none⟩ = some (.int .i64 frm) ∧ w.cell? ⟨cb, 2, none⟩ = some v ∧ w.ownsRow B 9 1 v xs.length (strsV xs) := by
  obtain ⟨v, cap, _, hcb, _, _, hown, _⟩ := h
  exact ⟨v, cap, cell_of hcb rfl, cell_of hcb rfl, cell_of hcb rfl, hown⟩
theorem Cutter.drewN {B : Nat} {X : Nat → Prop} {w : World} {cb gb : Nat} {s : ByteArray} {frm : Nat} {xs : List (List UInt8)} (h : Cutter B X w cb gb s frm xs) (n : Nat) : Cutter B X (w.drewN n) cb gb s frm xs := h
set_option maxHeartbeats 4000000 in
theorem filled_yes (B : Nat) (X : Nat → Prop) (cb gb : Nat) (s : ByteArray) (frm e : Nat) (xs : List (List UInt8)) (hfe : frm < e) (hes : e ≤ s.size) (hx : xs.length ≤ 1000000) (w : World) (h : Cutter B X w cb gb s frm xs) :
    Calls Tryz.prog 116 #[.pointer (some ⟨cb, 0, none⟩), .int .i64 e] w fun en w' => en = .returned (.tuple #[]) ∧ Cutter B X w' cb gb s e (xs ++ [cutL s.data.toList frm e]) ∧ Only (fun k => B ≤ k ∧ ¬ X k) w w' := by
  obtain ⟨v, cap, c0, c1, c2, _⟩ := h.own
  have HC := hide (cut_any B X cb gb s frm e e xs (by omega) hes hx w h)
  have hlt : (frm : Int) < (e : Int) := by omega
  clear h
  go_enter Tryz.func116, Tryz.ntmps116
  go_wp2_with (go_at_call 117; refine (HC.out).mono ?_; rintro en w' ⟨rfl, h1, h2⟩)
  go_end0
  exact ⟨rfl, h1, h2⟩
set_option maxHeartbeats 4000000 in
theorem filled_no (B : Nat) (X : Nat → Prop) (cb gb : Nat) (s : ByteArray) (frm e : Nat) (xs : List (List UInt8)) (hfe : ¬ frm < e) (w : World) (h : Cutter B X w cb gb s frm xs) :
    Calls Tryz.prog 116 #[.pointer (some ⟨cb, 0, none⟩), .int .i64 e] w fun en w' => en = .returned (.tuple #[]) ∧ w' = w := by
  obtain ⟨v, cap, c0, c1, c2, _⟩ := h.own
  have hlt : ¬ (frm : Int) < (e : Int) := by omega
  clear h
  go_enter Tryz.func116, Tryz.ntmps116
  go_wp2
  go_end0
  exact ⟨rfl, rfl⟩
set_option maxHeartbeats 4000000 in
theorem rest_none (B : Nat) (X : Nat → Prop) (cb gb : Nat) (s : ByteArray) (frm : Nat) (xs : List (List UInt8)) (hs : s.size = 0) (w : World) (h : Cutter B X w cb gb s frm xs) :
    Calls Tryz.prog 118 #[.pointer (some ⟨cb, 0, none⟩)] w fun en w' => ∃ v, en = .returned v ∧ w'.ownsRow B 9 1 v xs.length (strsV xs) ∧ w' = w := by
  obtain ⟨v, cap, c0, c1, c2, ho⟩ := h.own
  have HO := hide ho
  have hlt : ¬ (0 : Int) < (s.size : Int) := by omega
  clear h ho
  go_enter Tryz.func118, Tryz.ntmps118
  go_wp2
  go_ret
  exact ⟨_, rfl, HO.out, rfl⟩
set_option maxHeartbeats 4000000 in
theorem rest_some (B : Nat) (X : Nat → Prop) (cb gb : Nat) (s : ByteArray) (frm : Nat) (xs : List (List UInt8)) (hs : 0 < s.size) (hf : frm ≤ s.size) (hx : xs.length ≤ 1000000) (w : World) (h : Cutter B X w cb gb s frm xs) :
    Calls Tryz.prog 118 #[.pointer (some ⟨cb, 0, none⟩)] w fun en w' => ∃ v, en = .returned v ∧ w'.ownsRow B 9 1 v (xs.length + 1) (strsV (xs ++ [cutL s.data.toList frm s.size])) ∧ Only (fun k => B ≤ k ∧ ¬ X k) w w' := by
  obtain ⟨v, cap, c0, c1, c2, ho⟩ := h.own
  have HC : ∀ n, Hid (Calls Tryz.prog 117 #[.pointer (some ⟨cb, 0, none⟩), .int .i64 s.size, .int .i64 s.size] (w.drewN n) fun en w' => en = .returned (.tuple #[]) ∧ Cutter B X w' cb gb s s.size (xs ++ [cutL s.data.toList frm s.size]) ∧ Only (fun k => B ≤ k ∧ ¬ X k) (w.drewN n) w') := fun n => cut_any B X cb gb s frm s.size s.size xs hf (Nat.le_refl _) hx (w.drewN n) (h.drewN n)
  have hlt : (0 : Int) < (s.size : Int) := by omega
  clear h ho
  go_enter Tryz.func118, Tryz.ntmps118
  go_wp2
  go_region_with (go_at_call 117; refine ((HC 1).out).mono ?_; rintro en w' ⟨rfl, h1, h2⟩)
  all_goals
    obtain ⟨v2, cap2, d0, d1, d2, ho2⟩ := h1.own
    have HO := hide ho2
    have HO2 := hide h2
    clear h1 h2 ho2
    go_wp2
    go_ret
    exact ⟨_, rfl, by simpa using HO.out, ((Only.refl _ w).drewN 1).trans HO2.out (fun _ _ e => e)⟩
end Go.Proofs.YthhiofppbpgipaaGreatDoor

namespace Go.Proofs.YthhiofppbpgipaaGreatDoor
open Go.RowKit
/-- A cutter that was just made. -/
theorem cutter_new {X : Nat → Prop} {w w1 : World} {s : ByteArray} {cap : Nat} (hcap : s.size ≤ cap) (hby : BytesAt w1 (w.heap.size + 1) s) (hrow : w1.heap[w.heap.size + 2]? = some (.cells #[] 9 (0, 0))) (hz : w1.heap.size = w.heap.size + 3) (hX : ∀ k, X k → k < w.heap.size) :
    Cutter w.heap.size X (w1.alloc (.cells #[.slice (some ⟨w.heap.size + 1, 0, none⟩) s.size cap, .int .i64 0, .slice (some ⟨w.heap.size + 2, 0, none⟩) 0 0] 241)) (w.heap.size + 3) (w.heap.size + 1) s 0 [] := by
  refine ⟨_, cap, hcap, new_at hz _, hby.block (Below.heap_alloc _ _ _ (by omega)), by simp; omega, ⟨rfl, Or.inr ⟨w.heap.size + 2, 0, #[], rfl, by omega, (Below.heap_alloc _ _ _ (by omega)).trans hrow, Nat.le_refl _, by unfold maxLen; omega, rfl, rfl⟩⟩, by omega, fun e => ?_, fun e => ?_, by omega, by omega, fun k hk => ?_⟩
  · have := Option.some.inj e
    simp at this
  · have := Option.some.inj e
    simp at this
  · have := hX k hk
    refine ⟨by simp; omega, by omega, fun e => ?_⟩
    have := Option.some.inj e
    simp at this; omega
theorem eachB_take {l : List UInt8} {k : Nat} (hk : k < l.length) : eachB (l.take (k + 1)) = eachB (l.take k) ++ [cutL l k (k + 1)] := by
  obtain ⟨c, hc⟩ : ∃ c, l[k]? = some c := ⟨l[k], List.getElem?_eq_getElem hk⟩
  rw [List.take_add_one, hc, cutL_snoc (Nat.le_refl _) hc, cutL_same]
  simp [eachB]
set_option maxRecDepth 100000 in
set_option maxHeartbeats 4000000 in
theorem each_any (s : ByteArray) (h5 : s.size ≤ 500) (w : World) :
    Calls Tryz.prog 57 #[.string s] w fun en w' => ∃ v, en = .returned v ∧ w'.ownsRow w.heap.size 9 1 v (eachB s.data.toList).length (strsV (eachB s.data.toList)) ∧ Only (fun _ => False) w w' := by
  have hlen : s.data.toList.length = s.size := len_eq s
  go_enter Tryz.func57, Tryz.ntmps57
  go_wp2_with fail
  refine (start_any s w).mono ?_
  rintro en w1 ⟨cap, hcap, rfl, hby, hrow, hz, ho⟩
  have HC0 := hide (cutter_new (X := fun _ => False) hcap hby hrow hz (fun _ h => h.elim))
  have HO0 := hide (ho.alloc (.cells #[.slice (some ⟨w.heap.size + 1, 0, none⟩) s.size cap, .int .i64 0, .slice (some ⟨w.heap.size + 2, 0, none⟩) 0 0] 241))
  clear hby hrow ho
  go_wp2
  go_loopw [9] (fun i wr => ∃ k : Nat, k ≤ s.size ∧ i = .int .i64 k ∧ Cutter w.heap.size (fun _ => False) wr (w.heap.size + 3) (w.heap.size + 1) s k (eachB (s.data.toList.take k)) ∧ Only (fun _ => False) w wr) (fun i _ => s.size - (intOf i).toNat)
  case atStart => exact ⟨0, Nat.zero_le _, rfl, HC0.out, HO0.out⟩
  case round =>
    obtain ⟨k, hk, rfl, hc, ho⟩ := hrel
    by_cases hlt : k < s.size
    · have hli : (k : Int) < (s.size : Int) := by omega
      have HC := hide (cut_any w.heap.size (fun _ => False) (w.heap.size + 3) (w.heap.size + 1) s k (k + 1) (k + 1) (eachB (s.data.toList.take k)) (by omega) hlt (by simp [eachB]; omega) wr hc)
      have HO := hide ho
      clear hc ho
      go_wp2_with (go_at_call 117; refine (HC.out).mono ?_; rintro en w2 ⟨rfl, h1, h2⟩)
      go_roundw
      case rel => exact ⟨k + 1, by omega, by go_num, by rw [eachB_take (by omega)]; exact h1, HO.out.trans h2 (fun i hi hB => by have := hB.1; omega)⟩
      case measure => simp [intOf]; omega
    · have hli : ¬ (k : Int) < (s.size : Int) := by omega
      obtain ⟨v, cap2, d0, d1, d2, ho2⟩ := hc.own
      rw [List.take_of_length_le (by omega)] at ho2
      have HO := hide ho
      have HR := hide ho2
      clear hc ho ho2
      go_wp2
      go_ret
      exact ⟨_, rfl, HR.out, HO.out⟩
end Go.Proofs.YthhiofppbpgipaaGreatDoor

namespace Go.Proofs.YthhiofppbpgipaaGreatDoor
open Go.RowKit
theorem strs_eq {w : World} {B : Nat} {v : Value} {L M : List (List UInt8)} {n : Nat} (h : w.ownsRow B 9 1 v n (strsV L)) (e : L = M) (hn : n = M.length) : w.ownsRow B 9 1 v M.length (strsV M) := by subst e; subst hn; exact h
set_option maxRecDepth 100000 in
set_option maxHeartbeats 4000000 in
theorem bytes_any (s : ByteArray) (h5 : s.size ≤ 500) (c : UInt8) (w : World) :
    Calls Tryz.prog 58 #[.string s, .int .u8 c.toNat] w fun en w' => ∃ v, en = .returned v ∧ w'.ownsRow w.heap.size 9 1 v (if s.data.toList = [] then [] else splitB c [] s.data.toList).length (strsV (if s.data.toList = [] then [] else splitB c [] s.data.toList)) ∧ Only (fun _ => False) w w' := by
  have hlen : s.data.toList.length = s.size := len_eq s
  obtain ⟨L, HL⟩ : ∃ L, Hid (L = if s.data.toList = [] then [] else splitB c [] s.data.toList) := ⟨_, rfl⟩
  rw [← HL.out]
  go_enter Tryz.func58, Tryz.ntmps58
  go_wp2_with fail
  refine (start_any s w).mono ?_
  rintro en w1 ⟨cap, hcap, rfl, hby, hrow, hz, ho⟩
  have HC0 := hide (cutter_new (X := fun _ => False) hcap hby hrow hz (fun _ h => h.elim))
  have HO0 := hide (ho.alloc (.cells #[.slice (some ⟨w.heap.size + 1, 0, none⟩) s.size cap, .int .i64 0, .slice (some ⟨w.heap.size + 2, 0, none⟩) 0 0] 241))
  clear hby hrow ho
  go_wp2
  go_loopw [11] (fun i wr => ∃ k frm xs, k ≤ s.size ∧ frm ≤ k ∧ i = .int .i64 (k : Nat) ∧ xs.length ≤ k ∧ splitB c [] s.data.toList = xs ++ splitB c (cutL s.data.toList frm k) (s.data.toList.drop k) ∧ Cutter w.heap.size (fun _ => False) wr (w.heap.size + 3) (w.heap.size + 1) s frm xs ∧ Only (fun _ => False) w wr) (fun i _ => s.size - (intOf i).toNat)
  case atStart => exact ⟨0, 0, [], Nat.zero_le _, Nat.le_refl _, rfl, Nat.le_refl _, rfl, HC0.out, HO0.out⟩
  case round =>
    obtain ⟨k, frm, xs, hk, hfk, rfl, hxl, hsp, hc, ho⟩ := hrel
    have HS := hide hsp
    have HO := hide ho
    by_cases hlt : k < s.size
    · have hli : (k : Int) < (s.size : Int) := by omega
      have hget := get_of_lt s k hlt
      by_cases heq : s[k] = c
      · have hbe : ((s[k].toNat : Int) == (c.toNat : Int)) = true := by rw [heq]; simp
        have HS2 : Hid (splitB c [] s.data.toList = (xs ++ [cutL s.data.toList frm k]) ++ splitB c (cutL s.data.toList (k + 1) (k + 1)) (s.data.toList.drop (k + 1))) := by
          show _ = _
          rw [HS.out, splitB_hit (by rw [hget, heq]), cutL_same]; simp
        have HC := hide (cut_any w.heap.size (fun _ => False) (w.heap.size + 3) (w.heap.size + 1) s frm k (k + 1) xs hfk hk (by omega) wr hc)
        clear hc ho hsp hget heq
        go_wp2_with (go_at_call 117; refine (HC.out).mono ?_; rintro en w2 ⟨rfl, h1, h2⟩)
        go_roundw
        case rel => exact ⟨k + 1, k + 1, _, by omega, by omega, by go_num, by simp; omega, HS2.out, h1, HO.out.trans h2 (fun i hi hB => by have := hB.1; omega)⟩
        case measure => simp [intOf]; omega
      · have hbe : ((s[k].toNat : Int) == (c.toNat : Int)) = false := by
          rw [beq_eq_false_iff_ne]
          intro e
          exact heq (UInt8.toNat_inj.1 (by omega))
        have HS2 : Hid (splitB c [] s.data.toList = xs ++ splitB c (cutL s.data.toList frm (k + 1)) (s.data.toList.drop (k + 1))) := by
          show _ = _
          rw [HS.out, splitB_pass hfk hget heq]
        have HC := hide hc
        clear hc ho hsp hget heq
        go_wp2
        go_roundw
        case rel => exact ⟨k + 1, frm, xs, by omega, by omega, by go_num, by omega, HS2.out, HC.out, HO.out⟩
        case measure => simp [intOf]; omega
    · have hli : ¬ (k : Int) < (s.size : Int) := by omega
      obtain rfl : k = s.size := by omega
      by_cases hs0 : s.size = 0
      · have he : s.data.toList = [] := List.eq_nil_of_length_eq_zero (by omega)
        have hx0 : xs = [] := List.eq_nil_of_length_eq_zero (by omega)
        have HE : Hid (xs = L) := by show xs = L; rw [HL.out, if_pos he, hx0]
        have HR := hide (rest_none w.heap.size (fun _ => False) (w.heap.size + 3) (w.heap.size + 1) s frm xs hs0 wr hc)
        clear hc ho hsp he hx0
        go_wp2_with (go_at_call 118; refine (HR.out).mono ?_; rintro en w2 ⟨v, rfl, h1, rfl⟩)
        go_ret
        exact ⟨_, rfl, strs_eq h1 HE.out (by rw [HE.out]), HO.out⟩
      · have he : s.data.toList ≠ [] := fun e => by rw [e] at hlen; simp at hlen; omega
        have HE : Hid (xs ++ [cutL s.data.toList frm s.size] = L) := by
          show _ = L
          rw [HL.out, if_neg he, HS.out, ← hlen, splitB_end]
        have HR := hide (rest_some w.heap.size (fun _ => False) (w.heap.size + 3) (w.heap.size + 1) s frm xs (by omega) hfk (by omega) wr hc)
        clear hc ho hsp he
        go_wp2_with (go_at_call 118; refine (HR.out).mono ?_; rintro en w2 ⟨v, rfl, h1, h2⟩)
        go_ret
        exact ⟨_, rfl, strs_eq h1 HE.out (by rw [← HE.out]; simp), HO.out.trans h2 (fun i hi hB => by have := hB.1; omega)⟩
end Go.Proofs.YthhiofppbpgipaaGreatDoor

namespace Go.Proofs.YthhiofppbpgipaaGreatDoor
open Go.RowKit
theorem Cutter.setFrom {B : Nat} {X : Nat → Prop} {w : World} {cb gb : Nat} {s : ByteArray} {frm : Nat} {xs : List (List UInt8)} (h : Cutter B X w cb gb s frm xs) (f2 : Nat) : Cutter B X (w.setCell ⟨cb, 1, none⟩ (.int .i64 f2)) cb gb s f2 xs := by
  obtain ⟨v, cap, h1, h2, h3, h4, h5, h6, h7, h8, h9, h10, h11⟩ := h
  refine ⟨v, cap, h1, heap_setCell_same h2 _, h3.block (Below.heap_setCell _ _ _ _ (fun e => h6 e.symm)), by simp [World.setCell]; exact h4, ownsRow_of h5 (fun k hk => Below.heap_setCell _ _ _ _ (fun e => h7 (by rw [hk]; exact congrArg some e))), h6, h7, h8, h9, h10, fun k hk => ⟨by simp [World.setCell]; exact (h11 k hk).1, (h11 k hk).2⟩⟩
theorem Cutter.free {B : Nat} {X : Nat → Prop} {w : World} {cb gb : Nat} {s : ByteArray} {frm : Nat} {xs : List (List UInt8)} (h : Cutter B X w cb gb s frm xs) (o : Nat) : w.frozen? ⟨cb, o, none⟩ = false := by
  obtain ⟨v, cap, h1, h2, _⟩ := h
  exact free_of h2 o
set_option maxRecDepth 100000 in
set_option maxHeartbeats 4000000 in
theorem blanks_any (s : ByteArray) (h5 : s.size ≤ 500) (w : World) :
    Calls Tryz.prog 56 #[.string s] w fun en w' => ∃ v, en = .returned v ∧ w'.ownsRow w.heap.size 9 1 v (words [] s.data.toList).length (strsV (words [] s.data.toList)) ∧ Only (fun _ => False) w w' := by
  have hlen : s.data.toList.length = s.size := len_eq s
  obtain ⟨L, HL⟩ : ∃ L, Hid (L = words [] s.data.toList) := ⟨_, rfl⟩
  rw [← HL.out]
  go_enter Tryz.func56, Tryz.ntmps56
  go_wp2_with fail
  refine (start_any s w).mono ?_
  rintro en w1 ⟨cap, hcap, rfl, hby, hrow, hz, ho⟩
  have HC0 := hide (cutter_new (X := fun _ => False) hcap hby hrow hz (fun _ h => h.elim))
  have HO0 := hide (ho.alloc (.cells #[.slice (some ⟨w.heap.size + 1, 0, none⟩) s.size cap, .int .i64 0, .slice (some ⟨w.heap.size + 2, 0, none⟩) 0 0] 241))
  clear hby hrow ho
  go_wp2
  go_loopw [9] (fun i wr => ∃ k frm xs, k ≤ s.size ∧ frm ≤ k ∧ i = .int .i64 (k : Nat) ∧ xs.length ≤ k ∧ words [] s.data.toList = xs ++ words (cutL s.data.toList frm k) (s.data.toList.drop k) ∧ Cutter w.heap.size (fun _ => False) wr (w.heap.size + 3) (w.heap.size + 1) s frm xs ∧ Only (fun _ => False) w wr) (fun i _ => s.size - (intOf i).toNat)
  case atStart => exact ⟨0, 0, [], Nat.zero_le _, Nat.le_refl _, rfl, Nat.le_refl _, rfl, HC0.out, HO0.out⟩
  case round =>
    obtain ⟨k, frm, xs, hk, hfk, rfl, hxl, hsp, hc, ho⟩ := hrel
    have HS := hide hsp
    have HO := hide ho
    by_cases hlt : k < s.size
    · have hli : (k : Int) < (s.size : Int) := by omega
      have hget := get_of_lt s k hlt
      cases hbl : blankB s[k]
      · have HBl := hide (isBlank_any s[k])
        have HS2 : Hid (words [] s.data.toList = xs ++ words (cutL s.data.toList frm (k + 1)) (s.data.toList.drop (k + 1))) := by
          show _ = _
          rw [HS.out, words_in hfk hget hbl]
        have HC := hide hc
        clear hc ho hsp hget
        go_wp2_with (go_at_call 115; refine (HBl.out _).mono ?_; rintro en w2 ⟨rfl, rfl⟩; rw [hbl])
        go_roundw
        case rel => exact ⟨k + 1, frm, xs, by omega, by omega, by go_num, by omega, HS2.out, HC.out, HO.out⟩
        case measure => simp [intOf]; omega
      · have HBl := hide (isBlank_any s[k])
        by_cases hf : frm < k
        · have HS2 : Hid (words [] s.data.toList = (xs ++ [cutL s.data.toList frm k]) ++ words (cutL s.data.toList (k + 1) (k + 1)) (s.data.toList.drop (k + 1))) := by
            show _ = _
            rw [HS.out, words_blank hget hbl, if_neg (by omega), cutL_same]; simp
          have HC := hide (filled_yes w.heap.size (fun _ => False) (w.heap.size + 3) (w.heap.size + 1) s frm k xs hf hk (by omega) wr hc)
          clear hc ho hsp hget
          go_wp2_with (first | (go_at_call 115; refine (HBl.out _).mono ?_; rintro en w2 ⟨rfl, rfl⟩; rw [hbl]) | (go_at_call 116; refine (HC.out).mono ?_; rintro en w2 ⟨rfl, h1, h2⟩; obtain ⟨v, cap2, d0, d1, d2, ho2⟩ := h1.own; have df := h1.free 1; have H1 := hide h1; have H2 := hide h2; clear h1 h2 ho2))
          go_roundw
          case rel => exact ⟨k + 1, k + 1, _, by omega, by omega, by go_num, by simp; omega, HS2.out, H1.out.setFrom (k + 1), (HO.out.trans H2.out (fun i hi hB => by have := hB.1; omega)).setCell (p := ⟨w.heap.size + 3, 1, none⟩) (fun h => absurd h (by simp)) _⟩
          case measure => simp [intOf]; omega
        · have HS2 : Hid (words [] s.data.toList = xs ++ words (cutL s.data.toList (k + 1) (k + 1)) (s.data.toList.drop (k + 1))) := by
            show _ = _
            rw [HS.out, words_blank hget hbl, if_pos (by omega), cutL_same]; simp
          have HF := hide (filled_no w.heap.size (fun _ => False) (w.heap.size + 3) (w.heap.size + 1) s frm k xs hf wr hc)
          obtain ⟨v, cap2, d0, d1, d2, ho2⟩ := hc.own
          have df := hc.free 1
          have HC := hide hc
          clear hc ho hsp hget ho2
          go_wp2_with (first | (go_at_call 115; refine (HBl.out _).mono ?_; rintro en w2 ⟨rfl, rfl⟩; rw [hbl]) | (go_at_call 116; refine (HF.out).mono ?_; rintro en w2 ⟨rfl, rfl⟩))
          go_roundw
          case rel => exact ⟨k + 1, k + 1, _, by omega, by omega, by go_num, by omega, HS2.out, HC.out.setFrom (k + 1), HO.out.setCell (p := ⟨w.heap.size + 3, 1, none⟩) (fun h => absurd h (by simp)) _⟩
          case measure => simp [intOf]; omega
    · have hli : ¬ (k : Int) < (s.size : Int) := by omega
      obtain rfl : k = s.size := by omega
      have HE0 : Hid (L = xs ++ if s.size ≤ frm then [] else [cutL s.data.toList frm s.size]) := by
        show L = _
        rw [HL.out, HS.out, ← hlen, words_end]
      by_cases hf : frm < s.size
      · have HE : Hid (xs ++ [cutL s.data.toList frm s.size] = L) := by
          show _ = L
          rw [HE0.out, if_neg (by omega)]
        have HC := hide (filled_yes w.heap.size (fun _ => False) (w.heap.size + 3) (w.heap.size + 1) s frm s.size xs hf (Nat.le_refl _) (by omega) wr hc)
        clear hc ho hsp
        go_wp2_with (go_at_call 116; refine (HC.out).mono ?_; rintro en w2 ⟨rfl, h1, h2⟩; obtain ⟨v, cap2, d0, d1, d2, ho2⟩ := h1.own; have H1 := hide ho2; have H2 := hide h2; clear h1 h2 ho2)
        go_ret
        exact ⟨_, rfl, strs_eq H1.out HE.out (by rw [HE.out]), HO.out.trans H2.out (fun i hi hB => by have := hB.1; omega)⟩
      · have HE : Hid (xs = L) := by
          show _ = L
          rw [HE0.out, if_pos (by omega), List.append_nil]
        have HF := hide (filled_no w.heap.size (fun _ => False) (w.heap.size + 3) (w.heap.size + 1) s frm s.size xs hf wr hc)
        obtain ⟨v, cap2, d0, d1, d2, ho2⟩ := hc.own
        have H1 := hide ho2
        clear hc ho hsp ho2
        go_wp2_with (go_at_call 116; refine (HF.out).mono ?_; rintro en w2 ⟨rfl, rfl⟩)
        go_ret
        exact ⟨_, rfl, strs_eq H1.out HE.out (by rw [HE.out]), HO.out⟩
end Go.Proofs.YthhiofppbpgipaaGreatDoor

