import Derived.Test.YtdbdbaepmdmnfaaGreatDoorQ03
import Derived.Test.YtdbdbaepmdmnfaaGreatDoorQ08
import Derived.Test.YtdbdbaepmdmnfaaGreatDoorQ01
import Derived.Laws.BytesArg
namespace Go.Proofs.YtdbdbaepmdmnfaaGreatDoor
open Go.RowKit
end Go.Proofs.YtdbdbaepmdmnfaaGreatDoor
/- Texts cut into pieces: plain functions on lists of bytes. Nothing of the program is imported. -/
namespace Go.Proofs.YtdbdbaepmdmnfaaGreatDoor
/-- The bytes from place a up to place b. -/
def cutL (l : List UInt8) (a b : Nat) : List UInt8 := (l.drop a).take (b - a)
theorem cutL_same (l : List UInt8) (a : Nat) : cutL l a a = [] := by simp [cutL]
theorem cutL_snoc {l : List UInt8} {a b : Nat} {c : UInt8} (hab : a ≤ b) (h : l[b]? = some c) : cutL l a (b + 1) = cutL l a b ++ [c] := by
  unfold cutL
  rw [show b + 1 - a = (b - a) + 1 by omega, List.take_add_one, List.getElem?_drop, show a + (b - a) = b by omega, h]
  rfl
theorem cutL_nil {l : List UInt8} {a b : Nat} (hb : b ≤ l.length) : cutL l a b = [] ↔ b ≤ a := by
  unfold cutL
  rw [← List.length_eq_zero_iff, List.length_take, List.length_drop]
  omega
theorem drop_at {l : List UInt8} {k : Nat} {c : UInt8} (h : l[k]? = some c) : l.drop k = c :: l.drop (k + 1) := by
  obtain ⟨hk, e⟩ := List.getElem?_eq_some_iff.1 h
  rw [List.drop_eq_getElem_cons hk, e]
/-- The words of a text: cur is what was read of the one that is open. -/
def words : List UInt8 → List UInt8 → List (List UInt8)
  | cur, [] => if cur = [] then [] else [cur]
  | cur, c :: l => if blankB c then (if cur = [] then words [] l else cur :: words [] l) else words (cur ++ [c]) l
/-- The pieces between the bytes that are s. -/
def splitB (s : UInt8) : List UInt8 → List UInt8 → List (List UInt8)
  | cur, [] => [cur]
  | cur, c :: l => if c = s then cur :: splitB s [] l else splitB s (cur ++ [c]) l
def eachB (l : List UInt8) : List (List UInt8) := l.map (fun c => [c])
/-- The pieces between the matches that are not empty; len k: how long the longest match at place k is. -/
def patCut (l : List UInt8) (len : Nat → Nat) : Nat → Nat → Nat → List (List UInt8)
  | 0, frm, _ => [cutL l frm l.length]
  | f + 1, frm, i => if l.length ≤ i then [cutL l frm l.length] else if 0 < len i then cutL l frm i :: patCut l len f (i + len i) (i + len i) else patCut l len f frm (i + 1)
theorem patCut_fuel {l : List UInt8} {len : Nat → Nat} {f g frm i : Nat} (hf : l.length - i ≤ f) (hg : l.length - i ≤ g) : patCut l len f frm i = patCut l len g frm i := by
  induction f generalizing g frm i with
  | zero =>
    cases g with
    | zero => rfl
    | succ g => rw [patCut, patCut, if_pos (by omega)]
  | succ f ih =>
    cases g with
    | zero => rw [patCut, patCut, if_pos (by omega)]
    | succ g =>
      rw [patCut, patCut]
      by_cases h : l.length ≤ i
      · rw [if_pos h, if_pos h]
      · rw [if_neg h, if_neg h]
        by_cases h2 : 0 < len i
        · rw [if_pos h2, if_pos h2, ih (g := g) (by omega) (by omega)]
        · rw [if_neg h2, if_neg h2, ih (g := g) (by omega) (by omega)]
def patC (l : List UInt8) (len : Nat → Nat) (frm i : Nat) : List (List UInt8) := patCut l len (l.length - i) frm i
theorem patC_end {l : List UInt8} {len : Nat → Nat} {frm i : Nat} (h : l.length ≤ i) : patC l len frm i = [cutL l frm l.length] := by
  unfold patC
  rw [show l.length - i = 0 by omega]; rfl
theorem patC_hit {l : List UInt8} {len : Nat → Nat} {frm i : Nat} (h : i < l.length) (h2 : 0 < len i) : patC l len frm i = cutL l frm i :: patC l len (i + len i) (i + len i) := by
  unfold patC
  obtain ⟨n, hn⟩ : ∃ n, l.length - i = n + 1 := ⟨l.length - i - 1, by omega⟩
  rw [hn, patCut, if_neg (by omega), if_pos h2, patCut_fuel (g := l.length - (i + len i)) (by omega) (Nat.le_refl _)]
theorem patC_pass {l : List UInt8} {len : Nat → Nat} {frm i : Nat} (h : i < l.length) (h2 : ¬ 0 < len i) : patC l len frm i = patC l len frm (i + 1) := by
  unfold patC
  obtain ⟨n, hn⟩ : ∃ n, l.length - i = n + 1 := ⟨l.length - i - 1, by omega⟩
  rw [hn, patCut, if_neg (by omega), if_neg h2, patCut_fuel (g := l.length - (i + 1)) (by omega) (Nat.le_refl _)]
/-- How words go on at a place. -/
theorem words_blank {l : List UInt8} {a k : Nat} {c : UInt8} (hk : l[k]? = some c) (hc : blankB c = true) : words (cutL l a k) (l.drop k) = (if k ≤ a then [] else [cutL l a k]) ++ words [] (l.drop (k + 1)) := by
  have hkl := (List.getElem?_eq_some_iff.1 hk).1
  rw [drop_at hk, words, if_pos hc]
  by_cases h : k ≤ a
  · rw [if_pos ((cutL_nil (by omega)).2 h), if_pos h]; rfl
  · rw [if_neg (fun e => h ((cutL_nil (by omega)).1 e)), if_neg h]; rfl
theorem words_in {l : List UInt8} {a k : Nat} {c : UInt8} (hak : a ≤ k) (hk : l[k]? = some c) (hc : blankB c = false) : words (cutL l a k) (l.drop k) = words (cutL l a (k + 1)) (l.drop (k + 1)) := by
  rw [drop_at hk, words, cutL_snoc hak hk, hc]; rfl
theorem words_end {l : List UInt8} {a : Nat} : words (cutL l a l.length) (l.drop l.length) = if l.length ≤ a then [] else [cutL l a l.length] := by
  rw [List.drop_length, words]
  by_cases h : l.length ≤ a
  · rw [if_pos ((cutL_nil (Nat.le_refl _)).2 h), if_pos h]
  · rw [if_neg (fun e => h ((cutL_nil (Nat.le_refl _)).1 e)), if_neg h]
theorem splitB_hit {l : List UInt8} {a k : Nat} {s : UInt8} (hk : l[k]? = some s) : splitB s (cutL l a k) (l.drop k) = cutL l a k :: splitB s [] (l.drop (k + 1)) := by
  rw [drop_at hk, splitB, if_pos rfl]
theorem splitB_pass {l : List UInt8} {a k : Nat} {s c : UInt8} (hak : a ≤ k) (hk : l[k]? = some c) (hc : c ≠ s) : splitB s (cutL l a k) (l.drop k) = splitB s (cutL l a (k + 1)) (l.drop (k + 1)) := by
  rw [drop_at hk, splitB, if_neg hc, cutL_snoc hak hk]
theorem splitB_end {l : List UInt8} {a : Nat} {s : UInt8} : splitB s (cutL l a l.length) (l.drop l.length) = [cutL l a l.length] := by
  rw [List.drop_length, splitB]
/-- How long the longest match at place k is; 0: there is none, or it is empty. -/
def LenR (R : Pat) (t : List UInt8) (k m : Nat) : Prop := k + m ≤ t.length ∧ (0 < m → R t k (k + m)) ∧ ∀ e, k < e → e ≤ t.length → R t k e → e ≤ k + m
theorem LenR.unique {R : Pat} {t : List UInt8} {k m n : Nat} (h : LenR R t k m) (h' : LenR R t k n) : m = n := by
  have h1 := h.1
  have h2 := h'.1
  by_cases h3 : m < n
  · have := h.2.2 (k + n) (by omega) h2 (h'.2.1 (by omega)); omega
  · by_cases h4 : n < m
    · have := h'.2.2 (k + m) (by omega) h1 (h.2.1 (by omega)); omega
    · omega
theorem lenR_upto (R : Pat) (t : List UInt8) (k : Nat) (n : Nat) (hn : k + n ≤ t.length) : ∃ m, m ≤ n ∧ (0 < m → R t k (k + m)) ∧ ∀ e, k < e → e ≤ k + n → R t k e → e ≤ k + m := by
  induction n with
  | zero => exact ⟨0, Nat.le_refl _, fun h => absurd h (Nat.lt_irrefl _), fun e h1 h2 => by omega⟩
  | succ n ih =>
    by_cases hr : R t k (k + (n + 1))
    · exact ⟨n + 1, Nat.le_refl _, fun _ => hr, fun e _ h2 _ => h2⟩
    · obtain ⟨m, h1, h2, h3⟩ := ih (by omega)
      refine ⟨m, by omega, h2, fun e he1 he2 he3 => ?_⟩
      by_cases e1 : e = k + (n + 1)
      · subst e1; exact absurd he3 hr
      · exact h3 e he1 (by omega) he3
theorem lenR_some (R : Pat) (t : List UInt8) (k : Nat) (hk : k ≤ t.length) : ∃ m, LenR R t k m := by
  obtain ⟨m, h1, h2, h3⟩ := lenR_upto R t k (t.length - k) (by omega)
  exact ⟨m, by omega, h2, fun e h4 h5 h6 => h3 e h4 (by omega) h6⟩
/-- A function that tells how long the longest match at each place is. -/
def IsLen (R : Pat) (t : List UInt8) (len : Nat → Nat) : Prop := ∀ k, k ≤ t.length → LenR R t k (len k)
theorem isLen_some (R : Pat) (t : List UInt8) : ∃ len, IsLen R t len := by
  have h : ∀ k, ∃ m, k ≤ t.length → LenR R t k m := fun k => by
    by_cases hk : k ≤ t.length
    · obtain ⟨m, hm⟩ := lenR_some R t k hk
      exact ⟨m, fun _ => hm⟩
    · exact ⟨0, fun h => absurd h hk⟩
  exact Classical.skolem.1 h
theorem IsLen.is {R : Pat} {t : List UInt8} {len : Nat → Nat} (hL : IsLen R t len) {k m : Nat} (h : LenR R t k m) : len k = m := (hL k (by have := h.1; omega)).unique h
theorem IsLen.le {R : Pat} {t : List UInt8} {len : Nat → Nat} (hL : IsLen R t len) (k : Nat) (hk : k ≤ t.length) : k + len k ≤ t.length := (hL k hk).1
theorem patCut_congr {l : List UInt8} {len len' : Nat → Nat} (h : ∀ k, k < l.length → len k = len' k) (f frm i : Nat) : patCut l len f frm i = patCut l len' f frm i := by
  induction f generalizing frm i with
  | zero => rfl
  | succ f ih =>
    rw [patCut, patCut]
    by_cases hi : l.length ≤ i
    · rw [if_pos hi, if_pos hi]
    · rw [if_neg hi, if_neg hi, h i (by omega), ih, ih]
/-- The pieces of a text between the matches of a pattern. -/
def patPieces (len : Nat → Nat) (t : List UInt8) : List (List UInt8) := if t = [] then [] else patC t len 0 0
theorem patPieces_same {R : Pat} {t : List UInt8} {len len' : Nat → Nat} (h : IsLen R t len) (h' : IsLen R t len') : patPieces len t = patPieces len' t := by
  unfold patPieces patC
  rw [patCut_congr (fun k hk => (h k (by omega)).unique (h' k (by omega)))]
/-- What Split answers: the pieces and the number of the error. -/
def SplitIs (t p : List UInt8) (L : List (List UInt8)) (n : Nat) : Prop :=
  (500 < t.length ∨ 500 < p.length → L = [] ∧ n = 1) ∧
  (¬ (500 < t.length ∨ 500 < p.length) →
    (p = [32] → L = words [] t ∧ n = 0) ∧ (p = [] → L = eachB t ∧ n = 0) ∧ (∀ c, p = [c] → c ≠ 32 → L = (if t = [] then [] else splitB c [] t) ∧ n = 0) ∧
    (2 ≤ p.length → (wholeP p = none → L = [] ∧ n = 7) ∧ ∀ R, wholeP p = some R → (∃ len, IsLen R t len ∧ L = patPieces len t) ∧ n = 0))
theorem SplitIs.unique {t p : List UInt8} {L M : List (List UInt8)} {n m : Nat} (h : SplitIs t p L n) (h' : SplitIs t p M m) : L = M ∧ n = m := by
  by_cases hl : 500 < t.length ∨ 500 < p.length
  · obtain ⟨rfl, rfl⟩ := h.1 hl
    obtain ⟨rfl, rfl⟩ := h'.1 hl
    exact ⟨rfl, rfl⟩
  · obtain ⟨a1, a2, a3, a4⟩ := h.2 hl
    obtain ⟨b1, b2, b3, b4⟩ := h'.2 hl
    match p with
    | [] =>
      obtain ⟨rfl, rfl⟩ := a2 rfl
      obtain ⟨rfl, rfl⟩ := b2 rfl
      exact ⟨rfl, rfl⟩
    | [c] =>
      by_cases hc : c = 32
      · subst hc
        obtain ⟨rfl, rfl⟩ := a1 rfl
        obtain ⟨rfl, rfl⟩ := b1 rfl
        exact ⟨rfl, rfl⟩
      · obtain ⟨rfl, rfl⟩ := a3 c rfl hc
        obtain ⟨rfl, rfl⟩ := b3 c rfl hc
        exact ⟨rfl, rfl⟩
    | a :: b :: r =>
      obtain ⟨a5, a6⟩ := a4 (by simp)
      obtain ⟨b5, b6⟩ := b4 (by simp)
      cases hw : wholeP (a :: b :: r) with
      | none =>
        obtain ⟨rfl, rfl⟩ := a5 hw
        obtain ⟨rfl, rfl⟩ := b5 hw
        exact ⟨rfl, rfl⟩
      | some R =>
        obtain ⟨⟨len, c1, rfl⟩, rfl⟩ := a6 R hw
        obtain ⟨⟨len', c2, rfl⟩, rfl⟩ := b6 R hw
        exact ⟨patPieces_same c1 c2, rfl⟩
/-- A piece as a text. -/
def ofB (l : List UInt8) : ByteArray := ⟨l.toArray⟩
def strsV (L : List (List UInt8)) : List Go.Value := L.map (fun l => Go.Value.string (ofB l))
theorem strsV_snoc (L : List (List UInt8)) (l : List UInt8) : strsV (L ++ [l]) = strsV L ++ [.string (ofB l)] := by simp [strsV]
theorem extract_cut (s : ByteArray) (a b : Nat) : s.extract a b = ofB (cutL s.data.toList a b) := by
  apply ByteArray.ext
  rw [ByteArray.data_extract]
  apply Array.toList_inj.1
  rw [Array.toList_extract, List.extract_eq_take_drop]
  rfl
theorem words_len (cur l : List UInt8) : (words cur l).length ≤ l.length + 1 := by
  induction l generalizing cur with
  | nil => unfold words; split <;> simp
  | cons c l ih =>
    unfold words
    split
    · split
      · have := ih []; simp only [List.length_cons]; omega
      · have := ih []; simp only [List.length_cons]; omega
    · have := ih (cur ++ [c]); simp only [List.length_cons]; omega
theorem splitB_len (s : UInt8) (cur l : List UInt8) : (splitB s cur l).length ≤ l.length + 1 := by
  induction l generalizing cur with
  | nil => simp [splitB]
  | cons c l ih =>
    unfold splitB
    split
    · have := ih []; simp only [List.length_cons]; omega
    · have := ih (cur ++ [c]); simp only [List.length_cons]; omega
theorem patCut_len (l : List UInt8) (len : Nat → Nat) (f frm i : Nat) : (patCut l len f frm i).length ≤ f + 1 := by
  induction f generalizing frm i with
  | zero => simp [patCut]
  | succ f ih =>
    unfold patCut
    split
    · simp
    · split
      · have := ih (i + len i) (i + len i); simp only [List.length_cons]; omega
      · have := ih frm (i + 1); omega
theorem SplitIs.len {t p : List UInt8} {L : List (List UInt8)} {n : Nat} (h : SplitIs t p L n) : L.length ≤ 501 := by
  by_cases hl : 500 < t.length ∨ 500 < p.length
  · rw [(h.1 hl).1]; simp
  · obtain ⟨a1, a2, a3, a4⟩ := h.2 hl
    match p with
    | [] => rw [(a2 rfl).1]; simp [eachB]; omega
    | [c] =>
      by_cases hc : c = 32
      · subst hc; rw [(a1 rfl).1]; have := words_len [] t; omega
      · rw [(a3 c rfl hc).1]
        split
        · simp
        · have := splitB_len c [] t; omega
    | a :: b :: r =>
      obtain ⟨a5, a6⟩ := a4 (by simp)
      cases hw : wholeP (a :: b :: r) with
      | none => rw [(a5 hw).1]; simp
      | some R =>
        obtain ⟨⟨len, _, rfl⟩, _⟩ := a6 R hw
        unfold patPieces
        split
        · simp
        · have := patCut_len t len (t.length - 0) 0 0; unfold patC; omega
end Go.Proofs.YtdbdbaepmdmnfaaGreatDoor
namespace Go.Proofs.YtdbdbaepmdmnfaaGreatDoor
open Go.RowKit
def byV (c : UInt8) : Value := .int .u8 c.toNat
/-- A row of bytes, as a text. -/
theorem bytes_conv {w : World} {B : Nat} {v : Value} {M : List UInt8} (h : w.ownsRow B 5 1 v M.length (M.map byV)) : (convert 54 9 v).run Tryz.prog w = .ok (.string (ofB M)) w := by
  rcases h.2 with ⟨rfl, hn⟩ | ⟨g, cp, cur, rfl, hg, hh, _, _, hsz, htk⟩
  · have : M = [] := List.eq_nil_of_length_eq_zero hn
    subst this
    exact run_convert_bytes_nil w 54 5 Tryz.underlying54 Tryz.underlying5 _ _ 9 Tryz.underlying9
  · rw [run_convert_bytes_arg w 54 5 Tryz.underlying54 Tryz.underlying5 g 0 M.length cp (M.map fun b => (b.toNat : Int)) (by simp) ?_ 9 Tryz.underlying9]
    · congr 2
      unfold strOfNums ofB
      simp [Function.comp_def]
    · intro i hi
      have h1 : cur[i]? = some (.int .u8 ((M.map fun b => (b.toNat : Int)).getD i 0)) := by
        have h2 : (cur.toList.take (M.length * 1))[i]? = (M.map byV)[i]? := by rw [htk]
        rw [List.getElem?_take_of_lt (by omega), Array.getElem?_toList, List.getElem?_map, List.getElem?_eq_getElem hi] at h2
        rw [h2, List.getD_eq_getElem?_getD, List.getElem?_map, List.getElem?_eq_getElem hi]; rfl
      simp [World.cell?, hh, h1]
end Go.Proofs.YtdbdbaepmdmnfaaGreatDoor
namespace Go.Proofs.YtdbdbaepmdmnfaaGreatDoor
open Go.RowKit
/-- Does a slash behind the token divide? -/
def endsB (k : Nat) (x : List UInt8) : Bool := k == 2 || k == 3 || k == 4 || k == 5 || (k == 9 && (x == [41] || x == [93]))
set_option maxRecDepth 10000 in
set_option maxHeartbeats 8000000 in
theorem ends_any (k : Nat) (x : ByteArray) (i : Nat) (w : World) : Calls Tryz.prog 136 #[tokV k x i] w fun e w' => e = .returned (.bool (endsB k x.data.toList)) ∧ Only (fun _ => False) w w' := by
  obtain ⟨v, HV⟩ : ∃ v, Hid (v = endsB k x.toList) := ⟨_, rfl⟩
  rw [← ByteArray.toList_eq, ← HV.out]
  unfold tokV
  by_cases hk : k = 2 ∨ k = 3 ∨ k = 4 ∨ k = 5 ∨ k = 9
  · rcases hk with rfl | rfl | rfl | rfl | rfl
    all_goals
      go_enter Tryz.func136, Tryz.ntmps136
      go_wp2
      all_goals
        go_ret
        refine ⟨ret_bool ?_, (Only.refl _ w).alloc _⟩
        rw [HV.out]
        unfold endsB
        first | (simp [*]; done) | simp_all
  · have d2 : ((k : Int) == 2) = false := by rw [beq_eq_false_iff_ne]; omega
    have d3 : ((k : Int) == 3) = false := by rw [beq_eq_false_iff_ne]; omega
    have d4 : ((k : Int) == 4) = false := by rw [beq_eq_false_iff_ne]; omega
    have d5 : ((k : Int) == 5) = false := by rw [beq_eq_false_iff_ne]; omega
    have d9 : ((k : Int) == 9) = false := by rw [beq_eq_false_iff_ne]; omega
    have hv : v = false := by
      rw [HV.out]
      unfold endsB
      simp only [Bool.or_eq_false_iff, Bool.and_eq_false_iff, beq_eq_false_iff_ne]
      refine ⟨⟨⟨⟨?_, ?_⟩, ?_⟩, ?_⟩, Or.inl ?_⟩ <;> omega
    subst hv
    clear hk
    go_enter Tryz.func136, Tryz.ntmps136
    go_wp2
    go_ret
    exact ⟨rfl, (Only.refl _ w).alloc _⟩
/-- What reading a token at a place answers. -/
def ReadsTo (pb : Nat) (T : ByteArray) (i : Nat) (dv : Bool) (k : Nat) (x : ByteArray) (e : Nat) : Prop :=
  ∀ w, TkAt w pb T i dv → Calls Tryz.prog 135 #[.pointer (some ⟨pb, 0, none⟩)] w fun en w' => en = .returned (.tuple #[tokV k x i, .int .i64 e]) ∧ Only (fun _ => False) w w'
set_option maxRecDepth 10000 in
set_option maxHeartbeats 8000000 in
theorem read_end (pb : Nat) (T : ByteArray) (dv : Bool) : ReadsTo pb T T.size dv 1 ⟨#[]⟩ T.size := by
  intro w h
  have hl := h.lt
  have HT := hide h
  obtain ⟨c0, c1, c2⟩ := h
  unfold tokV
  go_enter Tryz.func135, Tryz.ntmps135
  go_wp2_with (go_at_call 171; refine (tended_yes pb T T.size dv rfl _ (HT.out.alloc hl _)).mono ?_; rintro e w' ⟨rfl, n, rfl⟩)
  go_region
  all_goals
    go_wp2
    refine bodyPost_ret (v := .tuple #[.agg #[.int .i64 1, .string ⟨#[]⟩, .int .i64 T.size], .int .i64 T.size]) (by simp [results, Tryz.results135, go_sem]) rfl ⟨rfl, ?_⟩
    exact tokset (((Only.refl _ w).alloc _).drewN _) _ _ _
set_option maxRecDepth 10000 in
set_option maxHeartbeats 8000000 in
theorem read_name (pb : Nat) (T : ByteArray) (i : Nat) (dv : Bool) (k : Nat) (x : ByteArray) (e : Nat) (hi : i < T.size) (hdg : digB T[i] = false) (hlt : letB T[i] = true)
    (hsub : ∀ w, TkAt w pb T i dv → Calls Tryz.prog 176 #[.pointer (some ⟨pb, 0, none⟩)] w fun en w' => en = .returned (.tuple #[tokV k x i, .int .i64 e]) ∧ Only (fun _ => False) w w') : ReadsTo pb T i dv k x e := by
  intro w h
  have hl := h.lt
  have HT := hide h
  have HSub := hide hsub
  obtain ⟨c0, c1, c2⟩ := h
  have hli : (i : Int) < (T.size : Int) := by omega
  clear hsub
  unfold tokV
  go_enter Tryz.func135, Tryz.ntmps135
  go_wp2_with (go_at_call 171; refine (tended_no pb T i _ hi _ (HT.out.alloc hl _)).mono ?_; rintro e w' ⟨rfl, n, rfl⟩)
  go_quiet (fail)
  go_wp2_with (first | (go_at_call 173; refine (tdigit_any _ _).mono ?_; rintro e w' ⟨rfl, rfl⟩; rw [hdg]) | (go_at_call 175; refine (tletter_any _ _).mono ?_; rintro e w' ⟨rfl, rfl⟩; rw [hlt]) | (go_at_call 176; refine (HSub.out _ ((HT.out.alloc hl _).drewN _)).mono ?_; rintro e w1 ⟨rfl, ho1⟩; obtain ⟨HO1, q0, q1, q2, qf⟩ := tokbox ho1; clear ho1; unfold tokV))
  exact bodyPost_ret (v := .tuple #[.agg #[.int .i64 k, .string x, .int .i64 i], .int .i64 e]) (by simp [results, Tryz.results135, go_sem, q0, q1, q2]) rfl ⟨rfl, tokset HO1.out _ _ _⟩
set_option maxRecDepth 10000 in
set_option maxHeartbeats 8000000 in
theorem read_sign (pb : Nat) (T : ByteArray) (i : Nat) (dv : Bool) (k : Nat) (x : ByteArray) (e : Nat) (hi : i < T.size) (hdg : digB T[i] = false) (hlt : letB T[i] = false) (hqt : ((T[i].toNat : Int) == 34) = false) (hsl : ((T[i].toNat : Int) == 47) = false)
    (hsub : ∀ w, TkAt w pb T i dv → Calls Tryz.prog 179 #[.pointer (some ⟨pb, 0, none⟩)] w fun en w' => en = .returned (.tuple #[tokV k x i, .int .i64 e]) ∧ Only (fun _ => False) w w') : ReadsTo pb T i dv k x e := by
  intro w h
  have hl := h.lt
  have HT := hide h
  have HSub := hide hsub
  obtain ⟨c0, c1, c2⟩ := h
  have hli : (i : Int) < (T.size : Int) := by omega
  clear hsub
  unfold tokV
  go_enter Tryz.func135, Tryz.ntmps135
  go_wp2_with (go_at_call 171; refine (tended_no pb T i _ hi _ (HT.out.alloc hl _)).mono ?_; rintro e w' ⟨rfl, n, rfl⟩)
  go_quiet (fail)
  go_wp2_with (first | (go_at_call 173; refine (tdigit_any _ _).mono ?_; rintro e w' ⟨rfl, rfl⟩; rw [hdg]) | (go_at_call 175; refine (tletter_any _ _).mono ?_; rintro e w' ⟨rfl, rfl⟩; rw [hlt]) | (go_at_call 179; refine (HSub.out _ ((HT.out.alloc hl _).drewN _)).mono ?_; rintro e w1 ⟨rfl, ho1⟩; obtain ⟨HO1, q0, q1, q2, qf⟩ := tokbox ho1; clear ho1; unfold tokV))
  exact bodyPost_ret (v := .tuple #[.agg #[.int .i64 k, .string x, .int .i64 i], .int .i64 e]) (by simp [results, Tryz.results135, go_sem, q0, q1, q2]) rfl ⟨rfl, tokset HO1.out _ _ _⟩
end Go.Proofs.YtdbdbaepmdmnfaaGreatDoor
namespace Go.Proofs.YtdbdbaepmdmnfaaGreatDoor
open Go.RowKit
theorem new_at2 {W : World} {n : Nat} (h : W.heap.size = n) (o : Obj) : (W.alloc o).heap[n]? = some o := by subst h; exact heap_alloc_new W o
set_option maxRecDepth 10000 in
set_option maxHeartbeats 8000000 in
theorem next_any (pb : Nat) (T : ByteArray) (i : Nat) (dv : Bool) (k : Nat) (x : ByteArray) (xa : Nat) (ge : Bool) (hi : i ≤ T.size) (h5 : T.size ≤ 65000) (hc : ∀ c, T.data.toList[runTo blankB T.data.toList i]? = some c → ((c.toNat : Int) == 35) = false)
    (k' : Nat) (x' : ByteArray) (e' : Nat) (hr : ReadsTo pb T (runTo blankB T.data.toList i) dv k' x' e') (w : World) (h : PSt w pb T i dv k x xa ge) :
    Calls Tryz.prog 105 #[.pointer (some ⟨pb, 0, none⟩)] w fun en w' => en = .returned (tokV k' x' (runTo blankB T.data.toList i)) ∧ PSt w' pb T e' (endsB k' x'.data.toList) k x xa ge ∧ Only (fun k => k = pb) w w' := by
  have hl := heap_lt h
  have HSk : ∀ o, Hid (Calls Tryz.prog 134 #[.pointer (some ⟨pb, 0, none⟩)] (w.alloc o) fun en w' => en = .returned (.tuple #[]) ∧ PSt w' pb T (runTo blankB T.data.toList i) dv k x xa ge ∧ Only (fun k => k = pb) (w.alloc o) w') := fun o => skip_all pb T i dv k x xa ge hi h5 hc (w.alloc o) ((Below.heap_alloc _ _ _ hl).trans h)
  obtain ⟨j, HJ⟩ : ∃ j, Hid (j = runTo blankB T.data.toList i) := ⟨_, rfl⟩
  rw [← HJ.out]
  rw [← HJ.out] at hr
  obtain ⟨d, HD⟩ : ∃ d, Hid (d = endsB k' x'.data.toList) := ⟨_, rfl⟩
  rw [← HD.out]
  have HR := hide hr
  clear hr hc h
  unfold tokV
  go_enter Tryz.func105, Tryz.ntmps105
  go_wp2_with fail
  refine ((HSk _).out).mono ?_
  rintro e w1 ⟨rfl, hp1, ho1⟩
  rw [← HJ.out] at hp1
  have hz1 : w.heap.size + 1 ≤ w1.heap.size := by have := ho1.size; simpa using this
  have hb1 := (ho1.block w.heap.size (by simp) (by intro e; omega)).trans (new0 w (.cells #[.int .i64 0, .string ⟨#[]⟩, .int .i64 0] 152))
  have HP1 := hide hp1
  have HB1 := hide hb1
  have HO1 : Hid (Only (fun k => k = pb) w w1) := ((Only.refl _ w).alloc _).trans ho1 (fun _ _ e => e)
  clear hp1 ho1 hb1 HSk
  go_wp2_with fail
  refine (HR.out w1 HP1.out.tk).mono ?_
  rintro e w2 ⟨rfl, ho2⟩
  have hz2 := ho2.size
  have hb2 := (ho2.block w.heap.size (by omega) (fun e => e)).trans HB1.out
  have hp2 := HP1.out.only ho2 (fun e => e)
  have q0 : w2.cell? ⟨w.heap.size, 0, none⟩ = some (.int .i64 0) := cell_of hb2 rfl
  have q1 : w2.cell? ⟨w.heap.size, 1, none⟩ = some (.string ⟨#[]⟩) := cell_of hb2 rfl
  have q2 : w2.cell? ⟨w.heap.size, 2, none⟩ = some (.int .i64 0) := cell_of hb2 rfl
  have qf := free_of hb2
  have r1 : w2.cell? ⟨pb, 1, none⟩ = some (.int .i64 j) := cell_of hp2 rfl
  have r2 : w2.cell? ⟨pb, 2, none⟩ = some (.bool dv) := cell_of hp2 rfl
  have rf := free_of hp2
  have hpn : pb ≠ w.heap.size := by omega
  have HP2 := hide hp2
  have HB2 := hide hb2
  have HO2 : Hid (Only (fun k => k = pb) w w2) := HO1.out.trans ho2 (fun _ _ e => e.elim)
  have hl2 : pb < w2.heap.size := by omega
  have hl3 : w.heap.size < w2.heap.size := by omega
  clear ho2 hb2 hp2 HO1 HP1 HB1
  unfold tokV
  go_wp2_with fail
  have hen := ends_any k' x' j ((w2.setCell ⟨pb, 1, none⟩ (.int .i64 e')).alloc (.cells #[.int .i64 k', .string x', .int .i64 j] 152))
  unfold tokV at hen
  rw [← HD.out] at hen
  refine hen.mono ?_
  rintro e w3 ⟨rfl, ho3⟩
  have hz3 := ho3.size
  have hs0 : (w2.setCell ⟨pb, 1, none⟩ (.int .i64 e')).heap.size = w2.heap.size := by simp [World.setCell]
  have hp3 : PSt w3 pb T e' dv k x xa ge := (ho3.block pb (by simp [hs0]; omega) (fun e => e)).trans ((Below.heap_alloc _ _ _ (by omega)).trans (HP2.out.setAt e'))
  have hx3 : w3.heap[w2.heap.size]? = some (.cells #[.int .i64 k', .string x', .int .i64 j] 152 (0, 0)) := (ho3.block w2.heap.size (by simp [hs0]) (fun e => e)).trans (new_at2 hs0 _)
  have hb3 : w3.heap[w.heap.size]? = some (.cells #[.int .i64 0, .string ⟨#[]⟩, .int .i64 0] 152 (0, 0)) := (ho3.block w.heap.size (by simp [hs0]; omega) (fun e => e)).trans ((Below.heap_alloc _ _ _ (by omega)).trans ((Below.heap_setCell _ _ _ _ (fun e => hpn e.symm)).trans HB2.out))
  have s0 : w3.cell? ⟨w.heap.size, 0, none⟩ = some (.int .i64 0) := cell_of hb3 rfl
  have s1 : w3.cell? ⟨w.heap.size, 1, none⟩ = some (.string ⟨#[]⟩) := cell_of hb3 rfl
  have s2 : w3.cell? ⟨w.heap.size, 2, none⟩ = some (.int .i64 0) := cell_of hb3 rfl
  have sf := free_of hb3
  have t0 : w3.cell? ⟨w2.heap.size, 0, none⟩ = some (.int .i64 k') := cell_of hx3 rfl
  have t1 : w3.cell? ⟨w2.heap.size, 1, none⟩ = some (.string x') := cell_of hx3 rfl
  have t2 : w3.cell? ⟨w2.heap.size, 2, none⟩ = some (.int .i64 j) := cell_of hx3 rfl
  have u2 : w3.cell? ⟨pb, 2, none⟩ = some (.bool dv) := cell_of hp3 rfl
  have uf := free_of hp3
  have hpx : pb ≠ w2.heap.size := by omega
  have HP3 := hide hp3
  have HO3 : Hid (Only (fun k => k = pb) w w3) := ((HO2.out.setCell (p := ⟨pb, 1, none⟩) (fun _ => rfl) _).alloc _).trans ho3 (fun _ _ e => e.elim)
  clear ho3 hp3 hx3 hb3 hen q0 q1 q2 qf r1 r2 rf HO2 HP2 HB2
  go_wp2
  refine bodyPost_ret (v := .agg #[.int .i64 k', .string x', .int .i64 j]) (by simp [results, Tryz.results105, go_sem, s0, s1, s2]) rfl ⟨rfl, ?_, ?_⟩
  · show _ = _
    rw [Below.heap_setCell _ _ _ _ hpn, Below.heap_setCell _ _ _ _ hpn, Below.heap_setCell _ _ _ _ hpn]
    exact HP3.out.setDv d
  · exact (((HO3.out.setCell (p := ⟨pb, 2, none⟩) (fun _ => rfl) _).setCell (p := ⟨w.heap.size, 0, none⟩) (fun h => absurd h (Nat.lt_irrefl _)) _).setCell (p := ⟨w.heap.size, 1, none⟩) (fun h => absurd h (Nat.lt_irrefl _)) _).setCell (p := ⟨w.heap.size, 2, none⟩) (fun h => absurd h (Nat.lt_irrefl _)) _
theorem PSt.setNow {w pb T i dv k x xa ge} (h : PSt w pb T i dv k x xa ge) (k' : Nat) (x' : ByteArray) (j : Nat) : PSt (((w.setCell ⟨pb, 3, none⟩ (.int .i64 k')).setCell ⟨pb, 4, none⟩ (.string x')).setCell ⟨pb, 5, none⟩ (.int .i64 j)) pb T i dv k' x' j ge := heap_setCell_same (heap_setCell_same (heap_setCell_same h _) _) _
/-- A step of a parser: from one token to the next. -/
def GoesOn (pb : Nat) (T : ByteArray) (i : Nat) (dv : Bool) (i' : Nat) (k' : Nat) (x' : ByteArray) (j' : Nat) : Prop :=
  ∀ w k x xa ge, PSt w pb T i dv k x xa ge → Calls Tryz.prog 73 #[.pointer (some ⟨pb, 0, none⟩)] w fun en w' => en = .returned (.tuple #[]) ∧ PSt w' pb T i' (endsB k' x'.data.toList) k' x' j' ge ∧ Only (fun k => k = pb) w w'
set_option maxRecDepth 10000 in
set_option maxHeartbeats 8000000 in
theorem goOn_any (pb : Nat) (T : ByteArray) (i : Nat) (dv : Bool) (hi : i ≤ T.size) (h5 : T.size ≤ 65000) (hc : ∀ c, T.data.toList[runTo blankB T.data.toList i]? = some c → ((c.toNat : Int) == 35) = false)
    (k' : Nat) (x' : ByteArray) (e' : Nat) (hr : ReadsTo pb T (runTo blankB T.data.toList i) dv k' x' e') : GoesOn pb T i dv e' k' x' (runTo blankB T.data.toList i) := by
  intro w k x xa ge h
  have HN := hide (next_any pb T i dv k x xa ge hi h5 hc k' x' e' hr w h)
  obtain ⟨j, HJ⟩ : ∃ j, Hid (j = runTo blankB T.data.toList i) := ⟨_, rfl⟩
  rw [← HJ.out] at HN ⊢
  obtain ⟨d, HD⟩ : ∃ d, Hid (d = endsB k' x'.data.toList) := ⟨_, rfl⟩
  rw [← HD.out] at HN ⊢
  clear hr hc h
  go_enter Tryz.func73, Tryz.ntmps73
  go_wp2_with fail
  refine (HN.out).mono ?_
  rintro e w1 ⟨rfl, hp1, ho1⟩
  have r3 : w1.cell? ⟨pb, 3, none⟩ = some (.int .i64 k) := cell_of hp1 rfl
  have r4 : w1.cell? ⟨pb, 4, none⟩ = some (.string x) := cell_of hp1 rfl
  have r5 : w1.cell? ⟨pb, 5, none⟩ = some (.int .i64 xa) := cell_of hp1 rfl
  have rf := free_of hp1
  have HP1 := hide hp1
  have HO1 := hide ho1
  clear hp1 ho1 HN
  unfold tokV
  go_wp2
  go_end0
  exact ⟨rfl, HP1.out.setNow k' x' j, ((HO1.out.setCell (p := ⟨pb, 3, none⟩) (fun _ => rfl) _).setCell (p := ⟨pb, 4, none⟩) (fun _ => rfl) _).setCell (p := ⟨pb, 5, none⟩) (fun _ => rfl) _⟩
/-- Does the parser look at that word or sign? -/
def seesB (k : Nat) (x t : List UInt8) : Bool := (k == 7 || k == 9) && x == t
set_option maxRecDepth 10000 in
set_option maxHeartbeats 8000000 in
theorem psees_any (pb : Nat) (T : ByteArray) (i : Nat) (dv : Bool) (k : Nat) (x : ByteArray) (xa : Nat) (ge : Bool) (t : ByteArray) (w : World) (h : PSt w pb T i dv k x xa ge) :
    Calls Tryz.prog 137 #[.pointer (some ⟨pb, 0, none⟩), .string t] w fun en w' => en = .returned (.bool (seesB k x.data.toList t.data.toList)) ∧ w' = w := by
  obtain ⟨v, HV⟩ : ∃ v, Hid (v = seesB k x.toList t.toList) := ⟨_, rfl⟩
  rw [← ByteArray.toList_eq, ← ByteArray.toList_eq, ← HV.out]
  have r3 : w.cell? ⟨pb, 3, none⟩ = some (.int .i64 k) := cell_of h rfl
  have r4 : w.cell? ⟨pb, 4, none⟩ = some (.string x) := cell_of h rfl
  clear h
  by_cases hk : k = 7 ∨ k = 9
  · rcases hk with rfl | rfl
    all_goals
      go_enter Tryz.func137, Tryz.ntmps137
      go_wp2
      go_ret
      refine ⟨ret_bool ?_, rfl⟩
      rw [HV.out]
      unfold seesB
      simp
  · have d7 : ((k : Int) == 7) = false := by rw [beq_eq_false_iff_ne]; omega
    have d9 : ((k : Int) == 9) = false := by rw [beq_eq_false_iff_ne]; omega
    have hv : v = false := by
      rw [HV.out]
      unfold seesB
      rw [Bool.and_eq_false_iff]
      left
      rw [Bool.or_eq_false_iff, beq_eq_false_iff_ne, beq_eq_false_iff_ne]
      omega
    subst hv
    clear hk
    go_enter Tryz.func137, Tryz.ntmps137
    go_wp2
    go_ret
    exact ⟨rfl, rfl⟩
end Go.Proofs.YtdbdbaepmdmnfaaGreatDoor
