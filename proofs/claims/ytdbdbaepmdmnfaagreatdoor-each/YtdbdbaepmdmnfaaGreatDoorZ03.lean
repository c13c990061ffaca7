import Derived.Test.YtdbdbaepmdmnfaaGreatDoorZ02
import Derived.Test.YtdbdbaepmdmnfaaGreatDoorZ01
import Derived.Deep.LoopGhost
import Derived.Laws.BytesArg
namespace Go.Proofs.YtdbdbaepmdmnfaaGreatDoor
open Go.RowKit
/-- The states that a value of the program's type of patterns holds. -/
def PatAt (w : World) (v : Value) (Q : List St) : Prop := ∃ xs, w.ownsRow 0 125 7 v Q.length xs ∧ StCells Q xs
end Go.Proofs.YtdbdbaepmdmnfaaGreatDoor

namespace Go.Proofs.YtdbdbaepmdmnfaaGreatDoor
open Go.RowKit
/-- A reader that is the beginning of a parser's block. -/
def PSt (w : World) (pb : Nat) (T : ByteArray) (i : Nat) (dv : Bool) (k : Nat) (x : ByteArray) (xa : Nat) (ge : Bool) : Prop :=
  w.heap[pb]? = some (.cells #[.string T, .int .i64 i, .bool dv, .int .i64 k, .string x, .int .i64 xa, .bool ge] 154 (0, 0))
theorem PSt.tk {w pb T i dv k x xa ge} (h : PSt w pb T i dv k x xa ge) : TkAt w pb T i dv := ⟨cell_of h rfl, cell_of h rfl, cell_of h rfl⟩
theorem PSt.drewN {w pb T i dv k x xa ge} (h : PSt w pb T i dv k x xa ge) (n : Nat) : PSt (w.drewN n) pb T i dv k x xa ge := h
theorem PSt.setAt {w pb T i dv k x xa ge} (h : PSt w pb T i dv k x xa ge) (j : Nat) : PSt (w.setCell ⟨pb, 1, none⟩ (.int .i64 j)) pb T j dv k x xa ge := heap_setCell_same h _
theorem PSt.setDv {w pb T i dv k x xa ge} (h : PSt w pb T i dv k x xa ge) (d : Bool) : PSt (w.setCell ⟨pb, 2, none⟩ (.bool d)) pb T i d k x xa ge := heap_setCell_same h _
theorem PSt.only {w w' pb T i dv k x xa ge D} (h : PSt w pb T i dv k x xa ge) (ho : Only D w w') (hd : ¬ D pb) : PSt w' pb T i dv k x xa ge := (ho.block pb (heap_lt h) hd).trans h
set_option maxRecDepth 10000 in
set_option maxHeartbeats 8000000 in
theorem skip_all (pb : Nat) (T : ByteArray) (i : Nat) (dv : Bool) (k : Nat) (x : ByteArray) (xa : Nat) (ge : Bool) (hi : i ≤ T.size) (h5 : T.size ≤ 65000) (hc : ∀ c, T.data.toList[runTo blankB T.data.toList i]? = some c → ((c.toNat : Int) == 35) = false) (w : World) (h : PSt w pb T i dv k x xa ge) :
    Calls Tryz.prog 134 #[.pointer (some ⟨pb, 0, none⟩)] w fun en w' => en = .returned (.tuple #[]) ∧ PSt w' pb T (runTo blankB T.data.toList i) dv k x xa ge ∧ Only (fun k => k = pb) w w' := by
  obtain ⟨E, HE⟩ : ∃ E, Hid (E = runTo blankB T.data.toList i) := ⟨_, rfl⟩
  rw [← HE.out]
  rw [← HE.out] at hc
  have HC := hide hc
  have hEl : E ≤ T.size := by rw [HE.out]; have := runTo_le (p := blankB) (l := T.data.toList) (k := i) (by rw [len_eq]; exact hi); rw [len_eq] at this; exact this
  have HP := hide h
  clear h hc
  go_enter Tryz.func134, Tryz.ntmps134
  go_wp2
  go_loopg [2] (T.size + 1 - i) (fun g _ wr => ∃ j : Nat, g = T.size + 1 - j ∧ PSt wr pb T j dv k x xa ge ∧ Only (fun k => k = pb) w wr ∧ i ≤ j ∧ j ≤ E ∧ runTo blankB T.data.toList j = E)
  case atStart => exact ⟨i, rfl, HP.out, Only.refl _ _, Nat.le_refl _, by rw [HE.out]; exact runTo_ge _ _ _, HE.out.symm⟩
  case round =>
    obtain ⟨j, hg, hp, ho, hij, hjE, hrj⟩ := hrel
    have HG := hide hg
    have HPj := hide hp
    have HO := hide ho
    have HRj := hide hrj
    have c0 : wr.cell? ⟨pb, 0, none⟩ = some (.string T) := cell_of hp rfl
    have c1 : wr.cell? ⟨pb, 1, none⟩ = some (.int .i64 j) := cell_of hp rfl
    have cf := free_of hp
    clear hg hp ho hrj
    by_cases hlt : j < T.size
    · have hli : (j : Int) < (T.size : Int) := by omega
      have hget := get_of_lt T j hlt
      cases hb : blankB T[j]
      · have hjE2 : j = E := by
          rw [← HRj.out]
          exact (runTo_stop (fun c hc => by rw [hget] at hc; cases hc; exact hb)).symm
        have hne : ((T[j].toNat : Int) == 35) = false := by
          have := HC.out T[j]
          rw [← hjE2] at this
          exact this hget
        subst hjE2
        clear hget
        go_wp2_with fail
        go_quiet (first | (go_at_call 171; exact Calls.quiet_of (tended_no pb T j dv hlt _ HPj.out.tk)) | (go_at_call 51; exact Calls.quiet_of_same (by have := isBlank_any T[j]; rw [hb] at this; exact this _)))
        go_wp2
        go_end0
        exact ⟨rfl, HPj.out.drewN _, HO.out.drewN _⟩
      · have HR2 : Hid (runTo blankB T.data.toList (j + 1) = E) := by
          show _ = E
          rw [runTo_step hget hb]; exact HRj.out
        have hnn : ((T[j].toNat : Int) == 35) = false := by
          rw [beq_eq_false_iff_ne]
          intro e
          unfold blankB at hb
          rw [e] at hb
          simp at hb
        clear hget
        go_wp2_with fail
        go_quiet (first | (go_at_call 171; exact Calls.quiet_of (tended_no pb T j dv hlt _ HPj.out.tk)) | (go_at_call 51; exact Calls.quiet_of_same (by have := isBlank_any T[j]; rw [hb] at this; exact this _)))
        go_wp2
        go_quiet (fail)
        go_wp2
        go_roundg (T.size + 1 - (j + 1))
        case measure => rw [HG.out]; omega
        case rel => exact ⟨j + 1, rfl, HPj.out.setAt (j + 1), (HO.out.drewN _).setCell (p := ⟨pb, 1, none⟩) (fun _ => rfl) _, by omega, by have := runTo_ge blankB T.data.toList (j + 1); rw [HR2.out] at this; omega, HR2.out⟩
    · have hjs : j = T.size := by omega
      have hjE2 : j = E := by omega
      subst hjE2
      go_wp2_with fail
      go_quiet (first | (go_at_call 171; exact Calls.quiet_of (tended_yes pb T j dv hjs _ HPj.out.tk)))
      go_wp2
      go_end0
      exact ⟨rfl, HPj.out.drewN _, HO.out.drewN _⟩
end Go.Proofs.YtdbdbaepmdmnfaaGreatDoor

namespace Go.Proofs.YtdbdbaepmdmnfaaGreatDoor
/-- The bytes from place a up to place b. -/
def cutL (l : List UInt8) (a b : Nat) : List UInt8 := (l.drop a).take (b - a)
theorem cutL_same (l : List UInt8) (a : Nat) : cutL l a a = [] := by simp [cutL]
theorem cutL_snoc {l : List UInt8} {a b : Nat} {c : UInt8} (hab : a ≤ b) (h : l[b]? = some c) : cutL l a (b + 1) = cutL l a b ++ [c] := by
  unfold cutL
  rw [show b + 1 - a = (b - a) + 1 by omega, List.take_add_one, List.getElem?_drop, show a + (b - a) = b by omega, h]
  rfl
theorem cutL_nil {l : List UInt8} {a b : Nat} (hb : b ≤ l.length) : cutL l a b = [] ↔ b ≤ a := by
  unfold cutL
  rw [← List.length_eq_zero_iff, List.length_take, List.length_drop]
  omega
theorem drop_at {l : List UInt8} {k : Nat} {c : UInt8} (h : l[k]? = some c) : l.drop k = c :: l.drop (k + 1) := by
  obtain ⟨hk, e⟩ := List.getElem?_eq_some_iff.1 h
  rw [List.drop_eq_getElem_cons hk, e]
/-- The words of a text: cur is what was read of the one that is open. -/
def words : List UInt8 → List UInt8 → List (List UInt8)
  | cur, [] => if cur = [] then [] else [cur]
  | cur, c :: l => if blankB c then (if cur = [] then words [] l else cur :: words [] l) else words (cur ++ [c]) l
/-- The pieces between the bytes that are s. -/
def splitB (s : UInt8) : List UInt8 → List UInt8 → List (List UInt8)
  | cur, [] => [cur]
  | cur, c :: l => if c = s then cur :: splitB s [] l else splitB s (cur ++ [c]) l
def eachB (l : List UInt8) : List (List UInt8) := l.map (fun c => [c])
/-- The pieces between the matches that are not empty; len k: how long the longest match at place k is. -/
def patCut (l : List UInt8) (len : Nat → Nat) : Nat → Nat → Nat → List (List UInt8)
  | 0, frm, _ => [cutL l frm l.length]
  | f + 1, frm, i => if l.length ≤ i then [cutL l frm l.length] else if 0 < len i then cutL l frm i :: patCut l len f (i + len i) (i + len i) else patCut l len f frm (i + 1)
def patC (l : List UInt8) (len : Nat → Nat) (frm i : Nat) : List (List UInt8) := patCut l len (l.length - i) frm i
/-- How words go on at a place. -/
theorem words_blank {l : List UInt8} {a k : Nat} {c : UInt8} (hk : l[k]? = some c) (hc : blankB c = true) : words (cutL l a k) (l.drop k) = (if k ≤ a then [] else [cutL l a k]) ++ words [] (l.drop (k + 1)) := by
  have hkl := (List.getElem?_eq_some_iff.1 hk).1
  rw [drop_at hk, words, if_pos hc]
  by_cases h : k ≤ a
  · rw [if_pos ((cutL_nil (by omega)).2 h), if_pos h]; rfl
  · rw [if_neg (fun e => h ((cutL_nil (by omega)).1 e)), if_neg h]; rfl
theorem words_in {l : List UInt8} {a k : Nat} {c : UInt8} (hak : a ≤ k) (hk : l[k]? = some c) (hc : blankB c = false) : words (cutL l a k) (l.drop k) = words (cutL l a (k + 1)) (l.drop (k + 1)) := by
  rw [drop_at hk, words, cutL_snoc hak hk, hc]; rfl
theorem words_end {l : List UInt8} {a : Nat} : words (cutL l a l.length) (l.drop l.length) = if l.length ≤ a then [] else [cutL l a l.length] := by
  rw [List.drop_length, words]
  by_cases h : l.length ≤ a
  · rw [if_pos ((cutL_nil (Nat.le_refl _)).2 h), if_pos h]
  · rw [if_neg (fun e => h ((cutL_nil (Nat.le_refl _)).1 e)), if_neg h]
/-- How long the longest match at place k is; 0: there is none, or it is empty. -/
def LenR (R : Pat) (t : List UInt8) (k m : Nat) : Prop := k + m ≤ t.length ∧ (0 < m → R t k (k + m)) ∧ ∀ e, k < e → e ≤ t.length → R t k e → e ≤ k + m
/-- A function that tells how long the longest match at each place is. -/
def IsLen (R : Pat) (t : List UInt8) (len : Nat → Nat) : Prop := ∀ k, k ≤ t.length → LenR R t k (len k)
theorem IsLen.le {R : Pat} {t : List UInt8} {len : Nat → Nat} (hL : IsLen R t len) (k : Nat) (hk : k ≤ t.length) : k + len k ≤ t.length := (hL k hk).1
/-- The pieces of a text between the matches of a pattern. -/
def patPieces (len : Nat → Nat) (t : List UInt8) : List (List UInt8) := if t = [] then [] else patC t len 0 0
/-- What Split answers: the pieces and the number of the error. -/
def SplitIs (t p : List UInt8) (L : List (List UInt8)) (n : Nat) : Prop :=
  (500 < t.length ∨ 500 < p.length → L = [] ∧ n = 1) ∧
  (¬ (500 < t.length ∨ 500 < p.length) →
    (p = [32] → L = words [] t ∧ n = 0) ∧ (p = [] → L = eachB t ∧ n = 0) ∧ (∀ c, p = [c] → c ≠ 32 → L = (if t = [] then [] else splitB c [] t) ∧ n = 0) ∧
    (2 ≤ p.length → (wholeP p = none → L = [] ∧ n = 7) ∧ ∀ R, wholeP p = some R → (∃ len, IsLen R t len ∧ L = patPieces len t) ∧ n = 0))
/-- A piece as a text. -/
def ofB (l : List UInt8) : ByteArray := ⟨l.toArray⟩
def strsV (L : List (List UInt8)) : List Go.Value := L.map (fun l => Go.Value.string (ofB l))
theorem strsV_snoc (L : List (List UInt8)) (l : List UInt8) : strsV (L ++ [l]) = strsV L ++ [.string (ofB l)] := by simp [strsV]
theorem extract_cut (s : ByteArray) (a b : Nat) : s.extract a b = ofB (cutL s.data.toList a b) := by
  apply ByteArray.ext
  rw [ByteArray.data_extract]
  apply Array.toList_inj.1
  rw [Array.toList_extract, List.extract_eq_take_drop]
  rfl
theorem words_len (cur l : List UInt8) : (words cur l).length ≤ l.length + 1 := by
  induction l generalizing cur with
  | nil => unfold words; split <;> simp
  | cons c l ih =>
    unfold words
    split
    · split
      · have := ih []; simp only [List.length_cons]; omega
      · have := ih []; simp only [List.length_cons]; omega
    · have := ih (cur ++ [c]); simp only [List.length_cons]; omega
theorem splitB_len (s : UInt8) (cur l : List UInt8) : (splitB s cur l).length ≤ l.length + 1 := by
  induction l generalizing cur with
  | nil => simp [splitB]
  | cons c l ih =>
    unfold splitB
    split
    · have := ih []; simp only [List.length_cons]; omega
    · have := ih (cur ++ [c]); simp only [List.length_cons]; omega
theorem patCut_len (l : List UInt8) (len : Nat → Nat) (f frm i : Nat) : (patCut l len f frm i).length ≤ f + 1 := by
  induction f generalizing frm i with
  | zero => simp [patCut]
  | succ f ih =>
    unfold patCut
    split
    · simp
    · split
      · have := ih (i + len i) (i + len i); simp only [List.length_cons]; omega
      · have := ih frm (i + 1); omega
theorem SplitIs.len {t p : List UInt8} {L : List (List UInt8)} {n : Nat} (h : SplitIs t p L n) : L.length ≤ 501 := by
  by_cases hl : 500 < t.length ∨ 500 < p.length
  · rw [(h.1 hl).1]; simp
  · obtain ⟨a1, a2, a3, a4⟩ := h.2 hl
    match p with
    | [] => rw [(a2 rfl).1]; simp [eachB]; omega
    | [c] =>
      by_cases hc : c = 32
      · subst hc; rw [(a1 rfl).1]; have := words_len [] t; omega
      · rw [(a3 c rfl hc).1]
        split
        · simp
        · have := splitB_len c [] t; omega
    | a :: b :: r =>
      obtain ⟨a5, a6⟩ := a4 (by simp)
      cases hw : wholeP (a :: b :: r) with
      | none => rw [(a5 hw).1]; simp
      | some R =>
        obtain ⟨⟨len, _, rfl⟩, _⟩ := a6 R hw
        unfold patPieces
        split
        · simp
        · have := patCut_len t len (t.length - 0) 0 0; unfold patC; omega
end Go.Proofs.YtdbdbaepmdmnfaaGreatDoor

namespace Go.Proofs.YtdbdbaepmdmnfaaGreatDoor
open Go.RowKit
def byV (c : UInt8) : Value := .int .u8 c.toNat
theorem info5t : (Tryz.prog.info? 5).map (fun i => (i.zero, i.size, i.bytes)) = some (some (.int .u8 0), 1, 1) := by kernel_rfl
/-- A row of bytes, as a text. -/
theorem bytes_conv {w : World} {B : Nat} {v : Value} {M : List UInt8} (h : w.ownsRow B 5 1 v M.length (M.map byV)) : (convert 54 9 v).run Tryz.prog w = .ok (.string (ofB M)) w := by
  rcases h.2 with ⟨rfl, hn⟩ | ⟨g, cp, cur, rfl, hg, hh, _, _, hsz, htk⟩
  · have : M = [] := List.eq_nil_of_length_eq_zero hn
    subst this
    exact run_convert_bytes_nil w 54 5 Tryz.underlying54 Tryz.underlying5 _ _ 9 Tryz.underlying9
  · rw [run_convert_bytes_arg w 54 5 Tryz.underlying54 Tryz.underlying5 g 0 M.length cp (M.map fun b => (b.toNat : Int)) (by simp) ?_ 9 Tryz.underlying9]
    · congr 2
      unfold strOfNums ofB
      simp [Function.comp_def]
    · intro i hi
      have h1 : cur[i]? = some (.int .u8 ((M.map fun b => (b.toNat : Int)).getD i 0)) := by
        have h2 : (cur.toList.take (M.length * 1))[i]? = (M.map byV)[i]? := by rw [htk]
        rw [List.getElem?_take_of_lt (by omega), Array.getElem?_toList, List.getElem?_map, List.getElem?_eq_getElem hi] at h2
        rw [h2, List.getD_eq_getElem?_getD, List.getElem?_map, List.getElem?_eq_getElem hi]; rfl
      simp [World.cell?, hh, h1]
theorem news_one' (W : World) (x : Value) (t : TypeId) : ∀ j u, [x][j]? = some u → (W.alloc (.cells #[x] t)).cell? ((⟨W.heap.size, 0, none⟩ : Addr).add j) = some u := by
  intro j u hj
  match j, hj with
  | 0, hj => simp at hj; subst hj; simp [Addr.add]
  | (j + 1), hj => simp at hj
set_option maxRecDepth 10000 in
set_option maxHeartbeats 8000000 in
/-- A string without a backslash. -/
theorem quoted_plain (b : Nat) (T : ByteArray) (i : Nat) (dv : Bool) (q : Nat) (hiq : i < q) (hq : q < T.size) (h5 : T.size ≤ 65000) (hqc : isAt T.data.toList q 34 = true) (hbw : ∀ j, i + 1 ≤ j → j < q → ∀ c, T.data.toList[j]? = some c → ((c.toNat : Int) == 34) = false ∧ ((c.toNat : Int) == 10) = false ∧ ((c.toNat : Int) == 92) = false) (w : World) (h : TkAt w b T i dv) :
    Calls Tryz.prog 177 #[.pointer (some ⟨b, 0, none⟩)] w fun en w' => en = .returned (.tuple #[tokV 3 (ofB (cutL T.data.toList (i + 1) q)) i, .int .i64 ((q + 1 : Nat) : Int)]) ∧ Only (fun _ => False) w w' := by
  obtain ⟨i0, hi0, hz0, hz1, hz2⟩ := info_parts info5t
  have hl := h.lt
  have HT := hide h
  obtain ⟨c0, c1, c2⟩ := h
  have HB := hide hbw
  have hq1 : ((T[q].toNat : Int) == 34) = true := by rw [isAt_lt T q _ hq] at hqc; exact hqc
  obtain ⟨X, HX⟩ : ∃ X, Hid (X = ofB (cutL T.data.toList (i + 1) q)) := ⟨_, rfl⟩
  rw [← HX.out]
  unfold tokV
  clear hqc hbw
  go_enter Tryz.func177, Tryz.ntmps177
  go_wp2
  go_loopw [4, 5] (fun s4 s5 wr => ∃ k : Nat, s5 = .int .i64 k ∧ i + 1 ≤ k ∧ k ≤ q ∧ wr.ownsRow (w.heap.size + 1) 5 1 s4 (cutL T.data.toList (i + 1) k).length ((cutL T.data.toList (i + 1) k).map byV) ∧ Only (fun _ => False) (w.alloc (.cells #[.int .i64 0, .string ⟨#[]⟩, .int .i64 0] 152)) wr) (fun _ s5 _ => T.size - (intOf s5).toNat)
  case atStart => exact ⟨i + 1, by go_num, Nat.le_refl _, by omega, by rw [cutL_same]; exact World.ownsRow_nil _ _ _ _, Only.refl _ _⟩
  case round =>
    obtain ⟨k, rfl, hik, hkq, hown, ho⟩ := hrel
    have hcl : (cutL T.data.toList (i + 1) k).length ≤ 65000 := by
      unfold cutL; rw [List.length_take]; omega
    have hzw : w.heap.size + 1 ≤ wr.heap.size := by have := ho.size; simpa using this
    obtain ⟨b0, b1, b2⟩ := (HT.out.alloc hl (.cells #[.int .i64 0, .string ⟨#[]⟩, .int .i64 0] 152)).only ho (fun e => e)
    obtain ⟨HO1, q0, q1, q2, qf⟩ := tokbox (n := 0) ho
    have HOw := hide hown
    have HO := hide ho
    have hli : (k : Int) < (T.size : Int) := by omega
    by_cases hlt : k < q
    · have hget := get_of_lt T k (by omega)
      obtain ⟨d1, d2, d3⟩ := HB.out k hik hlt T[k] hget
      have HS := hide (cutL_snoc (a := i + 1) hik hget)
      clear hown ho hget
      go_wp2_with (at_builtin; refine wpList_append_own _ rfl (.tmp 62) (.tmp 64) 54 rfl (w.heap.size + 1) 5 i0 (.int .u8 0) 1 1 Tryz.underlying54 hi0 hz0 hz1 hz2 rfl (by decide) _ _ _ rfl (HOw.out.alloc _) _ 1 1 [.int .u8 T[k].toNat] rfl rfl (news_one' _ _ _) (fun u hu => by simp at hu; subst hu; rfl) (by unfold maxLen; omega) (by omega) (by simp; omega) ?_; intro v' w3 hown' hgrow _)
      have R1 : Hid (w3.ownsRow (w.heap.size + 1) 5 1 v' (cutL T.data.toList (i + 1) (k + 1)).length ((cutL T.data.toList (i + 1) (k + 1)).map byV)) := by
        show World.ownsRow _ _ _ _ _ _ _
        rw [HS.out, List.length_append, List.map_append]
        exact hown'
      have R2 : Hid (Only (fun _ => False) (w.alloc (.cells #[.int .i64 0, .string ⟨#[]⟩, .int .i64 0] 152)) w3) := (HO.out.alloc _).grown hgrow (fun k hk hlt => by have := (HOw.out.lt k hk).1; simp at hlt; omega)
      clear hown' hgrow
      go_wp2
      go_roundw
      case rel => exact ⟨k + 1, by go_num, by omega, by omega, R1.out, R2.out⟩
      case measure => simp [intOf]; omega
    · obtain rfl : k = q := by omega
      have kc := bytes_conv (w := wr.drew) (show wr.drew.ownsRow _ _ _ _ _ _ from hown)
      rw [← HX.out] at kc
      clear hown ho
      go_wp2
      go_region
      all_goals
        go_wp2
        refine bodyPost_ret (v := .tuple #[.agg #[.int .i64 3, .string X, .int .i64 i], .int .i64 ((k : Int) + 1)]) (by simp [results, Tryz.results177, go_sem, q0, q1, q2]) rfl ⟨rfl, ?_⟩
        exact (tokset HO1.out _ _ _).drewN 1
end Go.Proofs.YtdbdbaepmdmnfaaGreatDoor

namespace Go.Proofs.YtdbdbaepmdmnfaaGreatDoor
open Go.RowKit
/-- Does a slash behind the token divide? -/
def endsB (k : Nat) (x : List UInt8) : Bool := k == 2 || k == 3 || k == 4 || k == 5 || (k == 9 && (x == [41] || x == [93]))
set_option maxRecDepth 10000 in
set_option maxHeartbeats 8000000 in
theorem ends_any (k : Nat) (x : ByteArray) (i : Nat) (w : World) : Calls Tryz.prog 136 #[tokV k x i] w fun e w' => e = .returned (.bool (endsB k x.data.toList)) ∧ Only (fun _ => False) w w' := by
  obtain ⟨v, HV⟩ : ∃ v, Hid (v = endsB k x.toList) := ⟨_, rfl⟩
  rw [← ByteArray.toList_eq, ← HV.out]
  unfold tokV
  by_cases hk : k = 2 ∨ k = 3 ∨ k = 4 ∨ k = 5 ∨ k = 9
  · rcases hk with rfl | rfl | rfl | rfl | rfl
    all_goals
      go_enter Tryz.func136, Tryz.ntmps136
      go_wp2
      all_goals
        go_ret
        refine ⟨ret_bool ?_, (Only.refl _ w).alloc _⟩
        rw [HV.out]
        unfold endsB
        first | (simp [*]; done) | simp_all
  · have d2 : ((k : Int) == 2) = false := by rw [beq_eq_false_iff_ne]; omega
    have d3 : ((k : Int) == 3) = false := by rw [beq_eq_false_iff_ne]; omega
    have d4 : ((k : Int) == 4) = false := by rw [beq_eq_false_iff_ne]; omega
    have d5 : ((k : Int) == 5) = false := by rw [beq_eq_false_iff_ne]; omega
    have d9 : ((k : Int) == 9) = false := by rw [beq_eq_false_iff_ne]; omega
    have hv : v = false := by
      rw [HV.out]
      unfold endsB
      simp only [Bool.or_eq_false_iff, Bool.and_eq_false_iff, beq_eq_false_iff_ne]
      refine ⟨⟨⟨⟨?_, ?_⟩, ?_⟩, ?_⟩, Or.inl ?_⟩ <;> omega
    subst hv
    clear hk
    go_enter Tryz.func136, Tryz.ntmps136
    go_wp2
    go_ret
    exact ⟨rfl, (Only.refl _ w).alloc _⟩
/-- What reading a token at a place answers. -/
def ReadsTo (pb : Nat) (T : ByteArray) (i : Nat) (dv : Bool) (k : Nat) (x : ByteArray) (e : Nat) : Prop :=
  ∀ w, TkAt w pb T i dv → Calls Tryz.prog 135 #[.pointer (some ⟨pb, 0, none⟩)] w fun en w' => en = .returned (.tuple #[tokV k x i, .int .i64 e]) ∧ Only (fun _ => False) w w'
set_option maxRecDepth 10000 in
set_option maxHeartbeats 8000000 in
theorem read_end (pb : Nat) (T : ByteArray) (dv : Bool) : ReadsTo pb T T.size dv 1 ⟨#[]⟩ T.size := by
  intro w h
  have hl := h.lt
  have HT := hide h
  obtain ⟨c0, c1, c2⟩ := h
  unfold tokV
  go_enter Tryz.func135, Tryz.ntmps135
  go_wp2_with (go_at_call 171; refine (tended_yes pb T T.size dv rfl _ (HT.out.alloc hl _)).mono ?_; rintro e w' ⟨rfl, n, rfl⟩)
  go_region
  all_goals
    go_wp2
    refine bodyPost_ret (v := .tuple #[.agg #[.int .i64 1, .string ⟨#[]⟩, .int .i64 T.size], .int .i64 T.size]) (by simp [results, Tryz.results135, go_sem]) rfl ⟨rfl, ?_⟩
    exact tokset (((Only.refl _ w).alloc _).drewN _) _ _ _
set_option maxRecDepth 10000 in
set_option maxHeartbeats 8000000 in
theorem read_name (pb : Nat) (T : ByteArray) (i : Nat) (dv : Bool) (k : Nat) (x : ByteArray) (e : Nat) (hi : i < T.size) (hdg : digB T[i] = false) (hlt : letB T[i] = true)
    (hsub : ∀ w, TkAt w pb T i dv → Calls Tryz.prog 176 #[.pointer (some ⟨pb, 0, none⟩)] w fun en w' => en = .returned (.tuple #[tokV k x i, .int .i64 e]) ∧ Only (fun _ => False) w w') : ReadsTo pb T i dv k x e := by
  intro w h
  have hl := h.lt
  have HT := hide h
  have HSub := hide hsub
  obtain ⟨c0, c1, c2⟩ := h
  have hli : (i : Int) < (T.size : Int) := by omega
  clear hsub
  unfold tokV
  go_enter Tryz.func135, Tryz.ntmps135
  go_wp2_with (go_at_call 171; refine (tended_no pb T i _ hi _ (HT.out.alloc hl _)).mono ?_; rintro e w' ⟨rfl, n, rfl⟩)
  go_quiet (fail)
  go_wp2_with (first | (go_at_call 173; refine (tdigit_any _ _).mono ?_; rintro e w' ⟨rfl, rfl⟩; rw [hdg]) | (go_at_call 175; refine (tletter_any _ _).mono ?_; rintro e w' ⟨rfl, rfl⟩; rw [hlt]) | (go_at_call 176; refine (HSub.out _ ((HT.out.alloc hl _).drewN _)).mono ?_; rintro e w1 ⟨rfl, ho1⟩; obtain ⟨HO1, q0, q1, q2, qf⟩ := tokbox ho1; clear ho1; unfold tokV))
  exact bodyPost_ret (v := .tuple #[.agg #[.int .i64 k, .string x, .int .i64 i], .int .i64 e]) (by simp [results, Tryz.results135, go_sem, q0, q1, q2]) rfl ⟨rfl, tokset HO1.out _ _ _⟩
set_option maxRecDepth 10000 in
set_option maxHeartbeats 8000000 in
theorem read_string (pb : Nat) (T : ByteArray) (i : Nat) (dv : Bool) (k : Nat) (x : ByteArray) (e : Nat) (hi : i < T.size) (hdg : digB T[i] = false) (hlt : letB T[i] = false) (hqt : ((T[i].toNat : Int) == 34) = true)
    (hsub : ∀ w, TkAt w pb T i dv → Calls Tryz.prog 177 #[.pointer (some ⟨pb, 0, none⟩)] w fun en w' => en = .returned (.tuple #[tokV k x i, .int .i64 e]) ∧ Only (fun _ => False) w w') : ReadsTo pb T i dv k x e := by
  intro w h
  have hl := h.lt
  have HT := hide h
  have HSub := hide hsub
  obtain ⟨c0, c1, c2⟩ := h
  have hli : (i : Int) < (T.size : Int) := by omega
  clear hsub
  unfold tokV
  go_enter Tryz.func135, Tryz.ntmps135
  go_wp2_with (go_at_call 171; refine (tended_no pb T i _ hi _ (HT.out.alloc hl _)).mono ?_; rintro e w' ⟨rfl, n, rfl⟩)
  go_quiet (fail)
  go_wp2_with (first | (go_at_call 173; refine (tdigit_any _ _).mono ?_; rintro e w' ⟨rfl, rfl⟩; rw [hdg]) | (go_at_call 175; refine (tletter_any _ _).mono ?_; rintro e w' ⟨rfl, rfl⟩; rw [hlt]) | (go_at_call 177; refine (HSub.out _ ((HT.out.alloc hl _).drewN _)).mono ?_; rintro e w1 ⟨rfl, ho1⟩; obtain ⟨HO1, q0, q1, q2, qf⟩ := tokbox ho1; clear ho1; unfold tokV))
  exact bodyPost_ret (v := .tuple #[.agg #[.int .i64 k, .string x, .int .i64 i], .int .i64 e]) (by simp [results, Tryz.results135, go_sem, q0, q1, q2]) rfl ⟨rfl, tokset HO1.out _ _ _⟩
set_option maxRecDepth 10000 in
set_option maxHeartbeats 8000000 in
theorem read_sign (pb : Nat) (T : ByteArray) (i : Nat) (dv : Bool) (k : Nat) (x : ByteArray) (e : Nat) (hi : i < T.size) (hdg : digB T[i] = false) (hlt : letB T[i] = false) (hqt : ((T[i].toNat : Int) == 34) = false) (hsl : ((T[i].toNat : Int) == 47) = false)
    (hsub : ∀ w, TkAt w pb T i dv → Calls Tryz.prog 179 #[.pointer (some ⟨pb, 0, none⟩)] w fun en w' => en = .returned (.tuple #[tokV k x i, .int .i64 e]) ∧ Only (fun _ => False) w w') : ReadsTo pb T i dv k x e := by
  intro w h
  have hl := h.lt
  have HT := hide h
  have HSub := hide hsub
  obtain ⟨c0, c1, c2⟩ := h
  have hli : (i : Int) < (T.size : Int) := by omega
  clear hsub
  unfold tokV
  go_enter Tryz.func135, Tryz.ntmps135
  go_wp2_with (go_at_call 171; refine (tended_no pb T i _ hi _ (HT.out.alloc hl _)).mono ?_; rintro e w' ⟨rfl, n, rfl⟩)
  go_quiet (fail)
  go_wp2_with (first | (go_at_call 173; refine (tdigit_any _ _).mono ?_; rintro e w' ⟨rfl, rfl⟩; rw [hdg]) | (go_at_call 175; refine (tletter_any _ _).mono ?_; rintro e w' ⟨rfl, rfl⟩; rw [hlt]) | (go_at_call 179; refine (HSub.out _ ((HT.out.alloc hl _).drewN _)).mono ?_; rintro e w1 ⟨rfl, ho1⟩; obtain ⟨HO1, q0, q1, q2, qf⟩ := tokbox ho1; clear ho1; unfold tokV))
  exact bodyPost_ret (v := .tuple #[.agg #[.int .i64 k, .string x, .int .i64 i], .int .i64 e]) (by simp [results, Tryz.results135, go_sem, q0, q1, q2]) rfl ⟨rfl, tokset HO1.out _ _ _⟩
end Go.Proofs.YtdbdbaepmdmnfaaGreatDoor

namespace Go.Proofs.YtdbdbaepmdmnfaaGreatDoor
open Go.RowKit
theorem new_at2 {W : World} {n : Nat} (h : W.heap.size = n) (o : Obj) : (W.alloc o).heap[n]? = some o := by subst h; exact heap_alloc_new W o
set_option maxRecDepth 10000 in
set_option maxHeartbeats 8000000 in
theorem next_any (pb : Nat) (T : ByteArray) (i : Nat) (dv : Bool) (k : Nat) (x : ByteArray) (xa : Nat) (ge : Bool) (hi : i ≤ T.size) (h5 : T.size ≤ 65000) (hc : ∀ c, T.data.toList[runTo blankB T.data.toList i]? = some c → ((c.toNat : Int) == 35) = false)
    (k' : Nat) (x' : ByteArray) (e' : Nat) (hr : ReadsTo pb T (runTo blankB T.data.toList i) dv k' x' e') (w : World) (h : PSt w pb T i dv k x xa ge) :
    Calls Tryz.prog 105 #[.pointer (some ⟨pb, 0, none⟩)] w fun en w' => en = .returned (tokV k' x' (runTo blankB T.data.toList i)) ∧ PSt w' pb T e' (endsB k' x'.data.toList) k x xa ge ∧ Only (fun k => k = pb) w w' := by
  have hl := heap_lt h
  have HSk : ∀ o, Hid (Calls Tryz.prog 134 #[.pointer (some ⟨pb, 0, none⟩)] (w.alloc o) fun en w' => en = .returned (.tuple #[]) ∧ PSt w' pb T (runTo blankB T.data.toList i) dv k x xa ge ∧ Only (fun k => k = pb) (w.alloc o) w') := fun o => skip_all pb T i dv k x xa ge hi h5 hc (w.alloc o) ((Below.heap_alloc _ _ _ hl).trans h)
  obtain ⟨j, HJ⟩ : ∃ j, Hid (j = runTo blankB T.data.toList i) := ⟨_, rfl⟩
  rw [← HJ.out]
  rw [← HJ.out] at hr
  obtain ⟨d, HD⟩ : ∃ d, Hid (d = endsB k' x'.data.toList) := ⟨_, rfl⟩
  rw [← HD.out]
  have HR := hide hr
  clear hr hc h
  unfold tokV
  go_enter Tryz.func105, Tryz.ntmps105
  go_wp2_with fail
  refine ((HSk _).out).mono ?_
  rintro e w1 ⟨rfl, hp1, ho1⟩
  rw [← HJ.out] at hp1
  have hz1 : w.heap.size + 1 ≤ w1.heap.size := by have := ho1.size; simpa using this
  have hb1 := (ho1.block w.heap.size (by simp) (by intro e; omega)).trans (new0 w (.cells #[.int .i64 0, .string ⟨#[]⟩, .int .i64 0] 152))
  have HP1 := hide hp1
  have HB1 := hide hb1
  have HO1 : Hid (Only (fun k => k = pb) w w1) := ((Only.refl _ w).alloc _).trans ho1 (fun _ _ e => e)
  clear hp1 ho1 hb1 HSk
  go_wp2_with fail
  refine (HR.out w1 HP1.out.tk).mono ?_
  rintro e w2 ⟨rfl, ho2⟩
  have hz2 := ho2.size
  have hb2 := (ho2.block w.heap.size (by omega) (fun e => e)).trans HB1.out
  have hp2 := HP1.out.only ho2 (fun e => e)
  have q0 : w2.cell? ⟨w.heap.size, 0, none⟩ = some (.int .i64 0) := cell_of hb2 rfl
  have q1 : w2.cell? ⟨w.heap.size, 1, none⟩ = some (.string ⟨#[]⟩) := cell_of hb2 rfl
  have q2 : w2.cell? ⟨w.heap.size, 2, none⟩ = some (.int .i64 0) := cell_of hb2 rfl
  have qf := free_of hb2
  have r1 : w2.cell? ⟨pb, 1, none⟩ = some (.int .i64 j) := cell_of hp2 rfl
  have r2 : w2.cell? ⟨pb, 2, none⟩ = some (.bool dv) := cell_of hp2 rfl
  have rf := free_of hp2
  have hpn : pb ≠ w.heap.size := by omega
  have HP2 := hide hp2
  have HB2 := hide hb2
  have HO2 : Hid (Only (fun k => k = pb) w w2) := HO1.out.trans ho2 (fun _ _ e => e.elim)
  have hl2 : pb < w2.heap.size := by omega
  have hl3 : w.heap.size < w2.heap.size := by omega
  clear ho2 hb2 hp2 HO1 HP1 HB1
  unfold tokV
  go_wp2_with fail
  have hen := ends_any k' x' j ((w2.setCell ⟨pb, 1, none⟩ (.int .i64 e')).alloc (.cells #[.int .i64 k', .string x', .int .i64 j] 152))
  unfold tokV at hen
  rw [← HD.out] at hen
  refine hen.mono ?_
  rintro e w3 ⟨rfl, ho3⟩
  have hz3 := ho3.size
  have hs0 : (w2.setCell ⟨pb, 1, none⟩ (.int .i64 e')).heap.size = w2.heap.size := by simp [World.setCell]
  have hp3 : PSt w3 pb T e' dv k x xa ge := (ho3.block pb (by simp [hs0]; omega) (fun e => e)).trans ((Below.heap_alloc _ _ _ (by omega)).trans (HP2.out.setAt e'))
  have hx3 : w3.heap[w2.heap.size]? = some (.cells #[.int .i64 k', .string x', .int .i64 j] 152 (0, 0)) := (ho3.block w2.heap.size (by simp [hs0]) (fun e => e)).trans (new_at2 hs0 _)
  have hb3 : w3.heap[w.heap.size]? = some (.cells #[.int .i64 0, .string ⟨#[]⟩, .int .i64 0] 152 (0, 0)) := (ho3.block w.heap.size (by simp [hs0]; omega) (fun e => e)).trans ((Below.heap_alloc _ _ _ (by omega)).trans ((Below.heap_setCell _ _ _ _ (fun e => hpn e.symm)).trans HB2.out))
  have s0 : w3.cell? ⟨w.heap.size, 0, none⟩ = some (.int .i64 0) := cell_of hb3 rfl
  have s1 : w3.cell? ⟨w.heap.size, 1, none⟩ = some (.string ⟨#[]⟩) := cell_of hb3 rfl
  have s2 : w3.cell? ⟨w.heap.size, 2, none⟩ = some (.int .i64 0) := cell_of hb3 rfl
  have sf := free_of hb3
  have t0 : w3.cell? ⟨w2.heap.size, 0, none⟩ = some (.int .i64 k') := cell_of hx3 rfl
  have t1 : w3.cell? ⟨w2.heap.size, 1, none⟩ = some (.string x') := cell_of hx3 rfl
  have t2 : w3.cell? ⟨w2.heap.size, 2, none⟩ = some (.int .i64 j) := cell_of hx3 rfl
  have u2 : w3.cell? ⟨pb, 2, none⟩ = some (.bool dv) := cell_of hp3 rfl
  have uf := free_of hp3
  have hpx : pb ≠ w2.heap.size := by omega
  have HP3 := hide hp3
  have HO3 : Hid (Only (fun k => k = pb) w w3) := ((HO2.out.setCell (p := ⟨pb, 1, none⟩) (fun _ => rfl) _).alloc _).trans ho3 (fun _ _ e => e.elim)
  clear ho3 hp3 hx3 hb3 hen q0 q1 q2 qf r1 r2 rf HO2 HP2 HB2
  go_wp2
  refine bodyPost_ret (v := .agg #[.int .i64 k', .string x', .int .i64 j]) (by simp [results, Tryz.results105, go_sem, s0, s1, s2]) rfl ⟨rfl, ?_, ?_⟩
  · show _ = _
    rw [Below.heap_setCell _ _ _ _ hpn, Below.heap_setCell _ _ _ _ hpn, Below.heap_setCell _ _ _ _ hpn]
    exact HP3.out.setDv d
  · exact (((HO3.out.setCell (p := ⟨pb, 2, none⟩) (fun _ => rfl) _).setCell (p := ⟨w.heap.size, 0, none⟩) (fun h => absurd h (Nat.lt_irrefl _)) _).setCell (p := ⟨w.heap.size, 1, none⟩) (fun h => absurd h (Nat.lt_irrefl _)) _).setCell (p := ⟨w.heap.size, 2, none⟩) (fun h => absurd h (Nat.lt_irrefl _)) _
theorem PSt.setNow {w pb T i dv k x xa ge} (h : PSt w pb T i dv k x xa ge) (k' : Nat) (x' : ByteArray) (j : Nat) : PSt (((w.setCell ⟨pb, 3, none⟩ (.int .i64 k')).setCell ⟨pb, 4, none⟩ (.string x')).setCell ⟨pb, 5, none⟩ (.int .i64 j)) pb T i dv k' x' j ge := heap_setCell_same (heap_setCell_same (heap_setCell_same h _) _) _
/-- A step of a parser: from one token to the next. -/
def GoesOn (pb : Nat) (T : ByteArray) (i : Nat) (dv : Bool) (i' : Nat) (k' : Nat) (x' : ByteArray) (j' : Nat) : Prop :=
  ∀ w k x xa ge, PSt w pb T i dv k x xa ge → Calls Tryz.prog 73 #[.pointer (some ⟨pb, 0, none⟩)] w fun en w' => en = .returned (.tuple #[]) ∧ PSt w' pb T i' (endsB k' x'.data.toList) k' x' j' ge ∧ Only (fun k => k = pb) w w'
set_option maxRecDepth 10000 in
set_option maxHeartbeats 8000000 in
theorem goOn_any (pb : Nat) (T : ByteArray) (i : Nat) (dv : Bool) (hi : i ≤ T.size) (h5 : T.size ≤ 65000) (hc : ∀ c, T.data.toList[runTo blankB T.data.toList i]? = some c → ((c.toNat : Int) == 35) = false)
    (k' : Nat) (x' : ByteArray) (e' : Nat) (hr : ReadsTo pb T (runTo blankB T.data.toList i) dv k' x' e') : GoesOn pb T i dv e' k' x' (runTo blankB T.data.toList i) := by
  intro w k x xa ge h
  have HN := hide (next_any pb T i dv k x xa ge hi h5 hc k' x' e' hr w h)
  obtain ⟨j, HJ⟩ : ∃ j, Hid (j = runTo blankB T.data.toList i) := ⟨_, rfl⟩
  rw [← HJ.out] at HN ⊢
  obtain ⟨d, HD⟩ : ∃ d, Hid (d = endsB k' x'.data.toList) := ⟨_, rfl⟩
  rw [← HD.out] at HN ⊢
  clear hr hc h
  go_enter Tryz.func73, Tryz.ntmps73
  go_wp2_with fail
  refine (HN.out).mono ?_
  rintro e w1 ⟨rfl, hp1, ho1⟩
  have r3 : w1.cell? ⟨pb, 3, none⟩ = some (.int .i64 k) := cell_of hp1 rfl
  have r4 : w1.cell? ⟨pb, 4, none⟩ = some (.string x) := cell_of hp1 rfl
  have r5 : w1.cell? ⟨pb, 5, none⟩ = some (.int .i64 xa) := cell_of hp1 rfl
  have rf := free_of hp1
  have HP1 := hide hp1
  have HO1 := hide ho1
  clear hp1 ho1 HN
  unfold tokV
  go_wp2
  go_end0
  exact ⟨rfl, HP1.out.setNow k' x' j, ((HO1.out.setCell (p := ⟨pb, 3, none⟩) (fun _ => rfl) _).setCell (p := ⟨pb, 4, none⟩) (fun _ => rfl) _).setCell (p := ⟨pb, 5, none⟩) (fun _ => rfl) _⟩
/-- Does the parser look at that word or sign? -/
def seesB (k : Nat) (x t : List UInt8) : Bool := (k == 7 || k == 9) && x == t
set_option maxRecDepth 10000 in
set_option maxHeartbeats 8000000 in
theorem psees_any (pb : Nat) (T : ByteArray) (i : Nat) (dv : Bool) (k : Nat) (x : ByteArray) (xa : Nat) (ge : Bool) (t : ByteArray) (w : World) (h : PSt w pb T i dv k x xa ge) :
    Calls Tryz.prog 137 #[.pointer (some ⟨pb, 0, none⟩), .string t] w fun en w' => en = .returned (.bool (seesB k x.data.toList t.data.toList)) ∧ w' = w := by
  obtain ⟨v, HV⟩ : ∃ v, Hid (v = seesB k x.toList t.toList) := ⟨_, rfl⟩
  rw [← ByteArray.toList_eq, ← ByteArray.toList_eq, ← HV.out]
  have r3 : w.cell? ⟨pb, 3, none⟩ = some (.int .i64 k) := cell_of h rfl
  have r4 : w.cell? ⟨pb, 4, none⟩ = some (.string x) := cell_of h rfl
  clear h
  by_cases hk : k = 7 ∨ k = 9
  · rcases hk with rfl | rfl
    all_goals
      go_enter Tryz.func137, Tryz.ntmps137
      go_wp2
      go_ret
      refine ⟨ret_bool ?_, rfl⟩
      rw [HV.out]
      unfold seesB
      simp
  · have d7 : ((k : Int) == 7) = false := by rw [beq_eq_false_iff_ne]; omega
    have d9 : ((k : Int) == 9) = false := by rw [beq_eq_false_iff_ne]; omega
    have hv : v = false := by
      rw [HV.out]
      unfold seesB
      rw [Bool.and_eq_false_iff]
      left
      rw [Bool.or_eq_false_iff, beq_eq_false_iff_ne, beq_eq_false_iff_ne]
      omega
    subst hv
    clear hk
    go_enter Tryz.func137, Tryz.ntmps137
    go_wp2
    go_ret
    exact ⟨rfl, rfl⟩
end Go.Proofs.YtdbdbaepmdmnfaaGreatDoor

namespace Go.Proofs.YtdbdbaepmdmnfaaGreatDoor
open Go.RowKit
/-- Where a parser is: the reader's place, whether a slash divides, and the token it looks at. -/
structure TS where
  i : Nat
  dv : Bool
  k : Nat
  x : ByteArray
  xa : Nat
def PAt (w : World) (pb : Nat) (T : ByteArray) (s : TS) (ge : Bool) : Prop := PSt w pb T s.i s.dv s.k s.x s.xa ge
theorem PAt.only {w w' pb T s ge D} (h : PAt w pb T s ge) (ho : Only D w w') (hd : ¬ D pb) : PAt w' pb T s ge := PSt.only h ho hd
theorem PAt.lt {w pb T s ge} (h : PAt w pb T s ge) : pb < w.heap.size := heap_lt h
def seen (s : TS) (t : List UInt8) : Bool := seesB s.k s.x.data.toList t
theorem sees_at (pb : Nat) (T : ByteArray) (s : TS) (ge : Bool) (t : ByteArray) (v : Bool) (hv : seen s t.data.toList = v) (w : World) (h : PAt w pb T s ge) :
    Calls Tryz.prog 137 #[.pointer (some ⟨pb, 0, none⟩), .string t] w fun en w' => en = .returned (.bool v) ∧ w' = w := by
  subst hv; exact psees_any pb T s.i s.dv s.k s.x s.xa ge t w h
/-- From one token to the next. -/
def Nx (pb : Nat) (T : ByteArray) (s s' : TS) : Prop := GoesOn pb T s.i s.dv s'.i s'.k s'.x s'.xa ∧ s'.dv = endsB s'.k s'.x.data.toList
theorem Nx.on {pb T s s' ge w} (hn : Nx pb T s s') (h : PAt w pb T s ge) : Calls Tryz.prog 73 #[.pointer (some ⟨pb, 0, none⟩)] w fun en w' => en = .returned (.tuple #[]) ∧ PAt w' pb T s' ge ∧ Only (fun k => k = pb) w w' := by
  refine (hn.1 w _ _ _ _ h).mono ?_
  rintro en w' ⟨h1, h2, h3⟩
  refine ⟨h1, ?_, h3⟩
  unfold PAt
  rw [hn.2]
  exact h2
set_option maxHeartbeats 4000000 in
theorem oneOf_no (pb : Nat) (T : ByteArray) (s : TS) (ge : Bool) (b cap : Nat) (ss : List ByteArray) (hl : ss.length ≤ 1000) (hno : ∀ t ∈ ss, seen s t.data.toList = false) (w : World) (h : PAt w pb T s ge) (hA : ∀ (i : Nat) (t : ByteArray), ss[i]? = some t → w.cell? ⟨b, i, none⟩ = some (.string t)) :
    Calls Tryz.prog 184 #[.pointer (some ⟨pb, 0, none⟩), .slice (some ⟨b, 0, none⟩) ss.length cap] w fun en w' => en = .returned (.bool false) ∧ w' = w := by
  have HP := hide h
  have HN := hide hno
  have HA := hide hA
  clear h hno hA
  go_enter Tryz.func184, Tryz.ntmps184
  go_wp2
  go_loop [9] (fun s9 => ∃ k : Nat, s9 = .int .i64 k ∧ k ≤ ss.length) (fun s9 => ss.length - (intOf s9).toNat)
  case atStart => exact ⟨0, rfl, Nat.zero_le _⟩
  case round =>
    obtain ⟨k, rfl, hk⟩ := hrel
    by_cases hlt : k < ss.length
    · have hli : (k : Int) < (ss.length : Int) := by omega
      obtain ⟨t, ht⟩ : ∃ t, ss[k]? = some t := ⟨_, List.getElem?_eq_getElem hlt⟩
      have c0 := HA.out k t ht
      have HS := hide (sees_at pb T s ge t false (HN.out t (List.mem_of_getElem? ht)) w HP.out)
      clear ht
      go_wp2_with (go_at_call 137; refine (HS.out).mono ?_; rintro en w' ⟨rfl, rfl⟩)
      go_round
      case rel => exact ⟨k + 1, by go_num, by omega⟩
      case measure => simp [intOf]; omega
    · have hli : ¬ (k : Int) < (ss.length : Int) := by omega
      go_wp2
      go_ret
      exact ⟨rfl, rfl⟩
set_option maxHeartbeats 4000000 in
theorem passes_no (pb : Nat) (T : ByteArray) (s : TS) (ge : Bool) (t : ByteArray) (hv : seen s t.data.toList = false) (w : World) (h : PAt w pb T s ge) :
    Calls Tryz.prog 106 #[.pointer (some ⟨pb, 0, none⟩), .string t] w fun en w' => en = .returned (.bool false) ∧ w' = w := by
  have HS := hide (sees_at pb T s ge t false hv w h)
  clear h
  go_enter Tryz.func106, Tryz.ntmps106
  go_wp2_with (go_at_call 137; refine (HS.out).mono ?_; rintro en w' ⟨rfl, rfl⟩)
  go_ret
  exact ⟨rfl, rfl⟩
set_option maxHeartbeats 4000000 in
theorem passes_yes (pb : Nat) (T : ByteArray) (s s' : TS) (ge : Bool) (t : ByteArray) (hv : seen s t.data.toList = true) (hn : Nx pb T s s') (w : World) (h : PAt w pb T s ge) :
    Calls Tryz.prog 106 #[.pointer (some ⟨pb, 0, none⟩), .string t] w fun en w' => en = .returned (.bool true) ∧ PAt w' pb T s' ge ∧ Only (fun k => k = pb) w w' := by
  have HS := hide (sees_at pb T s ge t true hv w h)
  have HN := hide (hn.on h)
  clear h hn
  go_enter Tryz.func106, Tryz.ntmps106
  go_wp2_with (first | (go_at_call 137; refine (HS.out).mono ?_; rintro en w' ⟨rfl, rfl⟩) | (go_at_call 73; refine (HN.out).mono ?_; rintro en w1 ⟨rfl, hp, ho⟩))
  go_ret
  exact ⟨rfl, hp, ho⟩
set_option maxHeartbeats 4000000 in
theorem need_yes (pb : Nat) (T : ByteArray) (s s' : TS) (ge : Bool) (t : ByteArray) (hv : seen s t.data.toList = true) (hn : Nx pb T s s') (w : World) (h : PAt w pb T s ge) :
    Calls Tryz.prog 140 #[.pointer (some ⟨pb, 0, none⟩), .string t] w fun en w' => en = .returned (.tuple #[]) ∧ PAt w' pb T s' ge ∧ Only (fun k => k = pb) w w' := by
  have HS := hide (passes_yes pb T s s' ge t hv hn w h)
  clear h hn
  go_enter Tryz.func140, Tryz.ntmps140
  go_wp2_with (go_at_call 106; refine (HS.out).mono ?_; rintro en w1 ⟨rfl, hp, ho⟩)
  go_end0
  exact ⟨rfl, hp, ho⟩
set_option maxRecDepth 10000 in
set_option maxHeartbeats 4000000 in
theorem take_yes (pb : Nat) (T : ByteArray) (s s' : TS) (ge : Bool) (hn : Nx pb T s s') (w : World) (h : PAt w pb T s ge) :
    Calls Tryz.prog 139 #[.pointer (some ⟨pb, 0, none⟩)] w fun en w' => en = .returned (.agg #[.string s.x, .int .i64 s.xa]) ∧ PAt w' pb T s' ge ∧ Only (fun k => k = pb) w w' := by
  have hl := h.lt
  have r4 : w.cell? ⟨pb, 4, none⟩ = some (.string s.x) := cell_of h rfl
  have r5 : w.cell? ⟨pb, 5, none⟩ = some (.int .i64 s.xa) := cell_of h rfl
  have HP := hide h
  have HN := hide hn
  clear h hn
  go_enter Tryz.func139, Tryz.ntmps139
  go_wp2
  go_region
  all_goals
    have hp0 : PAt (((w.alloc (.cells #[.string ⟨#[]⟩, .int .i64 0] 92)).alloc (.cells #[.string s.x, .int .i64 s.xa] 92)).drew) pb T s ge := (Below.heap_alloc _ _ _ (by simp; omega)).trans ((Below.heap_alloc _ _ _ hl).trans HP.out)
    go_wp2_with fail
    refine (HN.out.on hp0).mono ?_
    rintro en w1 ⟨rfl, hp1, ho1⟩
    have hz1 : w.heap.size + 2 ≤ w1.heap.size := by have := ho1.size; simpa using this
    have hb0 : w1.heap[w.heap.size]? = some (.cells #[.string ⟨#[]⟩, .int .i64 0] 92 (0, 0)) := (ho1.block w.heap.size (by simp; omega) (by intro e; omega)).trans ((Below.heap_alloc _ _ _ (by simp)).trans (new0 w _))
    have hb1 : w1.heap[w.heap.size + 1]? = some (.cells #[.string s.x, .int .i64 s.xa] 92 (0, 0)) := (ho1.block (w.heap.size + 1) (by simp) (by intro e; omega)).trans (new_at2 (by simp) _)
    have q0 : w1.cell? ⟨w.heap.size, 0, none⟩ = some (.string ⟨#[]⟩) := cell_of hb0 rfl
    have q1 : w1.cell? ⟨w.heap.size, 1, none⟩ = some (.int .i64 0) := cell_of hb0 rfl
    have qf := free_of hb0
    have t0 : w1.cell? ⟨w.heap.size + 1, 0, none⟩ = some (.string s.x) := cell_of hb1 rfl
    have t1 : w1.cell? ⟨w.heap.size + 1, 1, none⟩ = some (.int .i64 s.xa) := cell_of hb1 rfl
    have HP1 := hide hp1
    have HO1 : Hid (Only (fun k => k = pb) w w1) := ((((Only.refl _ w).alloc _).alloc _).drewN 1).trans ho1 (fun _ _ e => e)
    have hpn : pb ≠ w.heap.size := by omega
    clear hp0 hp1 ho1 hb0 hb1
    go_wp2
    refine bodyPost_ret (v := .agg #[.string s.x, .int .i64 s.xa]) (by simp [results, Tryz.results139, go_sem, q0, q1]) rfl ⟨rfl, ?_, ?_⟩
    · show _ = _
      rw [Below.heap_setCell _ _ _ _ hpn, Below.heap_setCell _ _ _ _ hpn]
      exact HP1.out
    · exact (HO1.out.setCell (p := ⟨w.heap.size, 0, none⟩) (fun h => absurd h (Nat.lt_irrefl _)) _).setCell (p := ⟨w.heap.size, 1, none⟩) (fun h => absurd h (Nat.lt_irrefl _)) _
end Go.Proofs.YtdbdbaepmdmnfaaGreatDoor

