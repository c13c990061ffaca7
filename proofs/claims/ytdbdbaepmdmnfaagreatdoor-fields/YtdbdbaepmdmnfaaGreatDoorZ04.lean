import Derived.Test.YtdbdbaepmdmnfaaGreatDoorZ03
import Derived.Deep.RegionLaw
import Derived.Deep.AppendLies
import Derived.Deep.LoopGhost
import Derived.Test.YtdbdbaepmdmnfaaGreatDoorZ01
import Derived.Test.YtdbdbaepmdmnfaaGreatDoorZ02
namespace Go.Proofs.YtdbdbaepmdmnfaaGreatDoor
open Go.RowKit
/-- A state's seven cells. -/
def stCs (q : St) (ys : Nat → Nat) : List Value := [.int .i64 q.kind, .int .u64 (ys 0), .int .u64 (ys 1), .int .u64 (ys 2), .int .u64 (ys 3), .int .i64 q.next, .int .i64 q.other]
def StCells (Q : List St) (xs : List Value) : Prop := ∀ k q, Q[k]? = some q → ∃ ys, SetIs ys q.set ∧ ∀ j u, (stCs q ys)[j]? = some u → xs[k * 7 + j]? = some u
/-- A pattern lies in block pb: its row of states is v, and they are Q. -/
def Mach (w : World) (pb : Nat) (v : Value) (fst : Int) (Q : List St) : Prop :=
  w.heap[pb]? = some (.cells #[v, .int .i64 fst] 68 (0, 0)) ∧ ∃ xs, w.ownsRow 0 125 7 v Q.length xs ∧ StCells Q xs
/-- What building may turn: the pattern's block and its row of states. -/
def Grew (w w' : World) (pb : Nat) (v v' : Value) : Prop :=
  Only (fun k => k = pb ∨ some k = v.ownBlock) w w' ∧ (v'.ownBlock = v.ownBlock ∨ ∃ G, v'.ownBlock = some G ∧ w.heap.size ≤ G)
theorem Grew.refl (w : World) (pb : Nat) (v : Value) : Grew w w pb v v := ⟨Only.refl _ _, Or.inl rfl⟩
theorem Grew.trans {a b c : World} {pb : Nat} {u v x : Value} (h : Grew a b pb u v) (k : Grew b c pb v x) : Grew a c pb u x := by
  refine ⟨h.1.trans k.1 (fun i hi hk => ?_), ?_⟩
  · rcases hk with hk | hk
    · exact Or.inl hk
    · rcases h.2 with h2 | ⟨G, h2, h3⟩
      · rw [h2] at hk; exact Or.inr hk
      · rw [h2] at hk; cases hk; omega
  · rcases k.2 with k2 | ⟨G, k2, k3⟩
    · rw [k2]; exact h.2
    · exact Or.inr ⟨G, k2, Nat.le_trans h.1.size k3⟩
theorem Grew.before {a b c : World} {pb : Nat} {u v : Value} {D : Nat → Prop} (h : Only D a b) (hD : ∀ k, k < a.heap.size → ¬ D k) (k : Grew b c pb u v) : Grew a c pb u v := by
  refine ⟨⟨k.1.os.trans h.os, k.1.tape.trans h.tape, k.1.output.trans h.output, Nat.le_trans h.size k.1.size, fun i hi hd => (k.1.block i (Nat.lt_of_lt_of_le hi h.size) hd).trans (h.block i hi (hD i hi))⟩, ?_⟩
  rcases k.2 with k2 | ⟨G, k2, k3⟩
  · exact Or.inl k2
  · exact Or.inr ⟨G, k2, Nat.le_trans h.size k3⟩
theorem Mach.own_lt {w pb v fst Q} (h : Mach w pb v fst Q) : ∀ k, v.ownBlock = some k → k < w.heap.size := by
  obtain ⟨h1, xs, h2, _⟩ := h
  exact fun k hk => (h2.lt k hk).2
theorem Mach.of {w w' pb v fst Q} (h : Mach w pb v fst Q) (h1 : w'.heap[pb]? = w.heap[pb]?) (h2 : ∀ k, v.ownBlock = some k → w'.heap[k]? = w.heap[k]?) : Mach w' pb v fst Q := by
  obtain ⟨h3, xs, h4, h5⟩ := h
  exact ⟨h1.trans h3, xs, ownsRow_of h4 h2, h5⟩
theorem Mach.only {w w' pb v fst Q D} (h : Mach w pb v fst Q) (ho : Only D w w') (hD : ∀ k, k < w.heap.size → ¬ D k) : Mach w' pb v fst Q :=
  h.of (ho.block pb (heap_lt h.1) (hD _ (heap_lt h.1))) (fun k hk => ho.block k (h.own_lt k hk) (hD _ (h.own_lt k hk)))
theorem Mach.slice {w pb v fst Q} (h : Mach w pb v fst Q) : ∃ po cap, v = .slice po Q.length cap := by
  obtain ⟨h1, xs, h2, _⟩ := h
  exact ownsRow_slice h2
theorem StCells.push {Q xs q ys} (h : StCells Q xs) (hl : xs.length = Q.length * 7) (hs : SetIs ys q.set) : StCells (Q ++ [q]) (xs ++ stCs q ys) := by
  intro k r hk
  by_cases hlt : k < Q.length
  · rw [List.getElem?_append_left hlt] at hk
    obtain ⟨zs, h1, h2⟩ := h k r hk
    refine ⟨zs, h1, fun j u hj => ?_⟩
    have h3 := h2 j u hj
    rw [List.getElem?_append_left (List.getElem?_eq_some_iff.1 h3).1]
    exact h3
  · rw [List.getElem?_append_right (by omega)] at hk
    have hk' : k = Q.length := by
      have := (List.getElem?_eq_some_iff.1 hk).1
      simp at this; omega
    subst hk'
    simp at hk
    subst hk
    refine ⟨ys, hs, fun j u hj => ?_⟩
    rw [List.getElem?_append_right (by omega), hl, Nat.add_sub_cancel_left]; exact hj
end Go.Proofs.YtdbdbaepmdmnfaaGreatDoor

namespace Go.Proofs.YtdbdbaepmdmnfaaGreatDoor
open Go.RowKit
theorem Mach.alloc {w pb v fst Q} (h : Mach w pb v fst Q) (o : Obj) : Mach (w.alloc o) pb v fst Q := h.only (D := fun _ => False) ((Only.refl _ w).alloc o) (fun _ _ e => e)
theorem Grew.alloc {w w' pb v v'} {o : Obj} (h : Grew (w.alloc o) w' pb v v') : Grew w w' pb v v' := Grew.before (D := fun _ => False) ((Only.refl _ w).alloc o) (fun _ _ e => e) h
/-- No block of F is the pattern's or its row's. -/
def Away (F : Nat → Prop) (w : World) (pb : Nat) (v : Value) : Prop := ∀ g, F g → g < w.heap.size → g ≠ pb ∧ some g ≠ v.ownBlock
theorem Away.alloc {F w pb v Q fst} (h : Away F w pb v) (hm : Mach w pb v fst Q) (o : Obj) : Away F (w.alloc o) pb v := fun g hg hl => by
  by_cases hs : g < w.heap.size
  · exact h g hg hs
  · refine ⟨fun e => ?_, fun e => ?_⟩
    · have := heap_lt hm.1; omega
    · have := hm.own_lt g e.symm; omega
theorem Grew.keep {F w w' pb v v'} (hg : Grew w w' pb v v') (hF : Away F w pb v) : ∀ g, F g → g < w.heap.size → w'.heap[g]? = w.heap[g]? := fun g h1 h2 => hg.1.block g h2 (by
  rintro (e | e)
  · exact (hF g h1 h2).1 e
  · exact (hF g h1 h2).2 e)
theorem Den.form {d N w F cs R} (h : Den d N w F cs R) : ∃ (kind : Int) (xs : Nat → Nat) (po : Option Addr) (n cap : Nat), cs = nodeCs kind xs po n cap := by
  cases d with
  | zero => exact h.elim
  | succ d =>
    obtain ⟨kind, xs, po, n, cap, Rs, Ns, h1, _⟩ := h
    exact ⟨kind, xs, po, n, cap, h1⟩
/-- The parts of a node. -/
def DenParts (d : Nat) (w : World) (F : Nat → Prop) (po : Option Addr) (Rs : List Pat) (Ns : List Nat) : Prop :=
  Rs.length = 0 ∨ ∃ g, po = some ⟨g, 0, none⟩ ∧ F g ∧ g < w.heap.size ∧ ∀ i A M, Rs[i]? = some A → Ns[i]? = some M → ∃ cs', CellsAt w g (i * 6) cs' ∧ Den d M w F cs' A
theorem DenParts.alloc {d w F po Rs Ns} (h : DenParts d w F po Rs Ns) (o : Obj) : DenParts d (w.alloc o) F po Rs Ns := by
  rcases h with h | ⟨g, h6, h7, h8, h9⟩
  · exact Or.inl h
  · refine Or.inr ⟨g, h6, h7, by simp; omega, fun i A M hA hM => ?_⟩
    obtain ⟨cs', h10, h11⟩ := h9 i A M hA hM
    exact ⟨cs', h10.of (Below.heap_alloc _ _ _ h8), h11.frame (by simp) (fun g _ hl => Below.heap_alloc _ _ _ hl)⟩
/-- One part's cells. -/
theorem DenParts.at {d w F po Rs Ns i A M} (h : DenParts d w F po Rs Ns) (hA : Rs[i]? = some A) (hM : Ns[i]? = some M) : ∃ g, po = some ⟨g, 0, none⟩ ∧ F g ∧ g < w.heap.size ∧ ∃ (kind : Int) (xs : Nat → Nat) (qo : Option Addr) (n cap : Nat), CellsAt w g (i * 6) (nodeCs kind xs qo n cap) ∧ Den d M w F (nodeCs kind xs qo n cap) A := by
  rcases h with h | ⟨g, h6, h7, h8, h9⟩
  · have := (List.getElem?_eq_some_iff.1 hA).1; omega
  · obtain ⟨cs', h10, h11⟩ := h9 i A M hA hM
    obtain ⟨kind, xs, qo, n, cap, rfl⟩ := h11.form
    exact ⟨g, h6, h7, h8, kind, xs, qo, n, cap, h10, h11⟩
def StOK (m : Nat) (q : St) : Prop := q.kind ≤ 3 ∧ q.next < m ∧ q.other < m
theorem StOK.up {m m' q} (h : StOK m q) (hm : m ≤ m') : StOK m' q := ⟨h.1, Nat.lt_of_lt_of_le h.2.1 hm, Nat.lt_of_lt_of_le h.2.2 hm⟩
/-- The states Q', laid from number n on, are a machine from b to next. -/
def BuiltIn (n : Nat) (Q' : List St) (b next : Nat) (R : Pat) : Prop := ∀ Qx : List St, (∀ k q, Q'[k]? = some q → Qx[n + k]? = some q) → ∀ t, Built Qx t b next (R t)
def BuildPost (pb : Nat) (v : Value) (fst : Int) (Q : List St) (next N : Nat) (R : Pat) (w : World) (e : Ending) (w' : World) : Prop :=
  ∃ (v' : Value) (Q' : List St) (b : Nat), e = .returned (.int .i64 b) ∧ Mach w' pb v' fst (Q ++ Q') ∧ Grew w w' pb v v' ∧ Q'.length ≤ N ∧ b < Q.length + Q'.length ∧ (∀ q ∈ Q', StOK (Q.length + Q'.length) q) ∧ BuiltIn Q.length Q' b next R
theorem BuildPost.alloc {pb v fst Q next N R w o e w'} (h : BuildPost pb v fst Q next N R (w.alloc o) e w') : BuildPost pb v fst Q next N R w e w' := by
  obtain ⟨v', Q', b, h1, h2, h3, h4⟩ := h
  exact ⟨v', Q', b, h1, h2, h3.alloc, h4⟩
end Go.Proofs.YtdbdbaepmdmnfaaGreatDoor
namespace Go.Proofs.YtdbdbaepmdmnfaaGreatDoor
open Go.RowKit
end Go.Proofs.YtdbdbaepmdmnfaaGreatDoor
namespace Go.Proofs.YtdbdbaepmdmnfaaGreatDoor
open Go.RowKit
theorem BuiltIn.one {n : Nat} {Q2 : List St} {b next : Nat} {A : Pat} (h : BuiltIn n Q2 b next A) : BuiltIn n Q2 b next (altR [A]) := fun Qx hx t => (h Qx hx t).congr (fun i j => ⟨fun h => Or.inl h, fun h => by rcases h with h | h; exact h; exact h.elim⟩)
end Go.Proofs.YtdbdbaepmdmnfaaGreatDoor
namespace Go.Proofs.YtdbdbaepmdmnfaaGreatDoor
open Go.RowKit
theorem Mach.form {w pb v fst Q} (h : Mach w pb v fst Q) (hQ : Q.length ≠ 0) : ∃ G cap, v = .slice (some ⟨G, 0, none⟩) Q.length cap := by
  obtain ⟨h1, xs, h2, _⟩ := h
  rcases h2.2 with ⟨_, h0⟩ | ⟨g, cap, cur, hv, _⟩
  · exact absurd h0 hQ
  · exact ⟨g, cap, hv⟩
theorem Mach.cells {w pb G n cap fst Q k q} (h : Mach w pb (.slice (some ⟨G, 0, none⟩) n cap) fst Q) (hk : Q[k]? = some q) : ∃ ys, SetIs ys q.set ∧ ∀ j u, (stCs q ys)[j]? = some u → w.cell? ⟨G, k * 7 + j, none⟩ = some u := by
  obtain ⟨h1, xs, h2, h3⟩ := h
  obtain ⟨ys, h4, h5⟩ := h3 k q hk
  refine ⟨ys, h4, fun j u hj => ?_⟩
  rcases h2.2 with ⟨e, _⟩ | ⟨g, cap', cur, hv, _, h7, _, _, _, h8⟩
  · cases e
  · cases hv
    have h9 := h5 j u hj
    rw [← h8, List.getElem?_take] at h9
    split at h9
    · refine cell_of h7 ?_
      rw [← Array.getElem?_toList]; exact h9
    · cases h9
theorem Mach.free {w pb G n cap fst Q} (h : Mach w pb (.slice (some ⟨G, 0, none⟩) n cap) fst Q) (o : Nat) : w.frozen? ⟨G, o, none⟩ = false := by
  obtain ⟨h1, xs, h2, h3⟩ := h
  rcases h2.2 with ⟨e, _⟩ | ⟨g, cap', cur, hv, _, h7, _⟩
  · cases e
  · cases hv
    exact free_of h7 o
end Go.Proofs.YtdbdbaepmdmnfaaGreatDoor

namespace Go.Proofs.YtdbdbaepmdmnfaaGreatDoor
open Go.RowKit
/-- The states that a value of the program's type of patterns holds. -/
def PatAt (w : World) (v : Value) (Q : List St) : Prop := ∃ xs, w.ownsRow 0 125 7 v Q.length xs ∧ StCells Q xs
end Go.Proofs.YtdbdbaepmdmnfaaGreatDoor

namespace Go.Proofs.YtdbdbaepmdmnfaaGreatDoor
open Go.RowKit
/-- A reader that is the beginning of a parser's block. -/
def PSt (w : World) (pb : Nat) (T : ByteArray) (i : Nat) (dv : Bool) (k : Nat) (x : ByteArray) (xa : Nat) (ge : Bool) : Prop :=
  w.heap[pb]? = some (.cells #[.string T, .int .i64 i, .bool dv, .int .i64 k, .string x, .int .i64 xa, .bool ge] 154 (0, 0))
theorem PSt.tk {w pb T i dv k x xa ge} (h : PSt w pb T i dv k x xa ge) : TkAt w pb T i dv := ⟨cell_of h rfl, cell_of h rfl, cell_of h rfl⟩
theorem PSt.drewN {w pb T i dv k x xa ge} (h : PSt w pb T i dv k x xa ge) (n : Nat) : PSt (w.drewN n) pb T i dv k x xa ge := h
theorem PSt.setAt {w pb T i dv k x xa ge} (h : PSt w pb T i dv k x xa ge) (j : Nat) : PSt (w.setCell ⟨pb, 1, none⟩ (.int .i64 j)) pb T j dv k x xa ge := heap_setCell_same h _
theorem PSt.setDv {w pb T i dv k x xa ge} (h : PSt w pb T i dv k x xa ge) (d : Bool) : PSt (w.setCell ⟨pb, 2, none⟩ (.bool d)) pb T i d k x xa ge := heap_setCell_same h _
theorem PSt.only {w w' pb T i dv k x xa ge D} (h : PSt w pb T i dv k x xa ge) (ho : Only D w w') (hd : ¬ D pb) : PSt w' pb T i dv k x xa ge := (ho.block pb (heap_lt h) hd).trans h
set_option maxRecDepth 10000 in
set_option maxHeartbeats 8000000 in
theorem skip_all (pb : Nat) (T : ByteArray) (i : Nat) (dv : Bool) (k : Nat) (x : ByteArray) (xa : Nat) (ge : Bool) (hi : i ≤ T.size) (h5 : T.size ≤ 65000) (hc : ∀ c, T.data.toList[runTo blankB T.data.toList i]? = some c → ((c.toNat : Int) == 35) = false) (w : World) (h : PSt w pb T i dv k x xa ge) :
    Calls Tryz.prog 134 #[.pointer (some ⟨pb, 0, none⟩)] w fun en w' => en = .returned (.tuple #[]) ∧ PSt w' pb T (runTo blankB T.data.toList i) dv k x xa ge ∧ Only (fun k => k = pb) w w' := by
  obtain ⟨E, HE⟩ : ∃ E, Hid (E = runTo blankB T.data.toList i) := ⟨_, rfl⟩
  rw [← HE.out]
  rw [← HE.out] at hc
  have HC := hide hc
  have hEl : E ≤ T.size := by rw [HE.out]; have := runTo_le (p := blankB) (l := T.data.toList) (k := i) (by rw [len_eq]; exact hi); rw [len_eq] at this; exact this
  have HP := hide h
  clear h hc
  go_enter Tryz.func134, Tryz.ntmps134
  go_wp2
  go_loopg [2] (T.size + 1 - i) (fun g _ wr => ∃ j : Nat, g = T.size + 1 - j ∧ PSt wr pb T j dv k x xa ge ∧ Only (fun k => k = pb) w wr ∧ i ≤ j ∧ j ≤ E ∧ runTo blankB T.data.toList j = E)
  case atStart => exact ⟨i, rfl, HP.out, Only.refl _ _, Nat.le_refl _, by rw [HE.out]; exact runTo_ge _ _ _, HE.out.symm⟩
  case round =>
    obtain ⟨j, hg, hp, ho, hij, hjE, hrj⟩ := hrel
    have HG := hide hg
    have HPj := hide hp
    have HO := hide ho
    have HRj := hide hrj
    have c0 : wr.cell? ⟨pb, 0, none⟩ = some (.string T) := cell_of hp rfl
    have c1 : wr.cell? ⟨pb, 1, none⟩ = some (.int .i64 j) := cell_of hp rfl
    have cf := free_of hp
    clear hg hp ho hrj
    by_cases hlt : j < T.size
    · have hli : (j : Int) < (T.size : Int) := by omega
      have hget := get_of_lt T j hlt
      cases hb : blankB T[j]
      · have hjE2 : j = E := by
          rw [← HRj.out]
          exact (runTo_stop (fun c hc => by rw [hget] at hc; cases hc; exact hb)).symm
        have hne : ((T[j].toNat : Int) == 35) = false := by
          have := HC.out T[j]
          rw [← hjE2] at this
          exact this hget
        subst hjE2
        clear hget
        go_wp2_with fail
        go_quiet (first | (go_at_call 171; exact Calls.quiet_of (tended_no pb T j dv hlt _ HPj.out.tk)) | (go_at_call 51; exact Calls.quiet_of_same (by have := isBlank_any T[j]; rw [hb] at this; exact this _)))
        go_wp2
        go_end0
        exact ⟨rfl, HPj.out.drewN _, HO.out.drewN _⟩
      · have HR2 : Hid (runTo blankB T.data.toList (j + 1) = E) := by
          show _ = E
          rw [runTo_step hget hb]; exact HRj.out
        have hnn : ((T[j].toNat : Int) == 35) = false := by
          rw [beq_eq_false_iff_ne]
          intro e
          unfold blankB at hb
          rw [e] at hb
          simp at hb
        clear hget
        go_wp2_with fail
        go_quiet (first | (go_at_call 171; exact Calls.quiet_of (tended_no pb T j dv hlt _ HPj.out.tk)) | (go_at_call 51; exact Calls.quiet_of_same (by have := isBlank_any T[j]; rw [hb] at this; exact this _)))
        go_wp2
        go_quiet (fail)
        go_wp2
        go_roundg (T.size + 1 - (j + 1))
        case measure => rw [HG.out]; omega
        case rel => exact ⟨j + 1, rfl, HPj.out.setAt (j + 1), (HO.out.drewN _).setCell (p := ⟨pb, 1, none⟩) (fun _ => rfl) _, by omega, by have := runTo_ge blankB T.data.toList (j + 1); rw [HR2.out] at this; omega, HR2.out⟩
    · have hjs : j = T.size := by omega
      have hjE2 : j = E := by omega
      subst hjE2
      go_wp2_with fail
      go_quiet (first | (go_at_call 171; exact Calls.quiet_of (tended_yes pb T j dv hjs _ HPj.out.tk)))
      go_wp2
      go_end0
      exact ⟨rfl, HPj.out.drewN _, HO.out.drewN _⟩
end Go.Proofs.YtdbdbaepmdmnfaaGreatDoor

namespace Go.Proofs.YtdbdbaepmdmnfaaGreatDoor
/-- The bytes from place a up to place b. -/
def cutL (l : List UInt8) (a b : Nat) : List UInt8 := (l.drop a).take (b - a)
theorem cutL_same (l : List UInt8) (a : Nat) : cutL l a a = [] := by simp [cutL]
theorem cutL_snoc {l : List UInt8} {a b : Nat} {c : UInt8} (hab : a ≤ b) (h : l[b]? = some c) : cutL l a (b + 1) = cutL l a b ++ [c] := by
  unfold cutL
  rw [show b + 1 - a = (b - a) + 1 by omega, List.take_add_one, List.getElem?_drop, show a + (b - a) = b by omega, h]
  rfl
theorem cutL_nil {l : List UInt8} {a b : Nat} (hb : b ≤ l.length) : cutL l a b = [] ↔ b ≤ a := by
  unfold cutL
  rw [← List.length_eq_zero_iff, List.length_take, List.length_drop]
  omega
theorem drop_at {l : List UInt8} {k : Nat} {c : UInt8} (h : l[k]? = some c) : l.drop k = c :: l.drop (k + 1) := by
  obtain ⟨hk, e⟩ := List.getElem?_eq_some_iff.1 h
  rw [List.drop_eq_getElem_cons hk, e]
/-- The words of a text: cur is what was read of the one that is open. -/
def words : List UInt8 → List UInt8 → List (List UInt8)
  | cur, [] => if cur = [] then [] else [cur]
  | cur, c :: l => if blankB c then (if cur = [] then words [] l else cur :: words [] l) else words (cur ++ [c]) l
/-- The pieces between the bytes that are s. -/
def splitB (s : UInt8) : List UInt8 → List UInt8 → List (List UInt8)
  | cur, [] => [cur]
  | cur, c :: l => if c = s then cur :: splitB s [] l else splitB s (cur ++ [c]) l
def eachB (l : List UInt8) : List (List UInt8) := l.map (fun c => [c])
/-- The pieces between the matches that are not empty; len k: how long the longest match at place k is. -/
def patCut (l : List UInt8) (len : Nat → Nat) : Nat → Nat → Nat → List (List UInt8)
  | 0, frm, _ => [cutL l frm l.length]
  | f + 1, frm, i => if l.length ≤ i then [cutL l frm l.length] else if 0 < len i then cutL l frm i :: patCut l len f (i + len i) (i + len i) else patCut l len f frm (i + 1)
def patC (l : List UInt8) (len : Nat → Nat) (frm i : Nat) : List (List UInt8) := patCut l len (l.length - i) frm i
/-- How words go on at a place. -/
theorem words_blank {l : List UInt8} {a k : Nat} {c : UInt8} (hk : l[k]? = some c) (hc : blankB c = true) : words (cutL l a k) (l.drop k) = (if k ≤ a then [] else [cutL l a k]) ++ words [] (l.drop (k + 1)) := by
  have hkl := (List.getElem?_eq_some_iff.1 hk).1
  rw [drop_at hk, words, if_pos hc]
  by_cases h : k ≤ a
  · rw [if_pos ((cutL_nil (by omega)).2 h), if_pos h]; rfl
  · rw [if_neg (fun e => h ((cutL_nil (by omega)).1 e)), if_neg h]; rfl
theorem words_in {l : List UInt8} {a k : Nat} {c : UInt8} (hak : a ≤ k) (hk : l[k]? = some c) (hc : blankB c = false) : words (cutL l a k) (l.drop k) = words (cutL l a (k + 1)) (l.drop (k + 1)) := by
  rw [drop_at hk, words, cutL_snoc hak hk, hc]; rfl
theorem words_end {l : List UInt8} {a : Nat} : words (cutL l a l.length) (l.drop l.length) = if l.length ≤ a then [] else [cutL l a l.length] := by
  rw [List.drop_length, words]
  by_cases h : l.length ≤ a
  · rw [if_pos ((cutL_nil (Nat.le_refl _)).2 h), if_pos h]
  · rw [if_neg (fun e => h ((cutL_nil (Nat.le_refl _)).1 e)), if_neg h]
/-- How long the longest match at place k is; 0: there is none, or it is empty. -/
def LenR (R : Pat) (t : List UInt8) (k m : Nat) : Prop := k + m ≤ t.length ∧ (0 < m → R t k (k + m)) ∧ ∀ e, k < e → e ≤ t.length → R t k e → e ≤ k + m
/-- A function that tells how long the longest match at each place is. -/
def IsLen (R : Pat) (t : List UInt8) (len : Nat → Nat) : Prop := ∀ k, k ≤ t.length → LenR R t k (len k)
theorem IsLen.le {R : Pat} {t : List UInt8} {len : Nat → Nat} (hL : IsLen R t len) (k : Nat) (hk : k ≤ t.length) : k + len k ≤ t.length := (hL k hk).1
/-- The pieces of a text between the matches of a pattern. -/
def patPieces (len : Nat → Nat) (t : List UInt8) : List (List UInt8) := if t = [] then [] else patC t len 0 0
/-- What Split answers: the pieces and the number of the error. -/
def SplitIs (t p : List UInt8) (L : List (List UInt8)) (n : Nat) : Prop :=
  (500 < t.length ∨ 500 < p.length → L = [] ∧ n = 1) ∧
  (¬ (500 < t.length ∨ 500 < p.length) →
    (p = [32] → L = words [] t ∧ n = 0) ∧ (p = [] → L = eachB t ∧ n = 0) ∧ (∀ c, p = [c] → c ≠ 32 → L = (if t = [] then [] else splitB c [] t) ∧ n = 0) ∧
    (2 ≤ p.length → (wholeP p = none → L = [] ∧ n = 7) ∧ ∀ R, wholeP p = some R → (∃ len, IsLen R t len ∧ L = patPieces len t) ∧ n = 0))
/-- A piece as a text. -/
def ofB (l : List UInt8) : ByteArray := ⟨l.toArray⟩
def strsV (L : List (List UInt8)) : List Go.Value := L.map (fun l => Go.Value.string (ofB l))
theorem strsV_snoc (L : List (List UInt8)) (l : List UInt8) : strsV (L ++ [l]) = strsV L ++ [.string (ofB l)] := by simp [strsV]
theorem extract_cut (s : ByteArray) (a b : Nat) : s.extract a b = ofB (cutL s.data.toList a b) := by
  apply ByteArray.ext
  rw [ByteArray.data_extract]
  apply Array.toList_inj.1
  rw [Array.toList_extract, List.extract_eq_take_drop]
  rfl
theorem words_len (cur l : List UInt8) : (words cur l).length ≤ l.length + 1 := by
  induction l generalizing cur with
  | nil => unfold words; split <;> simp
  | cons c l ih =>
    unfold words
    split
    · split
      · have := ih []; simp only [List.length_cons]; omega
      · have := ih []; simp only [List.length_cons]; omega
    · have := ih (cur ++ [c]); simp only [List.length_cons]; omega
theorem splitB_len (s : UInt8) (cur l : List UInt8) : (splitB s cur l).length ≤ l.length + 1 := by
  induction l generalizing cur with
  | nil => simp [splitB]
  | cons c l ih =>
    unfold splitB
    split
    · have := ih []; simp only [List.length_cons]; omega
    · have := ih (cur ++ [c]); simp only [List.length_cons]; omega
theorem patCut_len (l : List UInt8) (len : Nat → Nat) (f frm i : Nat) : (patCut l len f frm i).length ≤ f + 1 := by
  induction f generalizing frm i with
  | zero => simp [patCut]
  | succ f ih =>
    unfold patCut
    split
    · simp
    · split
      · have := ih (i + len i) (i + len i); simp only [List.length_cons]; omega
      · have := ih frm (i + 1); omega
theorem SplitIs.len {t p : List UInt8} {L : List (List UInt8)} {n : Nat} (h : SplitIs t p L n) : L.length ≤ 501 := by
  by_cases hl : 500 < t.length ∨ 500 < p.length
  · rw [(h.1 hl).1]; simp
  · obtain ⟨a1, a2, a3, a4⟩ := h.2 hl
    match p with
    | [] => rw [(a2 rfl).1]; simp [eachB]; omega
    | [c] =>
      by_cases hc : c = 32
      · subst hc; rw [(a1 rfl).1]; have := words_len [] t; omega
      · rw [(a3 c rfl hc).1]
        split
        · simp
        · have := splitB_len c [] t; omega
    | a :: b :: r =>
      obtain ⟨a5, a6⟩ := a4 (by simp)
      cases hw : wholeP (a :: b :: r) with
      | none => rw [(a5 hw).1]; simp
      | some R =>
        obtain ⟨⟨len, _, rfl⟩, _⟩ := a6 R hw
        unfold patPieces
        split
        · simp
        · have := patCut_len t len (t.length - 0) 0 0; unfold patC; omega
end Go.Proofs.YtdbdbaepmdmnfaaGreatDoor

