import Derived.Test.YtdbdbaepmdmnfaaGreatDoorZ37
import Derived.Test.YtdbdbaepmdmnfaaGreatDoorZ17
import Derived.Test.YtdbdbaepmdmnfaaGreatDoorZ12
import Derived.Test.YtdbdbaepmdmnfaaGreatDoorZ20
import Derived.Test.YtdbdbaepmdmnfaaGreatDoorZ06
import Derived.Deep.RegionHeld3
import Derived.Test.YtdbdbaepmdmnfaaGreatDoorZ22
namespace Go.Proofs.YtdbdbaepmdmnfaaGreatDoor
open Go.RowKit
/-- What the checker does with an expression: it adds the uses ns. -/
def UseE (W0 : World) (cb M lp : Nat) (rec : Bool) (e : Value) (ns : List Use) : Prop :=
  ∀ (us : List Use) (w : World), us.length + ns.length ≤ 900 → UJ W0 cb M lp rec us w → Calls Tryz.prog 145 #[.pointer (some ⟨cb, 0, none⟩), e] w fun en w' => en = .returned (.tuple #[]) ∧ UJ W0 cb M lp rec (us ++ ns) w' ∧ UK cb w w'
theorem UK.alloc {cb : Nat} {a b : World} (h : UK cb a b) (o : Obj) : UK cb a (b.alloc o) := fun q x t f hq ht hc => (Below.heap_alloc _ _ _ (heap_lt (h q x t f hq ht hc))).trans (h q x t f hq ht hc)
theorem UK.fromAlloc {cb : Nat} {a b : World} {o : Obj} (h : UK cb (a.alloc o) b) : UK cb a b := fun q x t f hq ht hc => h q x t f ((Below.heap_alloc _ _ _ (heap_lt hq)).trans hq) ht hc
set_option maxRecDepth 20000 in
set_option maxHeartbeats 4000000 in
theorem useE_name (W0 : World) (cb M lp : Nat) (rec : Bool) (x : ByteArray) (a : Nat) : UseE W0 cb M lp rec (nameV x a) [(x, a, 0)] := by
  intro us w hl h
  have q0 := te188_188 (.agg #[.string x, .int .i64 a])
  have HN := hide (uname_any W0 cb M lp rec us (by simp at hl; omega) x a 0 _ (h.calm (onlyA w (.cells #[.string x, .int .i64 a] 92))))
  clear h
  unfold nameV
  go_enter Tryz.func145, Tryz.ntmps145
  go_wp2_with (go_at_call 186; refine (HN.out).mono ?_; rintro en w2 ⟨rfl, h1, h2⟩; have H1 := hide h1; have H2 := hide h2; clear h1 h2)
  go_end0
  exact ⟨rfl, H1.out, H2.out.fromAlloc⟩
set_option maxRecDepth 20000 in
set_option maxHeartbeats 4000000 in
theorem useE_num (W0 : World) (cb M lp : Nat) (rec : Bool) (n : Int) : UseE W0 cb M lp rec (numT n) [] := by
  intro us w hl h
  have HU := hide h
  clear h
  unfold numT
  have e1 : ∀ W, (Instr.typeAssert (.iface 300 (.agg #[.int .i64 n])) 238 92 true).run Tryz.prog W = .ok (.tuple #[.agg #[.string ⟨#[]⟩, .int .i64 0], .bool false]) W := fun W => by kernel_rfl
  have e2 : ∀ W, (Instr.typeAssert (.iface 300 (.agg #[.int .i64 n])) 238 306 true).run Tryz.prog W = .ok (.tuple #[.agg #[.string ⟨#[]⟩, .int .i64 0, .slice none 0 0], .bool false]) W := fun W => by kernel_rfl
  have e3 : ∀ W, (Instr.typeAssert (.iface 300 (.agg #[.int .i64 n])) 238 309 true).run Tryz.prog W = .ok (.tuple #[.agg #[.nilIface], .bool false]) W := fun W => by kernel_rfl
  have e4 : ∀ W, (Instr.typeAssert (.iface 300 (.agg #[.int .i64 n])) 238 311 true).run Tryz.prog W = .ok (.tuple #[.agg #[.string ⟨#[]⟩, .int .i64 0, .slice none 0 0], .bool false]) W := fun W => by kernel_rfl
  have e5 : ∀ W, (Instr.typeAssert (.iface 300 (.agg #[.int .i64 n])) 238 312 true).run Tryz.prog W = .ok (.tuple #[.agg #[.string ⟨#[]⟩, .int .i64 0, .slice none 0 0], .bool false]) W := fun W => by kernel_rfl
  have e6 : ∀ W, (Instr.typeAssert (.iface 300 (.agg #[.int .i64 n])) 238 314 true).run Tryz.prog W = .ok (.tuple #[.agg #[.string ⟨#[]⟩, .nilIface], .bool false]) W := fun W => by kernel_rfl
  have e7 : ∀ W, (Instr.typeAssert (.iface 300 (.agg #[.int .i64 n])) 238 316 true).run Tryz.prog W = .ok (.tuple #[.agg #[.nilIface, .string ⟨#[]⟩, .nilIface], .bool false]) W := fun W => by kernel_rfl
  have e8 : ∀ W, (Instr.typeAssert (.iface 300 (.agg #[.int .i64 n])) 238 319 true).run Tryz.prog W = .ok (.tuple #[.agg #[.nilIface, .nilIface], .bool false]) W := fun W => by kernel_rfl
  have e9 : ∀ W, (Instr.typeAssert (.iface 300 (.agg #[.int .i64 n])) 238 321 true).run Tryz.prog W = .ok (.tuple #[.agg #[.nilIface, .string ⟨#[]⟩, .int .i64 0], .bool false]) W := fun W => by kernel_rfl
  have ea : ∀ W, (Instr.typeAssert (.iface 300 (.agg #[.int .i64 n])) 238 323 true).run Tryz.prog W = .ok (.tuple #[.agg #[.nilIface, .nilIface, .nilIface], .bool false]) W := fun W => by kernel_rfl
  have eb : ∀ W, (Instr.typeAssert (.iface 300 (.agg #[.int .i64 n])) 238 326 true).run Tryz.prog W = .ok (.tuple #[.agg #[.nilIface, .string ⟨#[]⟩, .nilIface], .bool false]) W := fun W => by kernel_rfl
  go_enter Tryz.func145, Tryz.ntmps145
  go_wp2
  go_end0
  rw [List.append_nil]
  exact ⟨rfl, HU.out, UK.refl _ _⟩
set_option maxRecDepth 20000 in
set_option maxHeartbeats 4000000 in
theorem useE_field (W0 : World) (cb M lp : Nat) (rec : Bool) (t : TypeId) (u : Value) (ns : List Use) (hE : UseE W0 cb M lp rec (.iface t u) ns) : UseE W0 cb M lp rec (fieldT (.iface t u)) ns := by
  intro us w hl h
  have HE := hide (hE us _ hl (h.calm (onlyA w (.cells #[.iface t u] 309))))
  clear h hE
  unfold fieldT
  have e1 : ∀ W, (Instr.typeAssert (.iface 309 (.agg #[.iface t u])) 238 92 true).run Tryz.prog W = .ok (.tuple #[.agg #[.string ⟨#[]⟩, .int .i64 0], .bool false]) W := fun W => by kernel_rfl
  have e2 : ∀ W, (Instr.typeAssert (.iface 309 (.agg #[.iface t u])) 238 306 true).run Tryz.prog W = .ok (.tuple #[.agg #[.string ⟨#[]⟩, .int .i64 0, .slice none 0 0], .bool false]) W := fun W => by kernel_rfl
  have e3 : ∀ W, (Instr.typeAssert (.iface 309 (.agg #[.iface t u])) 238 309 true).run Tryz.prog W = .ok (.tuple #[.agg #[.iface t u], .bool true]) W := fun W => by kernel_rfl
  go_enter Tryz.func145, Tryz.ntmps145
  go_wp2_with (go_at_call 145; refine (HE.out).mono ?_; rintro en w2 ⟨rfl, h1, h2⟩; have H1 := hide h1; have H2 := hide h2; clear h1 h2)
  go_end0
  exact ⟨rfl, H1.out, H2.out.fromAlloc⟩
end Go.Proofs.YtdbdbaepmdmnfaaGreatDoor

namespace Go.Proofs.YtdbdbaepmdmnfaaGreatDoor
open Go.RowKit
theorem UJ.lt {W0 cb M lp rec us w} (h : UJ W0 cb M lp rec us w) : cb < w.heap.size := by
  obtain ⟨v0, hu0, _, _, _⟩ := h
  exact heap_lt hu0.1
set_option maxRecDepth 20000 in
set_option maxHeartbeats 4000000 in
theorem useE_store (W0 : World) (cb M lp : Nat) (rec : Bool) (t1 t2 : TypeId) (u1 u2 : Value) (x : ByteArray) (n1 n2 : List Use) (h1 : UseE W0 cb M lp rec (.iface t1 u1) n1) (h2 : UseE W0 cb M lp rec (.iface t2 u2) n2) : UseE W0 cb M lp rec (storeT (.iface t1 u1) x (.iface t2 u2)) (n1 ++ n2) := by
  intro us w hl h
  rw [List.length_append] at hl
  have hcl := UJ.lt h
  have HE := hide (h1 us _ (by omega) (h.calm (onlyA w (.cells #[.iface t1 u1, .string x, .iface t2 u2] 326))))
  have H2 := hide h2
  clear h h1 h2
  unfold storeT
  have e1 : ∀ W, (Instr.typeAssert (.iface 326 (.agg #[.iface t1 u1, .string x, .iface t2 u2])) 238 92 true).run Tryz.prog W = .ok (.tuple #[.agg #[.string ⟨#[]⟩, .int .i64 0], .bool false]) W := fun W => by kernel_rfl
  have e2 : ∀ W, (Instr.typeAssert (.iface 326 (.agg #[.iface t1 u1, .string x, .iface t2 u2])) 238 306 true).run Tryz.prog W = .ok (.tuple #[.agg #[.string ⟨#[]⟩, .int .i64 0, .slice none 0 0], .bool false]) W := fun W => by kernel_rfl
  have e3 : ∀ W, (Instr.typeAssert (.iface 326 (.agg #[.iface t1 u1, .string x, .iface t2 u2])) 238 309 true).run Tryz.prog W = .ok (.tuple #[.agg #[.nilIface], .bool false]) W := fun W => by kernel_rfl
  have e4 : ∀ W, (Instr.typeAssert (.iface 326 (.agg #[.iface t1 u1, .string x, .iface t2 u2])) 238 311 true).run Tryz.prog W = .ok (.tuple #[.agg #[.string ⟨#[]⟩, .int .i64 0, .slice none 0 0], .bool false]) W := fun W => by kernel_rfl
  have e5 : ∀ W, (Instr.typeAssert (.iface 326 (.agg #[.iface t1 u1, .string x, .iface t2 u2])) 238 312 true).run Tryz.prog W = .ok (.tuple #[.agg #[.string ⟨#[]⟩, .int .i64 0, .slice none 0 0], .bool false]) W := fun W => by kernel_rfl
  have e6 : ∀ W, (Instr.typeAssert (.iface 326 (.agg #[.iface t1 u1, .string x, .iface t2 u2])) 238 314 true).run Tryz.prog W = .ok (.tuple #[.agg #[.string ⟨#[]⟩, .nilIface], .bool false]) W := fun W => by kernel_rfl
  have e7 : ∀ W, (Instr.typeAssert (.iface 326 (.agg #[.iface t1 u1, .string x, .iface t2 u2])) 238 316 true).run Tryz.prog W = .ok (.tuple #[.agg #[.nilIface, .string ⟨#[]⟩, .nilIface], .bool false]) W := fun W => by kernel_rfl
  have e8 : ∀ W, (Instr.typeAssert (.iface 326 (.agg #[.iface t1 u1, .string x, .iface t2 u2])) 238 319 true).run Tryz.prog W = .ok (.tuple #[.agg #[.nilIface, .nilIface], .bool false]) W := fun W => by kernel_rfl
  have e9 : ∀ W, (Instr.typeAssert (.iface 326 (.agg #[.iface t1 u1, .string x, .iface t2 u2])) 238 321 true).run Tryz.prog W = .ok (.tuple #[.agg #[.nilIface, .string ⟨#[]⟩, .int .i64 0], .bool false]) W := fun W => by kernel_rfl
  have e10 : ∀ W, (Instr.typeAssert (.iface 326 (.agg #[.iface t1 u1, .string x, .iface t2 u2])) 238 323 true).run Tryz.prog W = .ok (.tuple #[.agg #[.nilIface, .nilIface, .nilIface], .bool false]) W := fun W => by kernel_rfl
  have ey : ∀ W, (Instr.typeAssert (.iface 326 (.agg #[.iface t1 u1, .string x, .iface t2 u2])) 238 326 true).run Tryz.prog W = .ok (.tuple #[.agg #[.iface t1 u1, .string x, .iface t2 u2], .bool true]) W := fun W => by kernel_rfl
  go_enter Tryz.func145, Tryz.ntmps145
  go_wp2_with fail
  refine (HE.out).mono ?_
  rintro en w2 ⟨rfl, hj, hk⟩
  have hb := hk w.heap.size _ _ _ (new0 w _) (by decide) (by omega)
  have b2 : w2.cell? ⟨w.heap.size, 2, none⟩ = some (.iface t2 u2) := cell_of hb rfl
  have HE2 := hide (H2.out (us ++ n1) w2 (by rw [List.length_append]; omega) hj)
  have HK := hide hk
  clear hj hk hb
  go_wp2_with fail
  refine (HE2.out).mono ?_
  rintro en w3 ⟨rfl, hj, hk⟩
  have HJ := hide hj
  have HK2 := hide hk
  clear hj hk
  go_wp2
  go_end0
  rw [← List.append_assoc]
  exact ⟨rfl, HJ.out, (HK.out.fromAlloc).trans HK2.out⟩
end Go.Proofs.YtdbdbaepmdmnfaaGreatDoor

namespace Go.Proofs.YtdbdbaepmdmnfaaGreatDoor
open Go.RowKit
/-- What the checker does with a statement. -/
def UseS (W0 : World) (cb M lp : Nat) (rec : Bool) (s : Value) (ns : List Use) : Prop :=
  ∀ (us : List Use) (w : World), us.length + ns.length ≤ 900 → UJ W0 cb M lp rec us w → Calls Tryz.prog 144 #[.pointer (some ⟨cb, 0, none⟩), s] w fun en w' => en = .returned (.tuple #[]) ∧ UJ W0 cb M lp rec (us ++ ns) w' ∧ UK cb w w'
theorem take_flat {α : Type} (nss : List (List α)) (k : Nat) (ns : List α) (h : nss[k]? = some ns) : (nss.take (k + 1)).flatten = (nss.take k).flatten ++ ns := by
  obtain ⟨hk, e⟩ := List.getElem?_eq_some_iff.1 h
  rw [List.take_succ_eq_append_getElem hk, List.flatten_append, e]
  simp
theorem take_flat_len {α : Type} (nss : List (List α)) (k : Nat) : (nss.take k).flatten.length ≤ nss.flatten.length := by
  conv => rhs; rw [← List.take_append_drop k nss, List.flatten_append, List.length_append]
  omega
set_option maxRecDepth 20000 in
set_option maxHeartbeats 4000000 in
theorem useEs (W0 : World) (cb M lp : Nat) (rec : Bool) (g cap : Nat) (es : List Value) (nss : List (List Use)) (hnl : nss.length = es.length) (hel : es.length ≤ 900) (hE : ∀ (i : Nat) e ns, es[i]? = some e → nss[i]? = some ns → UseE W0 cb M lp rec e ns) (hif : ∀ (i : Nat) e, es[i]? = some e → ∃ t x, e = .iface t x)
    (us : List Use) (w : World) (hl : us.length + nss.flatten.length ≤ 900) (h : UJ W0 cb M lp rec us w) (c : Array Value) (t : TypeId) (hb : w.heap[g]? = some (.cells c t (0, 0))) (ht : t ≠ 227) (hg : g ≠ cb) (hc : ∀ (i : Nat) e, es[i]? = some e → c[i]? = some e) :
    Calls Tryz.prog 114 #[.pointer (some ⟨cb, 0, none⟩), .slice (some ⟨g, 0, none⟩) es.length cap] w fun en w' => en = .returned (.tuple #[]) ∧ UJ W0 cb M lp rec (us ++ nss.flatten) w' ∧ UK cb w w' := by
  have HE := hide hE
  have HI := hide hif
  have HJ := hide h
  have HB := hide hb
  have HC := hide hc
  have HL := hide hl
  have HNL := hide hnl
  clear hE hif h hb hc hl hnl
  go_enter Tryz.func114, Tryz.ntmps114
  go_wp2
  go_loopg [8] es.length (fun gh s wr => ∃ k : Nat, k ≤ es.length ∧ gh = es.length - k ∧ s = .int .i64 k ∧ UJ W0 cb M lp rec (us ++ (nss.take k).flatten) wr ∧ UK cb w wr)
  case atStart => exact ⟨0, Nat.zero_le _, rfl, rfl, by simpa using HJ.out, UK.refl _ _⟩
  case round =>
    obtain ⟨k, hk, hgh, rfl, hj, hu⟩ := hrel
    by_cases hlt : k < es.length
    · obtain ⟨e, he⟩ : ∃ e, es[k]? = some e := ⟨_, List.getElem?_eq_getElem hlt⟩
      obtain ⟨ns, hns⟩ : ∃ ns, nss[k]? = some ns := ⟨_, List.getElem?_eq_getElem (by rw [HNL.out]; exact hlt)⟩
      obtain ⟨ti, xi, rfl⟩ := HI.out k e he
      have ck : wr.cell? ⟨g, k, none⟩ = some (.iface ti xi) := cell_of (hu g c t (0, 0) HB.out ht hg) (HC.out k _ he)
      have hfl := take_flat nss k ns hns
      have h1 := HE.out k _ ns he hns (us ++ (nss.take k).flatten) wr (by
        have h8 := take_flat_len nss (k + 1)
        have h9 := HL.out
        rw [hfl, List.length_append] at h8
        rw [List.length_append]
        omega) hj
      rw [List.append_assoc, ← hfl] at h1
      have H1 := hide h1
      have HU := hide hu
      have hki : (k : Int) < (es.length : Int) := by omega
      have HG := hide hgh
      clear h1 hj hu he hns hfl hgh
      go_wp2_with (go_at_call 145; refine (H1.out).mono ?_; rintro en w2 ⟨rfl, h3, h4⟩; have H3 := hide h3; have H4 := hide h4; clear h3 h4)
      go_roundg (es.length - (k + 1))
      case measure => rw [HG.out]; omega
      case rel => exact ⟨k + 1, by omega, rfl, by go_num, H3.out, HU.out.trans H4.out⟩
    · obtain rfl : k = es.length := by omega
      have hki : ¬ (es.length : Int) < (es.length : Int) := by omega
      have HJ2 := hide hj
      have HU := hide hu
      clear hj hu
      go_wp2
      go_end0
      have := HJ2.out
      rw [← HNL.out, List.take_length] at this
      exact ⟨rfl, this, HU.out⟩
set_option maxRecDepth 20000 in
set_option maxHeartbeats 4000000 in
theorem useSs (W0 : World) (cb M lp : Nat) (rec : Bool) (g cap : Nat) (es : List Value) (nss : List (List Use)) (hnl : nss.length = es.length) (hel : es.length ≤ 900) (hE : ∀ (i : Nat) e ns, es[i]? = some e → nss[i]? = some ns → UseS W0 cb M lp rec e ns) (hif : ∀ (i : Nat) e, es[i]? = some e → ∃ t x, e = .iface t x)
    (us : List Use) (w : World) (hl : us.length + nss.flatten.length ≤ 900) (h : UJ W0 cb M lp rec us w) (c : Array Value) (t : TypeId) (hb : w.heap[g]? = some (.cells c t (0, 0))) (ht : t ≠ 227) (hg : g ≠ cb) (hc : ∀ (i : Nat) e, es[i]? = some e → c[i]? = some e) :
    Calls Tryz.prog 113 #[.pointer (some ⟨cb, 0, none⟩), .slice (some ⟨g, 0, none⟩) es.length cap] w fun en w' => en = .returned (.tuple #[]) ∧ UJ W0 cb M lp rec (us ++ nss.flatten) w' ∧ UK cb w w' := by
  have HE := hide hE
  have HI := hide hif
  have HJ := hide h
  have HB := hide hb
  have HC := hide hc
  have HL := hide hl
  have HNL := hide hnl
  clear hE hif h hb hc hl hnl
  go_enter Tryz.func113, Tryz.ntmps113
  go_wp2
  go_loopg [8] es.length (fun gh s wr => ∃ k : Nat, k ≤ es.length ∧ gh = es.length - k ∧ s = .int .i64 k ∧ UJ W0 cb M lp rec (us ++ (nss.take k).flatten) wr ∧ UK cb w wr)
  case atStart => exact ⟨0, Nat.zero_le _, rfl, rfl, by simpa using HJ.out, UK.refl _ _⟩
  case round =>
    obtain ⟨k, hk, hgh, rfl, hj, hu⟩ := hrel
    by_cases hlt : k < es.length
    · obtain ⟨e, he⟩ : ∃ e, es[k]? = some e := ⟨_, List.getElem?_eq_getElem hlt⟩
      obtain ⟨ns, hns⟩ : ∃ ns, nss[k]? = some ns := ⟨_, List.getElem?_eq_getElem (by rw [HNL.out]; exact hlt)⟩
      obtain ⟨ti, xi, rfl⟩ := HI.out k e he
      have ck : wr.cell? ⟨g, k, none⟩ = some (.iface ti xi) := cell_of (hu g c t (0, 0) HB.out ht hg) (HC.out k _ he)
      have hfl := take_flat nss k ns hns
      have h1 := HE.out k _ ns he hns (us ++ (nss.take k).flatten) wr (by
        have h8 := take_flat_len nss (k + 1)
        have h9 := HL.out
        rw [hfl, List.length_append] at h8
        rw [List.length_append]
        omega) hj
      rw [List.append_assoc, ← hfl] at h1
      have H1 := hide h1
      have HU := hide hu
      have hki : (k : Int) < (es.length : Int) := by omega
      have HG := hide hgh
      clear h1 hj hu he hns hfl hgh
      go_wp2_with (go_at_call 144; refine (H1.out).mono ?_; rintro en w2 ⟨rfl, h3, h4⟩; have H3 := hide h3; have H4 := hide h4; clear h3 h4)
      go_roundg (es.length - (k + 1))
      case measure => rw [HG.out]; omega
      case rel => exact ⟨k + 1, by omega, rfl, by go_num, H3.out, HU.out.trans H4.out⟩
    · obtain rfl : k = es.length := by omega
      have hki : ¬ (es.length : Int) < (es.length : Int) := by omega
      have HJ2 := hide hj
      have HU := hide hu
      clear hj hu
      go_wp2
      go_end0
      have := HJ2.out
      rw [← HNL.out, List.take_length] at this
      exact ⟨rfl, this, HU.out⟩
end Go.Proofs.YtdbdbaepmdmnfaaGreatDoor

namespace Go.Proofs.YtdbdbaepmdmnfaaGreatDoor
open Go.RowKit
/-- A row of trees, as it lies since W0. -/
theorem row_block {W0 w : World} {cb : Nat} {B : Nat} {e : TypeId} {v : Value} {n : Nat} {xs : List Value} (h : W0.ownsRow B e 1 v n xs) (hn : 0 < n) (hcb : v.ownBlock ≠ some cb) (ho : Only (fun k => k = cb) W0 w) : ∃ g cap c, v = .slice (some ⟨g, 0, none⟩) n cap ∧ g ≠ cb ∧ w.heap[g]? = some (.cells c e (0, 0)) ∧ ∀ (i : Nat) x, xs[i]? = some x → c[i]? = some x := by
  rcases h.2 with ⟨rfl, h1⟩ | ⟨g, cap, cur, rfl, h1, h2, h3, h4, h5, h6⟩
  · omega
  · refine ⟨g, cap, cur, rfl, fun e => hcb (by rw [e]; rfl), (ho.block g (heap_lt h2) (fun e => hcb (by rw [e]; rfl))).trans h2, fun i x hx => ?_⟩
    have hl := (List.getElem?_eq_some_iff.1 hx).1
    have : (cur.toList.take (n * 1))[i]? = some x := by rw [h6]; exact hx
    rw [List.getElem?_take] at this
    split at this
    · rw [Array.getElem?_toList] at this
      exact this
    · cases this
set_option maxRecDepth 20000 in
set_option maxHeartbeats 4000000 in
theorem useS_printL (W0 : World) (cb M lp : Nat) (rec : Bool) (pb : Nat) (r : Value) (t1 : TypeId) (u1 : Value) (ns : List Use) (hr : Row pb [.iface t1 u1] W0 r) (hcb : r.ownBlock ≠ some cb) (hE : UseE W0 cb M lp rec (.iface t1 u1) ns) : UseS W0 cb M lp rec (.iface 285 (.agg #[r, .nilIface])) ns := by
  intro us w hl h
  have hlc := UJ.lt h
  obtain ⟨g, cap, c, rfl, hg, hb, hc⟩ := row_block hr.1 (by simp) hcb (by obtain ⟨_, _, _, ho, _⟩ := h; exact ho)
  have hb2 := (Below.heap_alloc w (.cells #[.slice (some ⟨g, 0, none⟩) 1 cap, .nilIface] 285) g (heap_lt hb)).trans hb
  have h1 := useEs W0 cb M lp rec g cap [.iface t1 u1] [ns] rfl (by simp) (fun i e n h1 h2 => by
    cases i with
    | zero => cases h1; cases h2; exact hE
    | succ i => cases h1) (fun i e h1 => by
    cases i with
    | zero => cases h1; exact ⟨_, _, rfl⟩
    | succ i => cases h1) us _ (by simpa using hl) (h.calm (onlyA w (.cells #[.slice (some ⟨g, 0, none⟩) 1 cap, .nilIface] 285))) c _ hb2 (by decide) hg hc
  refine (ustmt_printL cb (some ⟨g, 0, none⟩) 1 cap (fun w' => UJ W0 cb M lp rec (us ++ ns) w' ∧ UK cb (w.alloc (.cells #[.slice (some ⟨g, 0, none⟩) 1 cap, .nilIface] 285)) w') w (h1.mono (fun en w' hh => ⟨hh.1, by simpa using hh.2.1, hh.2.2⟩)) (fun W hW => ⟨_, hW.2 w.heap.size _ _ _ (new0 w _) (by decide) (by omega)⟩)).mono ?_
  rintro en w' ⟨rfl, h2, h3⟩
  exact ⟨rfl, h2, h3.fromAlloc⟩
theorem useS_work (W0 : World) (cb M lp : Nat) (rec : Bool) (t : TypeId) (u : Value) (ns : List Use) (hE : UseE W0 cb M lp rec (.iface t u) ns) : UseS W0 cb M lp rec (.iface 350 (.agg #[.iface t u])) ns := by
  intro us w hl h
  refine (ustmt_work cb t u (fun w' => UJ W0 cb M lp rec (us ++ ns) w' ∧ UK cb w w') w (fun W hW => (hE us W hl (h.calm hW)).mono (fun en w' hh => ⟨hh.1, hh.2.1, (UK.ofOnly (hW.mono (fun _ _ e => e.elim))).trans hh.2.2⟩))).mono ?_
  rintro en w' hh
  exact hh
end Go.Proofs.YtdbdbaepmdmnfaaGreatDoor

namespace Go.Proofs.YtdbdbaepmdmnfaaGreatDoor
open Go.RowKit
theorem UJ.setLp {W0 cb M lp rec us w} (h : UJ W0 cb M lp rec us w) (l : Nat) : UJ W0 cb M l rec us (w.setCell ⟨cb, 4, none⟩ (.int .i64 l)) := by
  obtain ⟨v, h1, h2, h3, h4⟩ := h
  refine ⟨v, ⟨heap_setCell_same h1.1 _, (Below.heap_setCell _ _ _ _ h1.ne).trans h1.2⟩, ownsRow_of h2 (fun k hk => Below.heap_setCell _ _ _ _ (fun e => own_tag h2 h1.1 (by decide) (by rw [hk, e]))), h3.setCell (p := ⟨cb, 4, none⟩) (fun _ => rfl) _, h4⟩
theorem UK.setCell {cb : Nat} {a b : World} (h : UK cb a b) (o : Nat) (u : Value) : UK cb a (b.setCell ⟨cb, o, none⟩ u) := fun q x t f hq ht hc => (Below.heap_setCell _ _ _ _ hc).trans (h q x t f hq ht hc)
set_option maxRecDepth 20000 in
set_option maxHeartbeats 4000000 in
theorem useLoop (W0 : World) (cb M lp : Nat) (hlp : lp ≤ 1000) (rec : Bool) (body : Value) (hsl : ∃ po n cap, body = .slice po n cap) (ns us : List Use) (w : World) (h : UJ W0 cb M lp rec us w)
    (h1 : ∀ W, UJ W0 cb M (lp + 1) rec us W → UK cb w W → Calls Tryz.prog 113 #[.pointer (some ⟨cb, 0, none⟩), body] W fun en w' => en = .returned (.tuple #[]) ∧ UJ W0 cb M (lp + 1) rec (us ++ ns) w' ∧ UK cb W w') :
    Calls Tryz.prog 185 #[.pointer (some ⟨cb, 0, none⟩), body] w fun en w' => en = .returned (.tuple #[]) ∧ UJ W0 cb M lp rec (us ++ ns) w' ∧ UK cb w w' := by
  obtain ⟨po, n, cap, rfl⟩ := hsl
  have hj := h.setLp (lp + 1)
  have hk := (UK.refl cb w).setCell 4 (.int .i64 ((lp + 1 : Nat) : Int))
  have c4 : w.cell? ⟨cb, 4, none⟩ = some (.int .i64 lp) := by obtain ⟨v, h1, _⟩ := h; exact cell_of h1.1 rfl
  have cf : ∀ o, w.frozen? ⟨cb, o, none⟩ = false := by obtain ⟨v, h1, _⟩ := h; exact free_of h1.1
  have hcl := h.lt
  have H1 := hide (h1 _ hj hk)
  have HK := hide hk
  clear h h1 hj hk
  have e1 : ((lp + 1 : Nat) : Int) = (lp : Int) + 1 := by omega
  rw [e1] at H1 HK
  go_enter Tryz.func185, Tryz.ntmps185
  go_wp2_with fail
  refine (H1.out).mono ?_
  rintro en w2 ⟨rfl, hj2, hk2⟩
  have d4 : w2.cell? ⟨cb, 4, none⟩ = some (.int .i64 ((lp : Int) + 1)) := by obtain ⟨v, h1, _⟩ := hj2; have := cell_of (o := 4) h1.1 rfl; rw [this]; rfl
  have df : ∀ o, w2.frozen? ⟨cb, o, none⟩ = false := by obtain ⟨v, h1, _⟩ := hj2; exact free_of h1.1
  have HJ := hide (hj2.setLp lp)
  have HK2 := hide (HK.out.trans hk2)
  clear hj2 hk2 H1
  go_wp2
  go_end0
  exact ⟨rfl, HJ.out, HK2.out.setCell 4 _⟩
end Go.Proofs.YtdbdbaepmdmnfaaGreatDoor

namespace Go.Proofs.YtdbdbaepmdmnfaaGreatDoor
open Go.RowKit
set_option maxRecDepth 20000 in
set_option maxHeartbeats 4000000 in
theorem cmp_int (x y : Int) (h : y < x) (w : World) : Calls Tryz.prog 117 #[.int .i64 x, .int .i64 y] w fun en w' => en = .returned (.int .i64 1) ∧ w' = w := by
  have h1 : ¬ x < y := by omega
  go_enter Tryz.func117, Tryz.ntmps117
  go_wp2
  go_ret
  exact ⟨rfl, rfl⟩
set_option maxRecDepth 20000 in
set_option maxHeartbeats 4000000 in
theorem cmp_use (x y : ByteArray) (a b i j : Nat) (h : b < a) (w : World) : Calls Tryz.prog 116 #[.agg #[.string x, .int .i64 a, .int .i64 i], .agg #[.string y, .int .i64 b, .int .i64 j]] w fun en w' => en = .returned (.int .i64 1) ∧ Only (fun _ => False) w w' := by
  have HC := hide (cmp_int a b (by omega))
  go_enter Tryz.func116, Tryz.ntmps116
  go_wp2_with (go_at_call 117; refine (HC.out _).mono ?_; rintro en w' ⟨rfl, h3⟩; subst w')
  go_ret
  exact ⟨rfl, (onlyA _ _).alloc _⟩
theorem keepD {w w' : World} (ho : Only (fun _ => False) w.drew w') {p : Addr} {v : Value} (h : w.cell? p = some v) : w'.cell? p = some v := (ho.cell (p := p) (World.block_lt_of_cell? w p h) (fun e => e)).trans h
theorem cf_cmp (args : Array Value) (w : World) : (callFunc 116 args).run Tryz.prog w = .ok (.enter 116 args) w := callFunc_in Tryz.func116 (by kernel_rfl) rfl args w
end Go.Proofs.YtdbdbaepmdmnfaaGreatDoor

namespace Go.Proofs.YtdbdbaepmdmnfaaGreatDoor
open Go.RowKit
set_option maxRecDepth 20000 in
set_option maxHeartbeats 4000000 in
theorem useE_str (W0 : World) (cb M lp : Nat) (rec : Bool) (x : ByteArray) : UseE W0 cb M lp rec (strT x) [] := by
  intro us w hl h
  refine (uexpr_str _ _ w).mono ?_
  rintro en w' ⟨rfl, rfl⟩
  rw [List.append_nil]
  exact ⟨rfl, h, UK.refl _ _⟩
set_option maxRecDepth 20000 in
set_option maxHeartbeats 4000000 in
theorem useE_join (W0 : World) (cb M lp : Nat) (rec : Bool) (t1 t2 : TypeId) (u1 u2 : Value) (n1 n2 : List Use) (h1 : UseE W0 cb M lp rec (.iface t1 u1) n1) (h2 : UseE W0 cb M lp rec (.iface t2 u2) n2) : UseE W0 cb M lp rec (joinT (.iface t1 u1) (.iface t2 u2)) (n1 ++ n2) := by
  intro us w hl h
  rw [List.length_append] at hl
  have hcl := UJ.lt h
  have HE := hide (h1 us _ (by omega) (h.calm (onlyA w (.cells #[.iface t1 u1, .iface t2 u2] 319))))
  have H2 := hide h2
  clear h h1 h2
  unfold joinT
  have e0 : ∀ W, (Instr.typeAssert (.iface 319 (.agg #[.iface t1 u1, .iface t2 u2])) 238 92 true).run Tryz.prog W = .ok (.tuple #[.agg #[.string ⟨#[]⟩, .int .i64 0], .bool false]) W := fun W => by kernel_rfl
  have e1 : ∀ W, (Instr.typeAssert (.iface 319 (.agg #[.iface t1 u1, .iface t2 u2])) 238 306 true).run Tryz.prog W = .ok (.tuple #[.agg #[.string ⟨#[]⟩, .int .i64 0, .slice none 0 0], .bool false]) W := fun W => by kernel_rfl
  have e2 : ∀ W, (Instr.typeAssert (.iface 319 (.agg #[.iface t1 u1, .iface t2 u2])) 238 309 true).run Tryz.prog W = .ok (.tuple #[.agg #[.nilIface], .bool false]) W := fun W => by kernel_rfl
  have e3 : ∀ W, (Instr.typeAssert (.iface 319 (.agg #[.iface t1 u1, .iface t2 u2])) 238 311 true).run Tryz.prog W = .ok (.tuple #[.agg #[.string ⟨#[]⟩, .int .i64 0, .slice none 0 0], .bool false]) W := fun W => by kernel_rfl
  have e4 : ∀ W, (Instr.typeAssert (.iface 319 (.agg #[.iface t1 u1, .iface t2 u2])) 238 312 true).run Tryz.prog W = .ok (.tuple #[.agg #[.string ⟨#[]⟩, .int .i64 0, .slice none 0 0], .bool false]) W := fun W => by kernel_rfl
  have e5 : ∀ W, (Instr.typeAssert (.iface 319 (.agg #[.iface t1 u1, .iface t2 u2])) 238 314 true).run Tryz.prog W = .ok (.tuple #[.agg #[.string ⟨#[]⟩, .nilIface], .bool false]) W := fun W => by kernel_rfl
  have e6 : ∀ W, (Instr.typeAssert (.iface 319 (.agg #[.iface t1 u1, .iface t2 u2])) 238 316 true).run Tryz.prog W = .ok (.tuple #[.agg #[.nilIface, .string ⟨#[]⟩, .nilIface], .bool false]) W := fun W => by kernel_rfl
  have ey : ∀ W, (Instr.typeAssert (.iface 319 (.agg #[.iface t1 u1, .iface t2 u2])) 238 319 true).run Tryz.prog W = .ok (.tuple #[.agg #[.iface t1 u1, .iface t2 u2], .bool true]) W := fun W => by kernel_rfl
  go_enter Tryz.func145, Tryz.ntmps145
  go_wp2_with fail
  refine (HE.out).mono ?_
  rintro en w2 ⟨rfl, hj, hk⟩
  have hb := hk w.heap.size _ _ _ (new0 w _) (by decide) (by omega)
  have b1 : w2.cell? ⟨w.heap.size, 1, none⟩ = some (.iface t2 u2) := cell_of hb rfl
  have HE2 := hide (H2.out (us ++ n1) w2 (by rw [List.length_append]; omega) hj)
  have HK := hide hk
  clear hj hk hb
  go_wp2_with fail
  refine (HE2.out).mono ?_
  rintro en w3 ⟨rfl, hj, hk⟩
  have HJ := hide hj
  have HK2 := hide hk
  clear hj hk
  go_wp2
  go_end0
  rw [← List.append_assoc]
  exact ⟨rfl, HJ.out, (HK.out.fromAlloc).trans HK2.out⟩
set_option maxRecDepth 20000 in
set_option maxHeartbeats 4000000 in
theorem useE_elem (W0 : World) (cb M lp : Nat) (rec : Bool) (pb : Nat) (x : ByteArray) (a : Nat) (r : Value) (t1 : TypeId) (u1 : Value) (ns : List Use) (hr : Row pb [.iface t1 u1] W0 r) (hcb : r.ownBlock ≠ some cb) (hE : UseE W0 cb M lp rec (.iface t1 u1) ns) : UseE W0 cb M lp rec (.iface 306 (.agg #[.string x, .int .i64 a, r])) ((x, a, 1) :: ns) := by
  intro us w hl h
  have hl' : us.length + 1 + ns.length ≤ 900 := by simp at hl; omega
  have hlc := UJ.lt h
  obtain ⟨g, cap, c, rfl, hg, hb, hc⟩ := row_block hr.1 (by simp) hcb (by obtain ⟨_, _, _, ho, _⟩ := h; exact ho)
  have HN := hide (uname_any W0 cb M lp rec us (by omega) x a 1 _ (h.calm (onlyA w (.cells #[.string x, .int .i64 a, .slice (some ⟨g, 0, none⟩) 1 cap] 306))))
  have HB := hide hb
  have HC := hide hc
  have HE := hide hE
  clear h hb hc hr hE
  have e0 : ∀ W, (Instr.typeAssert (.iface 306 (.agg #[.string x, .int .i64 a, .slice (some ⟨g, 0, none⟩) 1 cap])) 238 92 true).run Tryz.prog W = .ok (.tuple #[.agg #[.string ⟨#[]⟩, .int .i64 0], .bool false]) W := fun W => by kernel_rfl
  have ey : ∀ W, (Instr.typeAssert (.iface 306 (.agg #[.string x, .int .i64 a, .slice (some ⟨g, 0, none⟩) 1 cap])) 238 306 true).run Tryz.prog W = .ok (.tuple #[.agg #[.string x, .int .i64 a, .slice (some ⟨g, 0, none⟩) 1 cap], .bool true]) W := fun W => by kernel_rfl
  go_enter Tryz.func145, Tryz.ntmps145
  go_wp2_with fail
  refine (HN.out).mono ?_
  rintro en w2 ⟨rfl, hj, hk⟩
  have hbx := hk w.heap.size _ _ _ (new0 w _) (by decide) (by omega)
  have b2 : w2.cell? ⟨w.heap.size, 2, none⟩ = some (.slice (some ⟨g, 0, none⟩) 1 cap) := cell_of hbx rfl
  have hb2 := hk g c 238 (0, 0) ((Below.heap_alloc _ _ _ (heap_lt HB.out)).trans HB.out) (by decide) hg
  have h1 := useEs W0 cb M lp rec g cap [.iface t1 u1] [ns] rfl (by simp) (fun i e n h1 h2 => by
    cases i with
    | zero => cases h1; cases h2; exact HE.out
    | succ i => cases h1) (fun i e h1 => by
    cases i with
    | zero => cases h1; exact ⟨_, _, rfl⟩
    | succ i => cases h1) (us ++ [(x, a, 1)]) w2 (by simp; omega) hj c _ hb2 (by decide) hg HC.out
  have H1 : Hid (Calls Tryz.prog 114 #[.pointer (some ⟨cb, 0, none⟩), .slice (some ⟨g, 0, none⟩) 1 cap] w2 fun en w' => en = .returned (.tuple #[]) ∧ UJ W0 cb M lp rec (us ++ [(x, a, 1)] ++ [ns].flatten) w' ∧ UK cb w2 w') := hide h1
  have HK := hide hk
  clear h1 hj hk hbx hb2
  go_wp2_with fail
  refine (H1.out).mono ?_
  rintro en w3 ⟨rfl, hj, hk⟩
  have HJ := hide hj
  have HK2 := hide hk
  clear hj hk
  go_wp2
  go_end0
  refine ⟨rfl, ?_, (HK.out.fromAlloc).trans HK2.out⟩
  have := HJ.out
  simpa using this
end Go.Proofs.YtdbdbaepmdmnfaaGreatDoor

namespace Go.Proofs.YtdbdbaepmdmnfaaGreatDoor
open Go.RowKit
set_option maxRecDepth 20000 in
set_option maxHeartbeats 1000000 in
theorem argCounts_split (w : World) : Calls Tryz.prog 256 #[.string ⟨#[115, 112, 108, 105, 116]⟩] w fun en w' => en = .returned (.tuple #[.int .i64 2, .int .i64 3]) ∧ w' = w := by
  go_enter Tryz.func256, Tryz.ntmps256
  go_wp2
  go_ret2
  exact ⟨rfl, rfl⟩
set_option maxRecDepth 20000 in
set_option maxHeartbeats 1000000 in
theorem isReplacing_split (w : World) : Calls Tryz.prog 257 #[.string ⟨#[115, 112, 108, 105, 116]⟩] w fun en w' => en = .returned (.bool false) ∧ w' = w := by
  go_enter Tryz.func257, Tryz.ntmps257
  go_wp2
  go_ret
  exact ⟨rfl, rfl⟩
set_option maxRecDepth 20000 in
set_option maxHeartbeats 1000000 in
theorem uarg_expr (W0 : World) (cb M lp : Nat) (rec : Bool) (x : ByteArray) (a : Nat) (t : TypeId) (e : Value) (ns us : List Use) (hE : UseE W0 cb M lp rec (.iface t e) ns) (w : World) (hl : us.length + ns.length ≤ 900) (h : UJ W0 cb M lp rec us w) :
    Calls Tryz.prog 255 #[.pointer (some ⟨cb, 0, none⟩), .agg #[.string x, .int .i64 a], .iface t e, .bool false] w fun en w' => en = .returned (.tuple #[]) ∧ UJ W0 cb M lp rec (us ++ ns) w' ∧ UK cb w w' := by
  have H1 := hide (hE us _ hl (h.calm (onlyA w (.cells #[.string x, .int .i64 a] 92))))
  clear h hE
  go_enter Tryz.func255, Tryz.ntmps255
  go_wp2_with (go_at_call 145; refine (H1.out).mono ?_; rintro en w2 ⟨rfl, h3, h4⟩; have H3 := hide h3; have H4 := hide h4; clear h3 h4)
  refine bodyPost_ret (results_none rfl _ _ _) rfl ?_
  exact ⟨rfl, H3.out, H4.out.fromAlloc⟩
set_option maxRecDepth 20000 in
set_option maxHeartbeats 2000000 in
theorem uarg_array (W0 : World) (cb M lp : Nat) (rec : Bool) (x : ByteArray) (a : Nat) (y : ByteArray) (b : Nat) (us : List Use) (w : World) (hl : us.length ≤ 900) (h : UJ W0 cb M lp rec us w) :
    Calls Tryz.prog 255 #[.pointer (some ⟨cb, 0, none⟩), .agg #[.string x, .int .i64 a], nameV y b, .bool true] w fun en w' => en = .returned (.tuple #[]) ∧ UJ W0 cb M lp rec (us ++ [(y, b, 1)]) w' ∧ UK cb w w' := by
  have HN := hide (fun W (hW : UJ W0 cb M lp rec us W) => uname_any W0 cb M lp rec us (by omega) y b 1 W hW)
  have hcl := UJ.lt h
  have HJ := hide h
  have e0 := ta_key
  clear h
  unfold nameV
  go_enter Tryz.func255, Tryz.ntmps255
  go_wp2_with fail
  refine (HN.out _ ((HJ.out.calm (onlyA _ _)).calm (onlyA _ _))).mono ?_
  rintro en w2 ⟨rfl, h3, h4⟩
  have H3 := hide h3
  have H4 := hide h4
  clear h3 h4
  go_wp2
  go_end0
  exact ⟨rfl, H3.out, H4.out.fromAlloc.fromAlloc⟩
set_option maxRecDepth 20000 in
set_option maxHeartbeats 4000000 in
theorem uown_split (W0 : World) (cb M lp : Nat) (rec : Bool) (a : Nat) (t : TypeId) (e : Value) (y : ByteArray) (b : Nat) (ns us : List Use) (hE : UseE W0 cb M lp rec (.iface t e) ns) (g cap : Nat) (c : Array Value) (w : World) (hl : us.length + ns.length ≤ 899) (h : UJ W0 cb M lp rec us w) (hb : w.heap[g]? = some (.cells c 238 (0, 0))) (hg : g ≠ cb) (hc : ∀ (i : Nat) u, [.iface t e, nameV y b][i]? = some u → c[i]? = some u) :
    Calls Tryz.prog 189 #[.pointer (some ⟨cb, 0, none⟩), .agg #[.string ⟨#[115, 112, 108, 105, 116]⟩, .int .i64 a, .slice (some ⟨g, 0, none⟩) 2 cap]] w fun en w' => en = .returned (.tuple #[]) ∧ UJ W0 cb M lp rec (us ++ ns ++ [(y, b, 1)]) w' ∧ UK cb w w' := by
  have HC := hide argCounts_split
  have HI := hide isReplacing_split
  have hcl := UJ.lt h
  have HB := hide hb
  have HCc := hide hc
  have HE := hide hE
  have HJ := hide h
  clear h hb hc hE
  go_enter Tryz.func189, Tryz.ntmps189
  go_wp2_with (first | (go_at_call 256; refine (HC.out _).mono ?_; rintro en w' ⟨rfl, rfl⟩) | (go_at_call 257; refine (HI.out _).mono ?_; rintro en w' ⟨rfl, rfl⟩))
  go_loopg [59] 2 (fun gh s59 wr => ∃ k : Nat, k ≤ 2 ∧ gh = 2 - k ∧ s59 = .int .i64 k ∧ UJ W0 cb M lp rec (us ++ (if 1 ≤ k then ns else []) ++ (if 2 ≤ k then [(y, b, 1)] else [])) wr ∧ UK cb (w.alloc (.cells #[.string ⟨#[115, 112, 108, 105, 116]⟩, .int .i64 a, .slice (some ⟨g, 0, none⟩) 2 cap] 312)) wr)
  case atStart => exact ⟨0, by omega, rfl, rfl, by simpa using HJ.out.calm (onlyA _ _), UK.refl _ _⟩
  case round =>
    obtain ⟨k, hk, hgh, rfl, hj, hu⟩ := hrel
    have hbx := hu w.heap.size _ _ _ (new0 w (.cells #[.string ⟨#[115, 112, 108, 105, 116]⟩, .int .i64 a, .slice (some ⟨g, 0, none⟩) 2 cap] 312)) (by decide) (by omega)
    have b0 : wr.cell? ⟨w.heap.size, 0, none⟩ = some (.string ⟨#[115, 112, 108, 105, 116]⟩) := cell_of hbx rfl
    have b1 : wr.cell? ⟨w.heap.size, 1, none⟩ = some (.int .i64 a) := cell_of hbx rfl
    have hbg := hu g c 238 (0, 0) ((Below.heap_alloc _ _ _ (heap_lt HB.out)).trans HB.out) (by decide) hg
    have e0' : wr.cell? ⟨g, 0, none⟩ = some (.iface t e) := cell_of hbg (HCc.out 0 _ rfl)
    have e1' : wr.cell? ⟨g, 1, none⟩ = some (nameV y b) := cell_of hbg (HCc.out 1 _ rfl)
    have HU := hide hu
    clear hbx hbg hu
    by_cases h0 : k = 0
    · subst h0
      have HAr := hide (uarg_expr W0 cb M lp rec ⟨#[115, 112, 108, 105, 116]⟩ a t e ns us HE.out wr (by omega) (by simpa using hj))
      clear hj
      go_wp2_with (go_at_call 255; refine (HAr.out).mono ?_; rintro en w2 ⟨rfl, h3, h4⟩; have H3 := hide h3; have H4 := hide h4; clear h3 h4)
      go_roundg 1
      case measure => omega
      case rel => exact ⟨1, by omega, rfl, rfl, by simpa using H3.out, HU.out.trans H4.out⟩
    · by_cases h1 : k = 1
      · subst h1
        have HAr := hide (uarg_array W0 cb M lp rec ⟨#[115, 112, 108, 105, 116]⟩ a y b (us ++ ns) wr (by simp; omega) (by simpa using hj))
        clear hj
        unfold nameV at HAr e1'
        go_wp2_with (go_at_call 255; refine (HAr.out).mono ?_; rintro en w2 ⟨rfl, h3, h4⟩; have H3 := hide h3; have H4 := hide h4; clear h3 h4)
        go_roundg 0
        case measure => omega
        case rel => exact ⟨2, by omega, rfl, rfl, by simpa using H3.out, HU.out.trans H4.out⟩
      · obtain rfl : k = 2 := by omega
        have HJ2 := hide hj
        clear hj
        go_wp2
        go_end0
        exact ⟨rfl, by simpa using HJ2.out, HU.out.fromAlloc⟩
set_option maxRecDepth 20000 in
set_option maxHeartbeats 4000000 in
theorem useE_split (W0 : World) (cb M lp : Nat) (rec : Bool) (pb : Nat) (a : Nat) (t : TypeId) (e : Value) (y : ByteArray) (b : Nat) (ns : List Use) (hE : UseE W0 cb M lp rec (.iface t e) ns) (r : Value) (hr : Row pb [.iface t e, nameV y b] W0 r) (hcb : r.ownBlock ≠ some cb) : UseE W0 cb M lp rec (.iface 312 (.agg #[.string ⟨#[115, 112, 108, 105, 116]⟩, .int .i64 a, r])) (ns ++ [(y, b, 1)]) := by
  intro us w hl h
  have hlc := UJ.lt h
  obtain ⟨g, cap, c, rfl, hg, hb, hc⟩ := row_block hr.1 (by simp) hcb (by obtain ⟨_, _, _, ho, _⟩ := h; exact ho)
  have H1 := hide (uown_split W0 cb M lp rec a t e y b ns us hE g cap c _ (by simp at hl; omega) (h.calm (onlyA w (.cells #[.string ⟨#[115, 112, 108, 105, 116]⟩, .int .i64 a, .slice (some ⟨g, 0, none⟩) 2 cap] 312))) ((Below.heap_alloc _ _ _ (heap_lt hb)).trans hb) hg hc)
  clear h hb hc hr hE
  have e0 : ∀ W, (Instr.typeAssert (.iface 312 (.agg #[.string ⟨#[115, 112, 108, 105, 116]⟩, .int .i64 a, .slice (some ⟨g, 0, none⟩) 2 cap])) 238 92 true).run Tryz.prog W = .ok (.tuple #[.agg #[.string ⟨#[]⟩, .int .i64 0], .bool false]) W := fun W => by kernel_rfl
  have e1 : ∀ W, (Instr.typeAssert (.iface 312 (.agg #[.string ⟨#[115, 112, 108, 105, 116]⟩, .int .i64 a, .slice (some ⟨g, 0, none⟩) 2 cap])) 238 306 true).run Tryz.prog W = .ok (.tuple #[.agg #[.string ⟨#[]⟩, .int .i64 0, .slice none 0 0], .bool false]) W := fun W => by kernel_rfl
  have e2 : ∀ W, (Instr.typeAssert (.iface 312 (.agg #[.string ⟨#[115, 112, 108, 105, 116]⟩, .int .i64 a, .slice (some ⟨g, 0, none⟩) 2 cap])) 238 309 true).run Tryz.prog W = .ok (.tuple #[.agg #[.nilIface], .bool false]) W := fun W => by kernel_rfl
  have e3 : ∀ W, (Instr.typeAssert (.iface 312 (.agg #[.string ⟨#[115, 112, 108, 105, 116]⟩, .int .i64 a, .slice (some ⟨g, 0, none⟩) 2 cap])) 238 311 true).run Tryz.prog W = .ok (.tuple #[.agg #[.string ⟨#[]⟩, .int .i64 0, .slice none 0 0], .bool false]) W := fun W => by kernel_rfl
  have ey : ∀ W, (Instr.typeAssert (.iface 312 (.agg #[.string ⟨#[115, 112, 108, 105, 116]⟩, .int .i64 a, .slice (some ⟨g, 0, none⟩) 2 cap])) 238 312 true).run Tryz.prog W = .ok (.tuple #[.agg #[.string ⟨#[115, 112, 108, 105, 116]⟩, .int .i64 a, .slice (some ⟨g, 0, none⟩) 2 cap], .bool true]) W := fun W => by kernel_rfl
  go_enter Tryz.func145, Tryz.ntmps145
  go_wp2_with (go_at_call 189; refine (H1.out).mono ?_; rintro en w2 ⟨rfl, h3, h4⟩; have H3 := hide h3; have H4 := hide h4; clear h3 h4)
  go_end0
  rw [← List.append_assoc]
  exact ⟨rfl, H3.out, H4.out.fromAlloc⟩
theorem useS_print2 (W0 : World) (cb M lp : Nat) (rec : Bool) (pb : Nat) (r : Value) (t1 t2 : TypeId) (u1 u2 : Value) (n1 n2 : List Use) (hr : Row pb [.iface t1 u1, .iface t2 u2] W0 r) (hcb : r.ownBlock ≠ some cb) (h1 : UseE W0 cb M lp rec (.iface t1 u1) n1) (h2 : UseE W0 cb M lp rec (.iface t2 u2) n2) : UseS W0 cb M lp rec (.iface 285 (.agg #[r, .nilIface])) (n1 ++ n2) := by
  intro us w hl h
  have hlc := UJ.lt h
  obtain ⟨g, cap, c, rfl, hg, hb, hc⟩ := row_block hr.1 (by simp) hcb (by obtain ⟨_, _, _, ho, _⟩ := h; exact ho)
  have hb2 := (Below.heap_alloc w (.cells #[.slice (some ⟨g, 0, none⟩) 2 cap, .nilIface] 285) g (heap_lt hb)).trans hb
  have h3 := useEs W0 cb M lp rec g cap [.iface t1 u1, .iface t2 u2] [n1, n2] rfl (by simp) (fun i e n a1 a2 => by
    match i with
    | 0 => cases a1; cases a2; exact h1
    | 1 => cases a1; cases a2; exact h2
    | k + 2 => cases a1) (fun i e a1 => by
    match i with
    | 0 => cases a1; exact ⟨_, _, rfl⟩
    | 1 => cases a1; exact ⟨_, _, rfl⟩
    | k + 2 => cases a1) us _ (by simp at hl; simp; omega) (h.calm (onlyA w (.cells #[.slice (some ⟨g, 0, none⟩) 2 cap, .nilIface] 285))) c _ hb2 (by decide) hg hc
  refine (ustmt_printL cb (some ⟨g, 0, none⟩) 2 cap (fun w' => UJ W0 cb M lp rec (us ++ (n1 ++ n2)) w' ∧ UK cb (w.alloc (.cells #[.slice (some ⟨g, 0, none⟩) 2 cap, .nilIface] 285)) w') w (h3.mono (fun en w' hh => ⟨hh.1, by simpa using hh.2.1, hh.2.2⟩)) (fun W hW => ⟨_, hW.2 w.heap.size _ _ _ (new0 w _) (by decide) (by omega)⟩)).mono ?_
  rintro en w' ⟨rfl, h2, h3⟩
  exact ⟨rfl, h2, h3.fromAlloc⟩
set_option maxRecDepth 20000 in
set_option maxHeartbeats 4000000 in
theorem useS_forIn (W0 : World) (cb M lp : Nat) (hlp : lp ≤ 1000) (rec : Bool) (kx : ByteArray) (ka : Nat) (x : ByteArray) (a : Nat) (b : Value) (ss : List Value) (nss : List (List Use)) (hnl : nss.length = ss.length) (h0 : 0 < ss.length) (hel : ss.length ≤ 100) (hrow : W0.ownsRow 0 235 1 b ss.length ss) (hcb : b.ownBlock ≠ some cb) (hif : ∀ (i : Nat) e, ss[i]? = some e → ∃ t x, e = .iface t x) (hS : ∀ (i : Nat) e ns, ss[i]? = some e → nss[i]? = some ns → UseS W0 cb M (lp + 1) rec e ns) :
    UseS W0 cb M lp rec (.iface 298 (.agg #[.string kx, .int .i64 ka, .string x, .int .i64 a, b])) ([(kx, ka, 0), (x, a, 1)] ++ nss.flatten) := by
  intro us w hl h
  have hl' : us.length + 2 + nss.flatten.length ≤ 900 := by rw [List.length_append] at hl; simp only [List.length_cons, List.length_nil] at hl; omega
  have hcl := h.lt
  have hO : Only (fun k => k = cb) W0 w := by obtain ⟨_, _, _, ho, _⟩ := h; exact ho
  obtain ⟨g, cap, c, rfl, hg, hb, hc⟩ := row_block hrow h0 hcb hO
  have HN1 := hide (uname_any W0 cb M lp rec us (by omega) kx ka 0 _ (h.calm (onlyA w (.cells #[.string kx, .int .i64 ka, .string x, .int .i64 a, .slice (some ⟨g, 0, none⟩) ss.length cap] 298))))
  have HS := hide hS
  have HB := hide hb
  have HC := hide hc
  have HIf := hide hif
  clear h hS hrow hcb hb hc hif
  have q0 : ∀ W, (Instr.typeAssert (.iface 298 (.agg #[.string kx, .int .i64 ka, .string x, .int .i64 a, .slice (some ⟨g, 0, none⟩) ss.length cap])) 235 95 true).run Tryz.prog W = .ok (.tuple #[.slice none 0 0, .bool false]) W := fun W => by kernel_rfl
  have q1 : ∀ W, (Instr.typeAssert (.iface 298 (.agg #[.string kx, .int .i64 ka, .string x, .int .i64 a, .slice (some ⟨g, 0, none⟩) ss.length cap])) 235 290 true).run Tryz.prog W = .ok (.tuple #[.agg #[.nilIface, .slice none 0 0, .bool false, .slice none 0 0], .bool false]) W := fun W => by kernel_rfl
  have q2 : ∀ W, (Instr.typeAssert (.iface 298 (.agg #[.string kx, .int .i64 ka, .string x, .int .i64 a, .slice (some ⟨g, 0, none⟩) ss.length cap])) 235 293 true).run Tryz.prog W = .ok (.tuple #[.agg #[.nilIface, .slice none 0 0], .bool false]) W := fun W => by kernel_rfl
  have q3 : ∀ W, (Instr.typeAssert (.iface 298 (.agg #[.string kx, .int .i64 ka, .string x, .int .i64 a, .slice (some ⟨g, 0, none⟩) ss.length cap])) 235 295 true).run Tryz.prog W = .ok (.tuple #[.agg #[.nilIface, .nilIface, .nilIface, .slice none 0 0], .bool false]) W := fun W => by kernel_rfl
  have qy : ∀ W, (Instr.typeAssert (.iface 298 (.agg #[.string kx, .int .i64 ka, .string x, .int .i64 a, .slice (some ⟨g, 0, none⟩) ss.length cap])) 235 298 true).run Tryz.prog W = .ok (.tuple #[.agg #[.string kx, .int .i64 ka, .string x, .int .i64 a, .slice (some ⟨g, 0, none⟩) ss.length cap], .bool true]) W := fun W => by kernel_rfl
  go_enter Tryz.func144, Tryz.ntmps144
  go_wp2_with fail
  refine (HN1.out).mono ?_
  rintro en w2 ⟨rfl, hj, hk⟩
  have hbx := hk w.heap.size _ _ _ (new0 w _) (by decide) (by omega)
  have b2 : w2.cell? ⟨w.heap.size, 2, none⟩ = some (.string x) := cell_of hbx rfl
  have b3 : w2.cell? ⟨w.heap.size, 3, none⟩ = some (.int .i64 a) := cell_of hbx rfl
  have HN2 := hide (uname_any W0 cb M lp rec (us ++ [(kx, ka, 0)]) (by simp; omega) x a 1 w2 hj)
  have HK := hide hk
  have HBx := hide hbx
  clear hj hk hbx HN1
  go_wp2_with fail
  refine (HN2.out).mono ?_
  rintro en w3 ⟨rfl, hj, hk⟩
  have hbx := hk w.heap.size _ _ _ HBx.out (by decide) (by omega)
  have b4 : w3.cell? ⟨w.heap.size, 4, none⟩ = some (.slice (some ⟨g, 0, none⟩) ss.length cap) := cell_of hbx rfl
  have hk0 : UK cb w w3 := HK.out.fromAlloc.trans hk
  have hL := useLoop W0 cb M lp hlp rec (.slice (some ⟨g, 0, none⟩) ss.length cap) ⟨_, _, _, rfl⟩ nss.flatten (us ++ [(kx, ka, 0)] ++ [(x, a, 1)]) w3 hj (fun W hW hWk =>
    useSs W0 cb M (lp + 1) rec g cap ss nss hnl (by omega) HS.out HIf.out (us ++ [(kx, ka, 0)] ++ [(x, a, 1)]) W (by simp only [List.length_append, List.length_cons, List.length_nil]; omega) hW c _ (hWk g _ _ _ (hk0 g _ _ _ HB.out (by decide) hg) (by decide) hg) (by decide) hg HC.out)
  have HL := hide hL
  have HK3 := hide hk0
  clear hj hk hk0 hbx hL HN2
  go_wp2_with fail
  refine (HL.out).mono ?_
  rintro en w4 ⟨rfl, hj, hk⟩
  have HJ := hide hj
  have HK2 := hide (HK3.out.trans hk)
  clear hj hk
  go_wp2
  go_end0
  refine ⟨rfl, ?_, HK2.out⟩
  have := HJ.out
  simpa using this
end Go.Proofs.YtdbdbaepmdmnfaaGreatDoor

namespace Go.Proofs.YtdbdbaepmdmnfaaGreatDoor
open Go.RowKit
set_option maxRecDepth 20000 in
set_option maxHeartbeats 4000000 in
theorem useS_delete (W0 : World) (cb M lp : Nat) (rec : Bool) (x : ByteArray) (a : Nat) : UseS W0 cb M lp rec (delT x a) [(x, a, 1)] := by
  intro us w hl h
  have hcl := h.lt
  have HE := hide (uexprs_nil (some ⟨cb, 0, none⟩))
  have HN1 := hide (uname_any W0 cb M lp rec us (by simp at hl; omega) x a 1 _ (h.calm (onlyA w (.cells #[.string x, .int .i64 a, .slice none 0 0] 356))))
  clear h
  unfold delT
  have q0 : ∀ W, (Instr.typeAssert (.iface 356 (.agg #[.string x, .int .i64 a, .slice none 0 0])) 235 95 true).run Tryz.prog W = .ok (.tuple #[.slice none 0 0, .bool false]) W := fun W => by kernel_rfl
  have q1 : ∀ W, (Instr.typeAssert (.iface 356 (.agg #[.string x, .int .i64 a, .slice none 0 0])) 235 290 true).run Tryz.prog W = .ok (.tuple #[.agg #[.nilIface, .slice none 0 0, .bool false, .slice none 0 0], .bool false]) W := fun W => by kernel_rfl
  have q2 : ∀ W, (Instr.typeAssert (.iface 356 (.agg #[.string x, .int .i64 a, .slice none 0 0])) 235 293 true).run Tryz.prog W = .ok (.tuple #[.agg #[.nilIface, .slice none 0 0], .bool false]) W := fun W => by kernel_rfl
  have q3 : ∀ W, (Instr.typeAssert (.iface 356 (.agg #[.string x, .int .i64 a, .slice none 0 0])) 235 295 true).run Tryz.prog W = .ok (.tuple #[.agg #[.nilIface, .nilIface, .nilIface, .slice none 0 0], .bool false]) W := fun W => by kernel_rfl
  have q4 : ∀ W, (Instr.typeAssert (.iface 356 (.agg #[.string x, .int .i64 a, .slice none 0 0])) 235 298 true).run Tryz.prog W = .ok (.tuple #[.agg #[.string ⟨#[]⟩, .int .i64 0, .string ⟨#[]⟩, .int .i64 0, .slice none 0 0], .bool false]) W := fun W => by kernel_rfl
  have q5 : ∀ W, (Instr.typeAssert (.iface 356 (.agg #[.string x, .int .i64 a, .slice none 0 0])) 235 350 true).run Tryz.prog W = .ok (.tuple #[.agg #[.nilIface], .bool false]) W := fun W => by kernel_rfl
  have q6 : ∀ W, (Instr.typeAssert (.iface 356 (.agg #[.string x, .int .i64 a, .slice none 0 0])) 235 285 true).run Tryz.prog W = .ok (.tuple #[.agg #[.slice none 0 0, .nilIface], .bool false]) W := fun W => by kernel_rfl
  have q7 : ∀ W, (Instr.typeAssert (.iface 356 (.agg #[.string x, .int .i64 a, .slice none 0 0])) 235 352 true).run Tryz.prog W = .ok (.tuple #[.agg #[.string ⟨#[]⟩, .int .i64 0], .bool false]) W := fun W => by kernel_rfl
  have q8 : ∀ W, (Instr.typeAssert (.iface 356 (.agg #[.string x, .int .i64 a, .slice none 0 0])) 235 353 true).run Tryz.prog W = .ok (.tuple #[.agg #[.nilIface], .bool false]) W := fun W => by kernel_rfl
  have q9 : ∀ W, (Instr.typeAssert (.iface 356 (.agg #[.string x, .int .i64 a, .slice none 0 0])) 235 355 true).run Tryz.prog W = .ok (.tuple #[.agg #[.nilIface, .int .i64 0], .bool false]) W := fun W => by kernel_rfl
  have qy : ∀ W, (Instr.typeAssert (.iface 356 (.agg #[.string x, .int .i64 a, .slice none 0 0])) 235 356 true).run Tryz.prog W = .ok (.tuple #[.agg #[.string x, .int .i64 a, .slice none 0 0], .bool true]) W := fun W => by kernel_rfl
  go_enter Tryz.func144, Tryz.ntmps144
  go_wp2_with fail
  refine (HN1.out).mono ?_
  rintro en w2 ⟨rfl, hj, hk⟩
  have hbx := hk w.heap.size _ _ _ (new0 w _) (by decide) (by omega)
  have b2 : w2.cell? ⟨w.heap.size, 2, none⟩ = some (.slice none 0 0) := cell_of hbx rfl
  have HJ := hide hj
  have HK := hide hk
  clear hj hk hbx HN1
  go_wp2_with (go_at_call 114; refine (HE.out _).mono ?_; rintro en w3 ⟨rfl, h3⟩; subst h3)
  go_end0
  exact ⟨rfl, HJ.out, HK.out.fromAlloc⟩
def usI : List (List Use) := [[(kx, 41, 0), (ax, 44, 1), (kx, 46, 0)], [(ax, 57, 1)], [(ax, 60, 1), (kx, 66, 0)]]
def usE : List Use := [(nx, 2, 0), (ax, 16, 1), (kx, 25, 0), (ax, 30, 1), (kx, 41, 0), (ax, 44, 1), (kx, 46, 0), (ax, 57, 1), (ax, 60, 1), (kx, 66, 0), (cx, 75, 0), (kx, 87, 0), (ax, 92, 1), (cx, 95, 0), (cx, 109, 0)]
def nssE : List (List Use) := [[(nx, 2, 0), (ax, 16, 1)], [(kx, 25, 0), (ax, 30, 1), (kx, 41, 0), (ax, 44, 1), (kx, 46, 0), (ax, 57, 1), (ax, 60, 1), (kx, 66, 0)], [(cx, 75, 0)], [(kx, 87, 0), (ax, 92, 1), (cx, 95, 0)], [(cx, 109, 0)]]
/-- A row of trees, as it lies later. -/
theorem row_at' {pb : Nat} {vs : List Value} {w W0 : World} {r : Value} {cb : Nat} (h : Row pb vs w r) (ho : Only (fun _ => False) w W0) (hcb : w.heap.size ≤ cb) : Row pb vs W0 r ∧ r.ownBlock ≠ some cb := by
  refine ⟨row_stab pb vs w W0 r h (ho.mono (fun _ _ e => e.elim)), fun e => ?_⟩
  have := (h.1.lt cb e).2
  omega
theorem useI (W0 w : World) (cb M pb : Nat) (ho : Only (fun _ => False) w W0) (hcb : w.heap.size ≤ cb) : ∀ (i : Nat) (s : Value) (ns : List Use), VI pb i w s → usI[i]? = some ns → UseS W0 cb M 1 true s ns
  | 0, s, ns, h, hn => by
    cases hn
    obtain ⟨r, rfl, u2, hu2, hr⟩ := h
    obtain ⟨r2, rfl, hr2⟩ := hu2
    obtain ⟨h1, h2⟩ := row_at' hr ho hcb
    obtain ⟨h3, h4⟩ := row_at' hr2 ho hcb
    exact useS_print2 W0 cb M 1 true pb r _ _ _ _ [(kx, 41, 0)] [(ax, 44, 1), (kx, 46, 0)] h1 h2 (useE_name W0 cb M 1 true kx 41) (useE_elem W0 cb M 1 true pb ax 44 r2 _ _ [(kx, 46, 0)] h3 h4 (useE_name W0 cb M 1 true kx 46))
  | 1, s, ns, h, hn => by
    cases hn
    obtain rfl : s = delT ax 57 := h
    exact useS_delete W0 cb M 1 true ax 57
  | 2, s, ns, h, hn => by
    cases hn
    obtain ⟨u, rfl, l, r, rfl, ⟨r2, rfl, hr2⟩, hr⟩ := h
    obtain rfl : r = numT 1 := hr
    obtain ⟨h3, h4⟩ := row_at' hr2 ho hcb
    exact useS_work W0 cb M 1 true _ _ [(ax, 60, 1), (kx, 66, 0)] (useE_store W0 cb M 1 true _ _ _ _ eqx [(ax, 60, 1), (kx, 66, 0)] [] (useE_elem W0 cb M 1 true pb ax 60 r2 _ _ [(kx, 66, 0)] h3 h4 (useE_join W0 cb M 1 true _ _ _ _ [] [(kx, 66, 0)] (useE_str W0 cb M 1 true xx) (useE_name W0 cb M 1 true kx 66))) (useE_num W0 cb M 1 true 1))
  | k + 3, s, ns, h, hn => by cases hn
theorem useAll (W0 w : World) (cb M pb : Nat) (ho : Only (fun _ => False) w W0) (hcb : w.heap.size ≤ cb) : ∀ (i : Nat) (s : Value) (ns : List Use), VE pb i w s → nssE[i]? = some ns → UseS W0 cb M 0 true s ns
  | 0, s, ns, h, hn => by
    cases hn
    obtain ⟨u, rfl, l, r, rfl, hl, ⟨r2, rfl, hr2⟩⟩ := h
    obtain rfl : l = nameV nx 2 := hl
    obtain ⟨h3, h4⟩ := row_at' hr2 ho hcb
    exact useS_work W0 cb M 0 true _ _ [(nx, 2, 0), (ax, 16, 1)] (useE_store W0 cb M 0 true _ _ _ _ eqx [(nx, 2, 0)] [(ax, 16, 1)] (useE_name W0 cb M 0 true nx 2) (useE_split W0 cb M 0 true pb 6 _ _ ax 16 [] (useE_field W0 cb M 0 true _ _ [] (useE_num W0 cb M 0 true 0)) r2 h3 h4))
  | 1, s, ns, h, hn => by
    cases hn
    obtain ⟨b, rfl, vs, hl, hr, hb, hv⟩ := h
    have hr0 : W0.ownsRow 0 235 1 b 3 vs := ownsRow_of hr (fun k hk => ho.block k (hr.lt k hk).2 (fun e => e))
    rw [← hl] at hr0
    exact useS_forIn W0 cb M 0 (by omega) true kx 25 ax 30 b vs usI (by rw [hl]; rfl) (by omega) (by omega) hr0 (fun e => by have := (hr.lt cb e).2; omega) (fun i e he => vi_if pb i (by have := (List.getElem?_eq_some_iff.1 he).1; omega) w e (hv i e he)) (fun i e ns he hn => useI W0 w cb M pb ho hcb i e ns (hv i e he) hn)
  | 2, s, ns, h, hn => by
    cases hn
    obtain ⟨u, rfl, hu⟩ := h
    obtain rfl : u = setC := hu
    exact useS_work W0 cb M 0 true _ _ [(cx, 75, 0)] (useE_store W0 cb M 0 true _ _ _ _ eqx [(cx, 75, 0)] [] (useE_name W0 cb M 0 true cx 75) (useE_num W0 cb M 0 true 0))
  | 3, s, ns, h, hn => by
    cases hn
    obtain ⟨b, rfl, vs, hl, hr, hb, hv⟩ := h
    have hr0 : W0.ownsRow 0 235 1 b vs.length vs := by rw [hl]; exact ownsRow_of hr (fun k hk => ho.block k (hr.lt k hk).2 (fun e => e))
    exact useS_forIn W0 cb M 0 (by omega) true kx 87 ax 92 b vs [[(cx, 95, 0)]] (by rw [hl]; rfl) (by omega) (by omega) hr0 (fun e => by have := (hr.lt cb e).2; omega) (fun i e he => work_if w e (hv i e he)) (fun i e ns he hn => by
      cases i with
      | zero =>
        cases hn
        obtain ⟨u, rfl, hu⟩ := hv 0 e he
        obtain rfl : u = addC := hu
        exact useS_work W0 cb M 1 true _ _ [(cx, 95, 0)] (useE_store W0 cb M 1 true _ _ _ _ plx [(cx, 95, 0)] [] (useE_name W0 cb M 1 true cx 95) (useE_num W0 cb M 1 true 1))
      | succ i => cases hn)
  | 4, s, ns, h, hn => by
    cases hn
    obtain ⟨r, rfl, hr⟩ := h
    obtain ⟨h1, h2⟩ := row_at' hr ho hcb
    exact useS_printL W0 cb M 0 true pb r _ _ _ h1 h2 (useE_name W0 cb M 0 true cx 109)
  | k + 5, s, ns, h, hn => by cases hn
end Go.Proofs.YtdbdbaepmdmnfaaGreatDoor

