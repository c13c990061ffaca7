import Derived.Test.YtdbdbaepmdmnfaaGreatDoorZ37
import Derived.Test.YtdbdbaepmdmnfaaGreatDoorZ23
import Derived.Test.YtdbdbaepmdmnfaaGreatDoorZ18
import Derived.Test.YtdbdbaepmdmnfaaGreatDoorZ35
namespace Go.Proofs.YtdbdbaepmdmnfaaGreatDoor
open Go.RowKit
/-- What the checker does with an expression: it adds the uses ns. -/
def UseE (W0 : World) (cb M lp : Nat) (rec : Bool) (e : Value) (ns : List Use) : Prop :=
  ∀ (us : List Use) (w : World), us.length + ns.length ≤ 900 → UJ W0 cb M lp rec us w → Calls Tryz.prog 145 #[.pointer (some ⟨cb, 0, none⟩), e] w fun en w' => en = .returned (.tuple #[]) ∧ UJ W0 cb M lp rec (us ++ ns) w' ∧ UK cb w w'
theorem UK.alloc {cb : Nat} {a b : World} (h : UK cb a b) (o : Obj) : UK cb a (b.alloc o) := fun q x t f hq ht hc => (Below.heap_alloc _ _ _ (heap_lt (h q x t f hq ht hc))).trans (h q x t f hq ht hc)
theorem UK.fromAlloc {cb : Nat} {a b : World} {o : Obj} (h : UK cb (a.alloc o) b) : UK cb a b := fun q x t f hq ht hc => h q x t f ((Below.heap_alloc _ _ _ (heap_lt hq)).trans hq) ht hc
set_option maxRecDepth 20000 in
set_option maxHeartbeats 4000000 in
theorem useE_name (W0 : World) (cb M lp : Nat) (rec : Bool) (x : ByteArray) (a : Nat) : UseE W0 cb M lp rec (nameV x a) [(x, a, 0)] := by
  intro us w hl h
  have q0 := te188_188 (.agg #[.string x, .int .i64 a])
  have HN := hide (uname_any W0 cb M lp rec us (by simp at hl; omega) x a 0 _ (h.calm (onlyA w (.cells #[.string x, .int .i64 a] 92))))
  clear h
  unfold nameV
  go_enter Tryz.func145, Tryz.ntmps145
  go_wp2_with (go_at_call 186; refine (HN.out).mono ?_; rintro en w2 ⟨rfl, h1, h2⟩; have H1 := hide h1; have H2 := hide h2; clear h1 h2)
  go_end0
  exact ⟨rfl, H1.out, H2.out.fromAlloc⟩
set_option maxRecDepth 20000 in
set_option maxHeartbeats 4000000 in
theorem useE_num (W0 : World) (cb M lp : Nat) (rec : Bool) (n : Int) : UseE W0 cb M lp rec (numT n) [] := by
  intro us w hl h
  have HU := hide h
  clear h
  unfold numT
  have e1 : ∀ W, (Instr.typeAssert (.iface 300 (.agg #[.int .i64 n])) 238 92 true).run Tryz.prog W = .ok (.tuple #[.agg #[.string ⟨#[]⟩, .int .i64 0], .bool false]) W := fun W => by kernel_rfl
  have e2 : ∀ W, (Instr.typeAssert (.iface 300 (.agg #[.int .i64 n])) 238 306 true).run Tryz.prog W = .ok (.tuple #[.agg #[.string ⟨#[]⟩, .int .i64 0, .slice none 0 0], .bool false]) W := fun W => by kernel_rfl
  have e3 : ∀ W, (Instr.typeAssert (.iface 300 (.agg #[.int .i64 n])) 238 309 true).run Tryz.prog W = .ok (.tuple #[.agg #[.nilIface], .bool false]) W := fun W => by kernel_rfl
  have e4 : ∀ W, (Instr.typeAssert (.iface 300 (.agg #[.int .i64 n])) 238 311 true).run Tryz.prog W = .ok (.tuple #[.agg #[.string ⟨#[]⟩, .int .i64 0, .slice none 0 0], .bool false]) W := fun W => by kernel_rfl
  have e5 : ∀ W, (Instr.typeAssert (.iface 300 (.agg #[.int .i64 n])) 238 312 true).run Tryz.prog W = .ok (.tuple #[.agg #[.string ⟨#[]⟩, .int .i64 0, .slice none 0 0], .bool false]) W := fun W => by kernel_rfl
  have e6 : ∀ W, (Instr.typeAssert (.iface 300 (.agg #[.int .i64 n])) 238 314 true).run Tryz.prog W = .ok (.tuple #[.agg #[.string ⟨#[]⟩, .nilIface], .bool false]) W := fun W => by kernel_rfl
  have e7 : ∀ W, (Instr.typeAssert (.iface 300 (.agg #[.int .i64 n])) 238 316 true).run Tryz.prog W = .ok (.tuple #[.agg #[.nilIface, .string ⟨#[]⟩, .nilIface], .bool false]) W := fun W => by kernel_rfl
  have e8 : ∀ W, (Instr.typeAssert (.iface 300 (.agg #[.int .i64 n])) 238 319 true).run Tryz.prog W = .ok (.tuple #[.agg #[.nilIface, .nilIface], .bool false]) W := fun W => by kernel_rfl
  have e9 : ∀ W, (Instr.typeAssert (.iface 300 (.agg #[.int .i64 n])) 238 321 true).run Tryz.prog W = .ok (.tuple #[.agg #[.nilIface, .string ⟨#[]⟩, .int .i64 0], .bool false]) W := fun W => by kernel_rfl
  have ea : ∀ W, (Instr.typeAssert (.iface 300 (.agg #[.int .i64 n])) 238 323 true).run Tryz.prog W = .ok (.tuple #[.agg #[.nilIface, .nilIface, .nilIface], .bool false]) W := fun W => by kernel_rfl
  have eb : ∀ W, (Instr.typeAssert (.iface 300 (.agg #[.int .i64 n])) 238 326 true).run Tryz.prog W = .ok (.tuple #[.agg #[.nilIface, .string ⟨#[]⟩, .nilIface], .bool false]) W := fun W => by kernel_rfl
  go_enter Tryz.func145, Tryz.ntmps145
  go_wp2
  go_end0
  rw [List.append_nil]
  exact ⟨rfl, HU.out, UK.refl _ _⟩
set_option maxRecDepth 20000 in
set_option maxHeartbeats 4000000 in
theorem useE_field (W0 : World) (cb M lp : Nat) (rec : Bool) (t : TypeId) (u : Value) (ns : List Use) (hE : UseE W0 cb M lp rec (.iface t u) ns) : UseE W0 cb M lp rec (fieldT (.iface t u)) ns := by
  intro us w hl h
  have HE := hide (hE us _ hl (h.calm (onlyA w (.cells #[.iface t u] 309))))
  clear h hE
  unfold fieldT
  have e1 : ∀ W, (Instr.typeAssert (.iface 309 (.agg #[.iface t u])) 238 92 true).run Tryz.prog W = .ok (.tuple #[.agg #[.string ⟨#[]⟩, .int .i64 0], .bool false]) W := fun W => by kernel_rfl
  have e2 : ∀ W, (Instr.typeAssert (.iface 309 (.agg #[.iface t u])) 238 306 true).run Tryz.prog W = .ok (.tuple #[.agg #[.string ⟨#[]⟩, .int .i64 0, .slice none 0 0], .bool false]) W := fun W => by kernel_rfl
  have e3 : ∀ W, (Instr.typeAssert (.iface 309 (.agg #[.iface t u])) 238 309 true).run Tryz.prog W = .ok (.tuple #[.agg #[.iface t u], .bool true]) W := fun W => by kernel_rfl
  go_enter Tryz.func145, Tryz.ntmps145
  go_wp2_with (go_at_call 145; refine (HE.out).mono ?_; rintro en w2 ⟨rfl, h1, h2⟩; have H1 := hide h1; have H2 := hide h2; clear h1 h2)
  go_end0
  exact ⟨rfl, H1.out, H2.out.fromAlloc⟩
end Go.Proofs.YtdbdbaepmdmnfaaGreatDoor

namespace Go.Proofs.YtdbdbaepmdmnfaaGreatDoor
open Go.RowKit
theorem UJ.lt {W0 cb M lp rec us w} (h : UJ W0 cb M lp rec us w) : cb < w.heap.size := by
  obtain ⟨v0, hu0, _, _, _⟩ := h
  exact heap_lt hu0.1
set_option maxRecDepth 20000 in
set_option maxHeartbeats 4000000 in
theorem useE_bin (W0 : World) (cb M lp : Nat) (rec : Bool) (t1 t2 : TypeId) (u1 u2 : Value) (x : ByteArray) (n1 n2 : List Use) (h1 : UseE W0 cb M lp rec (.iface t1 u1) n1) (h2 : UseE W0 cb M lp rec (.iface t2 u2) n2) : UseE W0 cb M lp rec (binT (.iface t1 u1) x (.iface t2 u2)) (n1 ++ n2) := by
  intro us w hl h
  rw [List.length_append] at hl
  have hcl := UJ.lt h
  have HE := hide (h1 us _ (by omega) (h.calm (onlyA w (.cells #[.iface t1 u1, .string x, .iface t2 u2] 316))))
  have H2 := hide h2
  clear h h1 h2
  unfold binT
  have e1 : ∀ W, (Instr.typeAssert (.iface 316 (.agg #[.iface t1 u1, .string x, .iface t2 u2])) 238 92 true).run Tryz.prog W = .ok (.tuple #[.agg #[.string ⟨#[]⟩, .int .i64 0], .bool false]) W := fun W => by kernel_rfl
  have e2 : ∀ W, (Instr.typeAssert (.iface 316 (.agg #[.iface t1 u1, .string x, .iface t2 u2])) 238 306 true).run Tryz.prog W = .ok (.tuple #[.agg #[.string ⟨#[]⟩, .int .i64 0, .slice none 0 0], .bool false]) W := fun W => by kernel_rfl
  have e3 : ∀ W, (Instr.typeAssert (.iface 316 (.agg #[.iface t1 u1, .string x, .iface t2 u2])) 238 309 true).run Tryz.prog W = .ok (.tuple #[.agg #[.nilIface], .bool false]) W := fun W => by kernel_rfl
  have e4 : ∀ W, (Instr.typeAssert (.iface 316 (.agg #[.iface t1 u1, .string x, .iface t2 u2])) 238 311 true).run Tryz.prog W = .ok (.tuple #[.agg #[.string ⟨#[]⟩, .int .i64 0, .slice none 0 0], .bool false]) W := fun W => by kernel_rfl
  have e5 : ∀ W, (Instr.typeAssert (.iface 316 (.agg #[.iface t1 u1, .string x, .iface t2 u2])) 238 312 true).run Tryz.prog W = .ok (.tuple #[.agg #[.string ⟨#[]⟩, .int .i64 0, .slice none 0 0], .bool false]) W := fun W => by kernel_rfl
  have e6 : ∀ W, (Instr.typeAssert (.iface 316 (.agg #[.iface t1 u1, .string x, .iface t2 u2])) 238 314 true).run Tryz.prog W = .ok (.tuple #[.agg #[.string ⟨#[]⟩, .nilIface], .bool false]) W := fun W => by kernel_rfl
  have ey : ∀ W, (Instr.typeAssert (.iface 316 (.agg #[.iface t1 u1, .string x, .iface t2 u2])) 238 316 true).run Tryz.prog W = .ok (.tuple #[.agg #[.iface t1 u1, .string x, .iface t2 u2], .bool true]) W := fun W => by kernel_rfl
  go_enter Tryz.func145, Tryz.ntmps145
  go_wp2_with fail
  refine (HE.out).mono ?_
  rintro en w2 ⟨rfl, hj, hk⟩
  have hb := hk w.heap.size _ _ _ (new0 w _) (by decide) (by omega)
  have b2 : w2.cell? ⟨w.heap.size, 2, none⟩ = some (.iface t2 u2) := cell_of hb rfl
  have HE2 := hide (H2.out (us ++ n1) w2 (by rw [List.length_append]; omega) hj)
  have HK := hide hk
  clear hj hk hb
  go_wp2_with fail
  refine (HE2.out).mono ?_
  rintro en w3 ⟨rfl, hj, hk⟩
  have HJ := hide hj
  have HK2 := hide hk
  clear hj hk
  go_wp2
  go_end0
  rw [← List.append_assoc]
  exact ⟨rfl, HJ.out, (HK.out.fromAlloc).trans HK2.out⟩
set_option maxRecDepth 20000 in
set_option maxHeartbeats 4000000 in
theorem useE_store (W0 : World) (cb M lp : Nat) (rec : Bool) (t1 t2 : TypeId) (u1 u2 : Value) (x : ByteArray) (n1 n2 : List Use) (h1 : UseE W0 cb M lp rec (.iface t1 u1) n1) (h2 : UseE W0 cb M lp rec (.iface t2 u2) n2) : UseE W0 cb M lp rec (storeT (.iface t1 u1) x (.iface t2 u2)) (n1 ++ n2) := by
  intro us w hl h
  rw [List.length_append] at hl
  have hcl := UJ.lt h
  have HE := hide (h1 us _ (by omega) (h.calm (onlyA w (.cells #[.iface t1 u1, .string x, .iface t2 u2] 326))))
  have H2 := hide h2
  clear h h1 h2
  unfold storeT
  have e1 : ∀ W, (Instr.typeAssert (.iface 326 (.agg #[.iface t1 u1, .string x, .iface t2 u2])) 238 92 true).run Tryz.prog W = .ok (.tuple #[.agg #[.string ⟨#[]⟩, .int .i64 0], .bool false]) W := fun W => by kernel_rfl
  have e2 : ∀ W, (Instr.typeAssert (.iface 326 (.agg #[.iface t1 u1, .string x, .iface t2 u2])) 238 306 true).run Tryz.prog W = .ok (.tuple #[.agg #[.string ⟨#[]⟩, .int .i64 0, .slice none 0 0], .bool false]) W := fun W => by kernel_rfl
  have e3 : ∀ W, (Instr.typeAssert (.iface 326 (.agg #[.iface t1 u1, .string x, .iface t2 u2])) 238 309 true).run Tryz.prog W = .ok (.tuple #[.agg #[.nilIface], .bool false]) W := fun W => by kernel_rfl
  have e4 : ∀ W, (Instr.typeAssert (.iface 326 (.agg #[.iface t1 u1, .string x, .iface t2 u2])) 238 311 true).run Tryz.prog W = .ok (.tuple #[.agg #[.string ⟨#[]⟩, .int .i64 0, .slice none 0 0], .bool false]) W := fun W => by kernel_rfl
  have e5 : ∀ W, (Instr.typeAssert (.iface 326 (.agg #[.iface t1 u1, .string x, .iface t2 u2])) 238 312 true).run Tryz.prog W = .ok (.tuple #[.agg #[.string ⟨#[]⟩, .int .i64 0, .slice none 0 0], .bool false]) W := fun W => by kernel_rfl
  have e6 : ∀ W, (Instr.typeAssert (.iface 326 (.agg #[.iface t1 u1, .string x, .iface t2 u2])) 238 314 true).run Tryz.prog W = .ok (.tuple #[.agg #[.string ⟨#[]⟩, .nilIface], .bool false]) W := fun W => by kernel_rfl
  have e7 : ∀ W, (Instr.typeAssert (.iface 326 (.agg #[.iface t1 u1, .string x, .iface t2 u2])) 238 316 true).run Tryz.prog W = .ok (.tuple #[.agg #[.nilIface, .string ⟨#[]⟩, .nilIface], .bool false]) W := fun W => by kernel_rfl
  have e8 : ∀ W, (Instr.typeAssert (.iface 326 (.agg #[.iface t1 u1, .string x, .iface t2 u2])) 238 319 true).run Tryz.prog W = .ok (.tuple #[.agg #[.nilIface, .nilIface], .bool false]) W := fun W => by kernel_rfl
  have e9 : ∀ W, (Instr.typeAssert (.iface 326 (.agg #[.iface t1 u1, .string x, .iface t2 u2])) 238 321 true).run Tryz.prog W = .ok (.tuple #[.agg #[.nilIface, .string ⟨#[]⟩, .int .i64 0], .bool false]) W := fun W => by kernel_rfl
  have e10 : ∀ W, (Instr.typeAssert (.iface 326 (.agg #[.iface t1 u1, .string x, .iface t2 u2])) 238 323 true).run Tryz.prog W = .ok (.tuple #[.agg #[.nilIface, .nilIface, .nilIface], .bool false]) W := fun W => by kernel_rfl
  have ey : ∀ W, (Instr.typeAssert (.iface 326 (.agg #[.iface t1 u1, .string x, .iface t2 u2])) 238 326 true).run Tryz.prog W = .ok (.tuple #[.agg #[.iface t1 u1, .string x, .iface t2 u2], .bool true]) W := fun W => by kernel_rfl
  go_enter Tryz.func145, Tryz.ntmps145
  go_wp2_with fail
  refine (HE.out).mono ?_
  rintro en w2 ⟨rfl, hj, hk⟩
  have hb := hk w.heap.size _ _ _ (new0 w _) (by decide) (by omega)
  have b2 : w2.cell? ⟨w.heap.size, 2, none⟩ = some (.iface t2 u2) := cell_of hb rfl
  have HE2 := hide (H2.out (us ++ n1) w2 (by rw [List.length_append]; omega) hj)
  have HK := hide hk
  clear hj hk hb
  go_wp2_with fail
  refine (HE2.out).mono ?_
  rintro en w3 ⟨rfl, hj, hk⟩
  have HJ := hide hj
  have HK2 := hide hk
  clear hj hk
  go_wp2
  go_end0
  rw [← List.append_assoc]
  exact ⟨rfl, HJ.out, (HK.out.fromAlloc).trans HK2.out⟩
end Go.Proofs.YtdbdbaepmdmnfaaGreatDoor

namespace Go.Proofs.YtdbdbaepmdmnfaaGreatDoor
open Go.RowKit
/-- What the checker does with a statement. -/
def UseS (W0 : World) (cb M lp : Nat) (rec : Bool) (s : Value) (ns : List Use) : Prop :=
  ∀ (us : List Use) (w : World), us.length + ns.length ≤ 900 → UJ W0 cb M lp rec us w → Calls Tryz.prog 144 #[.pointer (some ⟨cb, 0, none⟩), s] w fun en w' => en = .returned (.tuple #[]) ∧ UJ W0 cb M lp rec (us ++ ns) w' ∧ UK cb w w'
theorem take_flat {α : Type} (nss : List (List α)) (k : Nat) (ns : List α) (h : nss[k]? = some ns) : (nss.take (k + 1)).flatten = (nss.take k).flatten ++ ns := by
  obtain ⟨hk, e⟩ := List.getElem?_eq_some_iff.1 h
  rw [List.take_succ_eq_append_getElem hk, List.flatten_append, e]
  simp
theorem take_flat_len {α : Type} (nss : List (List α)) (k : Nat) : (nss.take k).flatten.length ≤ nss.flatten.length := by
  conv => rhs; rw [← List.take_append_drop k nss, List.flatten_append, List.length_append]
  omega
set_option maxRecDepth 20000 in
set_option maxHeartbeats 4000000 in
theorem useEs (W0 : World) (cb M lp : Nat) (rec : Bool) (g cap : Nat) (es : List Value) (nss : List (List Use)) (hnl : nss.length = es.length) (hel : es.length ≤ 900) (hE : ∀ (i : Nat) e ns, es[i]? = some e → nss[i]? = some ns → UseE W0 cb M lp rec e ns) (hif : ∀ (i : Nat) e, es[i]? = some e → ∃ t x, e = .iface t x)
    (us : List Use) (w : World) (hl : us.length + nss.flatten.length ≤ 900) (h : UJ W0 cb M lp rec us w) (c : Array Value) (t : TypeId) (hb : w.heap[g]? = some (.cells c t (0, 0))) (ht : t ≠ 227) (hg : g ≠ cb) (hc : ∀ (i : Nat) e, es[i]? = some e → c[i]? = some e) :
    Calls Tryz.prog 114 #[.pointer (some ⟨cb, 0, none⟩), .slice (some ⟨g, 0, none⟩) es.length cap] w fun en w' => en = .returned (.tuple #[]) ∧ UJ W0 cb M lp rec (us ++ nss.flatten) w' ∧ UK cb w w' := by
  have HE := hide hE
  have HI := hide hif
  have HJ := hide h
  have HB := hide hb
  have HC := hide hc
  have HL := hide hl
  have HNL := hide hnl
  clear hE hif h hb hc hl hnl
  go_enter Tryz.func114, Tryz.ntmps114
  go_wp2
  go_loopg [8] es.length (fun gh s wr => ∃ k : Nat, k ≤ es.length ∧ gh = es.length - k ∧ s = .int .i64 k ∧ UJ W0 cb M lp rec (us ++ (nss.take k).flatten) wr ∧ UK cb w wr)
  case atStart => exact ⟨0, Nat.zero_le _, rfl, rfl, by simpa using HJ.out, UK.refl _ _⟩
  case round =>
    obtain ⟨k, hk, hgh, rfl, hj, hu⟩ := hrel
    by_cases hlt : k < es.length
    · obtain ⟨e, he⟩ : ∃ e, es[k]? = some e := ⟨_, List.getElem?_eq_getElem hlt⟩
      obtain ⟨ns, hns⟩ : ∃ ns, nss[k]? = some ns := ⟨_, List.getElem?_eq_getElem (by rw [HNL.out]; exact hlt)⟩
      obtain ⟨ti, xi, rfl⟩ := HI.out k e he
      have ck : wr.cell? ⟨g, k, none⟩ = some (.iface ti xi) := cell_of (hu g c t (0, 0) HB.out ht hg) (HC.out k _ he)
      have hfl := take_flat nss k ns hns
      have h1 := HE.out k _ ns he hns (us ++ (nss.take k).flatten) wr (by
        have h8 := take_flat_len nss (k + 1)
        have h9 := HL.out
        rw [hfl, List.length_append] at h8
        rw [List.length_append]
        omega) hj
      rw [List.append_assoc, ← hfl] at h1
      have H1 := hide h1
      have HU := hide hu
      have hki : (k : Int) < (es.length : Int) := by omega
      have HG := hide hgh
      clear h1 hj hu he hns hfl hgh
      go_wp2_with (go_at_call 145; refine (H1.out).mono ?_; rintro en w2 ⟨rfl, h3, h4⟩; have H3 := hide h3; have H4 := hide h4; clear h3 h4)
      go_roundg (es.length - (k + 1))
      case measure => rw [HG.out]; omega
      case rel => exact ⟨k + 1, by omega, rfl, by go_num, H3.out, HU.out.trans H4.out⟩
    · obtain rfl : k = es.length := by omega
      have hki : ¬ (es.length : Int) < (es.length : Int) := by omega
      have HJ2 := hide hj
      have HU := hide hu
      clear hj hu
      go_wp2
      go_end0
      have := HJ2.out
      rw [← HNL.out, List.take_length] at this
      exact ⟨rfl, this, HU.out⟩
set_option maxRecDepth 20000 in
set_option maxHeartbeats 4000000 in
theorem useSs (W0 : World) (cb M lp : Nat) (rec : Bool) (g cap : Nat) (es : List Value) (nss : List (List Use)) (hnl : nss.length = es.length) (hel : es.length ≤ 900) (hE : ∀ (i : Nat) e ns, es[i]? = some e → nss[i]? = some ns → UseS W0 cb M lp rec e ns) (hif : ∀ (i : Nat) e, es[i]? = some e → ∃ t x, e = .iface t x)
    (us : List Use) (w : World) (hl : us.length + nss.flatten.length ≤ 900) (h : UJ W0 cb M lp rec us w) (c : Array Value) (t : TypeId) (hb : w.heap[g]? = some (.cells c t (0, 0))) (ht : t ≠ 227) (hg : g ≠ cb) (hc : ∀ (i : Nat) e, es[i]? = some e → c[i]? = some e) :
    Calls Tryz.prog 113 #[.pointer (some ⟨cb, 0, none⟩), .slice (some ⟨g, 0, none⟩) es.length cap] w fun en w' => en = .returned (.tuple #[]) ∧ UJ W0 cb M lp rec (us ++ nss.flatten) w' ∧ UK cb w w' := by
  have HE := hide hE
  have HI := hide hif
  have HJ := hide h
  have HB := hide hb
  have HC := hide hc
  have HL := hide hl
  have HNL := hide hnl
  clear hE hif h hb hc hl hnl
  go_enter Tryz.func113, Tryz.ntmps113
  go_wp2
  go_loopg [8] es.length (fun gh s wr => ∃ k : Nat, k ≤ es.length ∧ gh = es.length - k ∧ s = .int .i64 k ∧ UJ W0 cb M lp rec (us ++ (nss.take k).flatten) wr ∧ UK cb w wr)
  case atStart => exact ⟨0, Nat.zero_le _, rfl, rfl, by simpa using HJ.out, UK.refl _ _⟩
  case round =>
    obtain ⟨k, hk, hgh, rfl, hj, hu⟩ := hrel
    by_cases hlt : k < es.length
    · obtain ⟨e, he⟩ : ∃ e, es[k]? = some e := ⟨_, List.getElem?_eq_getElem hlt⟩
      obtain ⟨ns, hns⟩ : ∃ ns, nss[k]? = some ns := ⟨_, List.getElem?_eq_getElem (by rw [HNL.out]; exact hlt)⟩
      obtain ⟨ti, xi, rfl⟩ := HI.out k e he
      have ck : wr.cell? ⟨g, k, none⟩ = some (.iface ti xi) := cell_of (hu g c t (0, 0) HB.out ht hg) (HC.out k _ he)
      have hfl := take_flat nss k ns hns
      have h1 := HE.out k _ ns he hns (us ++ (nss.take k).flatten) wr (by
        have h8 := take_flat_len nss (k + 1)
        have h9 := HL.out
        rw [hfl, List.length_append] at h8
        rw [List.length_append]
        omega) hj
      rw [List.append_assoc, ← hfl] at h1
      have H1 := hide h1
      have HU := hide hu
      have hki : (k : Int) < (es.length : Int) := by omega
      have HG := hide hgh
      clear h1 hj hu he hns hfl hgh
      go_wp2_with (go_at_call 144; refine (H1.out).mono ?_; rintro en w2 ⟨rfl, h3, h4⟩; have H3 := hide h3; have H4 := hide h4; clear h3 h4)
      go_roundg (es.length - (k + 1))
      case measure => rw [HG.out]; omega
      case rel => exact ⟨k + 1, by omega, rfl, by go_num, H3.out, HU.out.trans H4.out⟩
    · obtain rfl : k = es.length := by omega
      have hki : ¬ (es.length : Int) < (es.length : Int) := by omega
      have HJ2 := hide hj
      have HU := hide hu
      clear hj hu
      go_wp2
      go_end0
      have := HJ2.out
      rw [← HNL.out, List.take_length] at this
      exact ⟨rfl, this, HU.out⟩
end Go.Proofs.YtdbdbaepmdmnfaaGreatDoor

namespace Go.Proofs.YtdbdbaepmdmnfaaGreatDoor
open Go.RowKit
/-- A row of trees, as it lies since W0. -/
theorem row_block {W0 w : World} {cb : Nat} {B : Nat} {e : TypeId} {v : Value} {n : Nat} {xs : List Value} (h : W0.ownsRow B e 1 v n xs) (hn : 0 < n) (hcb : v.ownBlock ≠ some cb) (ho : Only (fun k => k = cb) W0 w) : ∃ g cap c, v = .slice (some ⟨g, 0, none⟩) n cap ∧ g ≠ cb ∧ w.heap[g]? = some (.cells c e (0, 0)) ∧ ∀ (i : Nat) x, xs[i]? = some x → c[i]? = some x := by
  rcases h.2 with ⟨rfl, h1⟩ | ⟨g, cap, cur, rfl, h1, h2, h3, h4, h5, h6⟩
  · omega
  · refine ⟨g, cap, cur, rfl, fun e => hcb (by rw [e]; rfl), (ho.block g (heap_lt h2) (fun e => hcb (by rw [e]; rfl))).trans h2, fun i x hx => ?_⟩
    have hl := (List.getElem?_eq_some_iff.1 hx).1
    have : (cur.toList.take (n * 1))[i]? = some x := by rw [h6]; exact hx
    rw [List.getElem?_take] at this
    split at this
    · rw [Array.getElem?_toList] at this
      exact this
    · cases this
set_option maxRecDepth 20000 in
set_option maxHeartbeats 4000000 in
theorem useS_printL (W0 : World) (cb M lp : Nat) (rec : Bool) (pb : Nat) (r : Value) (t1 : TypeId) (u1 : Value) (ns : List Use) (hr : Row pb [.iface t1 u1] W0 r) (hcb : r.ownBlock ≠ some cb) (hE : UseE W0 cb M lp rec (.iface t1 u1) ns) : UseS W0 cb M lp rec (.iface 285 (.agg #[r, .nilIface])) ns := by
  intro us w hl h
  have hlc := UJ.lt h
  obtain ⟨g, cap, c, rfl, hg, hb, hc⟩ := row_block hr.1 (by simp) hcb (by obtain ⟨_, _, _, ho, _⟩ := h; exact ho)
  have hb2 := (Below.heap_alloc w (.cells #[.slice (some ⟨g, 0, none⟩) 1 cap, .nilIface] 285) g (heap_lt hb)).trans hb
  have h1 := useEs W0 cb M lp rec g cap [.iface t1 u1] [ns] rfl (by simp) (fun i e n h1 h2 => by
    cases i with
    | zero => cases h1; cases h2; exact hE
    | succ i => cases h1) (fun i e h1 => by
    cases i with
    | zero => cases h1; exact ⟨_, _, rfl⟩
    | succ i => cases h1) us _ (by simpa using hl) (h.calm (onlyA w (.cells #[.slice (some ⟨g, 0, none⟩) 1 cap, .nilIface] 285))) c _ hb2 (by decide) hg hc
  refine (ustmt_printL cb (some ⟨g, 0, none⟩) 1 cap (fun w' => UJ W0 cb M lp rec (us ++ ns) w' ∧ UK cb (w.alloc (.cells #[.slice (some ⟨g, 0, none⟩) 1 cap, .nilIface] 285)) w') w (h1.mono (fun en w' hh => ⟨hh.1, by simpa using hh.2.1, hh.2.2⟩)) (fun W hW => ⟨_, hW.2 w.heap.size _ _ _ (new0 w _) (by decide) (by omega)⟩)).mono ?_
  rintro en w' ⟨rfl, h2, h3⟩
  exact ⟨rfl, h2, h3.fromAlloc⟩
theorem useS_print (W0 : World) (cb M lp : Nat) (rec : Bool) : UseS W0 cb M lp rec printV [] := by
  intro us w hl h
  refine (ustmt_print (some ⟨cb, 0, none⟩) w).mono ?_
  rintro en w' ⟨rfl, h2⟩
  rw [List.append_nil]
  exact ⟨rfl, h.calm h2, UK.ofOnly (h2.mono (fun _ _ e => e.elim))⟩
theorem useS_work (W0 : World) (cb M lp : Nat) (rec : Bool) (t : TypeId) (u : Value) (ns : List Use) (hE : UseE W0 cb M lp rec (.iface t u) ns) : UseS W0 cb M lp rec (.iface 350 (.agg #[.iface t u])) ns := by
  intro us w hl h
  refine (ustmt_work cb t u (fun w' => UJ W0 cb M lp rec (us ++ ns) w' ∧ UK cb w w') w (fun W hW => (hE us W hl (h.calm hW)).mono (fun en w' hh => ⟨hh.1, hh.2.1, (UK.ofOnly (hW.mono (fun _ _ e => e.elim))).trans hh.2.2⟩))).mono ?_
  rintro en w' hh
  exact hh
end Go.Proofs.YtdbdbaepmdmnfaaGreatDoor

namespace Go.Proofs.YtdbdbaepmdmnfaaGreatDoor
open Go.RowKit
theorem UJ.setLp {W0 cb M lp rec us w} (h : UJ W0 cb M lp rec us w) (l : Nat) : UJ W0 cb M l rec us (w.setCell ⟨cb, 4, none⟩ (.int .i64 l)) := by
  obtain ⟨v, h1, h2, h3, h4⟩ := h
  refine ⟨v, ⟨heap_setCell_same h1.1 _, (Below.heap_setCell _ _ _ _ h1.ne).trans h1.2⟩, ownsRow_of h2 (fun k hk => Below.heap_setCell _ _ _ _ (fun e => own_tag h2 h1.1 (by decide) (by rw [hk, e]))), h3.setCell (p := ⟨cb, 4, none⟩) (fun _ => rfl) _, h4⟩
theorem UK.setCell {cb : Nat} {a b : World} (h : UK cb a b) (o : Nat) (u : Value) : UK cb a (b.setCell ⟨cb, o, none⟩ u) := fun q x t f hq ht hc => (Below.heap_setCell _ _ _ _ hc).trans (h q x t f hq ht hc)
set_option maxRecDepth 20000 in
set_option maxHeartbeats 4000000 in
theorem useLoop (W0 : World) (cb M lp : Nat) (hlp : lp ≤ 1000) (rec : Bool) (body : Value) (hsl : ∃ po n cap, body = .slice po n cap) (ns us : List Use) (w : World) (h : UJ W0 cb M lp rec us w)
    (h1 : ∀ W, UJ W0 cb M (lp + 1) rec us W → UK cb w W → Calls Tryz.prog 113 #[.pointer (some ⟨cb, 0, none⟩), body] W fun en w' => en = .returned (.tuple #[]) ∧ UJ W0 cb M (lp + 1) rec (us ++ ns) w' ∧ UK cb W w') :
    Calls Tryz.prog 185 #[.pointer (some ⟨cb, 0, none⟩), body] w fun en w' => en = .returned (.tuple #[]) ∧ UJ W0 cb M lp rec (us ++ ns) w' ∧ UK cb w w' := by
  obtain ⟨po, n, cap, rfl⟩ := hsl
  have hj := h.setLp (lp + 1)
  have hk := (UK.refl cb w).setCell 4 (.int .i64 ((lp + 1 : Nat) : Int))
  have c4 : w.cell? ⟨cb, 4, none⟩ = some (.int .i64 lp) := by obtain ⟨v, h1, _⟩ := h; exact cell_of h1.1 rfl
  have cf : ∀ o, w.frozen? ⟨cb, o, none⟩ = false := by obtain ⟨v, h1, _⟩ := h; exact free_of h1.1
  have hcl := h.lt
  have H1 := hide (h1 _ hj hk)
  have HK := hide hk
  clear h h1 hj hk
  have e1 : ((lp + 1 : Nat) : Int) = (lp : Int) + 1 := by omega
  rw [e1] at H1 HK
  go_enter Tryz.func185, Tryz.ntmps185
  go_wp2_with fail
  refine (H1.out).mono ?_
  rintro en w2 ⟨rfl, hj2, hk2⟩
  have d4 : w2.cell? ⟨cb, 4, none⟩ = some (.int .i64 ((lp : Int) + 1)) := by obtain ⟨v, h1, _⟩ := hj2; have := cell_of (o := 4) h1.1 rfl; rw [this]; rfl
  have df : ∀ o, w2.frozen? ⟨cb, o, none⟩ = false := by obtain ⟨v, h1, _⟩ := hj2; exact free_of h1.1
  have HJ := hide (hj2.setLp lp)
  have HK2 := hide (HK.out.trans hk2)
  clear hj2 hk2 H1
  go_wp2
  go_end0
  exact ⟨rfl, HJ.out, HK2.out.setCell 4 _⟩
set_option maxRecDepth 20000 in
set_option maxHeartbeats 4000000 in
theorem useS_for (W0 : World) (cb M lp : Nat) (hlp : lp ≤ 1000) (rec : Bool) (t1 t2 t3 : TypeId) (u1 u2 u3 : Value) (b : Value) (n1 n2 n3 ns : List Use) (h1 : UseE W0 cb M lp rec (.iface t1 u1) n1) (h2 : UseE W0 cb M lp rec (.iface t2 u2) n2) (h3 : UseE W0 cb M lp rec (.iface t3 u3) n3) (s : Value) (hif : ∃ t x, s = .iface t x) (hrow : W0.ownsRow 0 235 1 b 1 [s]) (hcb : b.ownBlock ≠ some cb) (hS : UseS W0 cb M (lp + 1) rec s ns) :
    UseS W0 cb M lp rec (.iface 295 (.agg #[.iface t1 u1, .iface t2 u2, .iface t3 u3, b])) (n1 ++ n2 ++ n3 ++ ns) := by
  intro us w hl h
  simp only [List.length_append] at hl
  have hcl := h.lt
  have hO : Only (fun k => k = cb) W0 w := by obtain ⟨_, _, _, ho, _⟩ := h; exact ho
  obtain ⟨g, cap, c, rfl, hg, hb, hc⟩ := row_block hrow (by omega) hcb hO
  have hE := useEs W0 cb M lp rec (w.heap.size + 1) 3 [.iface t1 u1, .iface t2 u2, .iface t3 u3] [n1, n2, n3] rfl (by simp) (fun i e n a1 a2 => by
    match i with
    | 0 => cases a1; cases a2; exact h1
    | 1 => cases a1; cases a2; exact h2
    | 2 => cases a1; cases a2; exact h3
    | k + 3 => cases a1) (fun i e a1 => by
    match i with
    | 0 => cases a1; exact ⟨_, _, rfl⟩
    | 1 => cases a1; exact ⟨_, _, rfl⟩
    | 2 => cases a1; exact ⟨_, _, rfl⟩
    | k + 3 => cases a1) us ((w.alloc (.cells #[.iface t1 u1, .iface t2 u2, .iface t3 u3, .slice (some ⟨g, 0, none⟩) 1 cap] 295)).alloc (.cells #[.iface t1 u1, .iface t2 u2, .iface t3 u3] 238)) (by simp; omega) ((h.calm (onlyA w _)).calm (onlyA _ _)) #[.iface t1 u1, .iface t2 u2, .iface t3 u3] 238 (new_at2 (by simp) _) (by decide) (by omega) (fun i e a1 => by simpa using a1)
  have HE := hide hE
  have HS := hide hS
  have HB := hide hb
  have HC := hide hc
  have HIf := hide hif
  clear h h1 h2 h3 hE hS hrow hcb hb hc hif
  have q0 : ∀ W, (Instr.typeAssert (.iface 295 (.agg #[.iface t1 u1, .iface t2 u2, .iface t3 u3, .slice (some ⟨g, 0, none⟩) 1 cap])) 235 95 true).run Tryz.prog W = .ok (.tuple #[.slice none 0 0, .bool false]) W := fun W => by kernel_rfl
  have q1 : ∀ W, (Instr.typeAssert (.iface 295 (.agg #[.iface t1 u1, .iface t2 u2, .iface t3 u3, .slice (some ⟨g, 0, none⟩) 1 cap])) 235 290 true).run Tryz.prog W = .ok (.tuple #[.agg #[.nilIface, .slice none 0 0, .bool false, .slice none 0 0], .bool false]) W := fun W => by kernel_rfl
  have q2 : ∀ W, (Instr.typeAssert (.iface 295 (.agg #[.iface t1 u1, .iface t2 u2, .iface t3 u3, .slice (some ⟨g, 0, none⟩) 1 cap])) 235 293 true).run Tryz.prog W = .ok (.tuple #[.agg #[.nilIface, .slice none 0 0], .bool false]) W := fun W => by kernel_rfl
  have q3 : ∀ W, (Instr.typeAssert (.iface 295 (.agg #[.iface t1 u1, .iface t2 u2, .iface t3 u3, .slice (some ⟨g, 0, none⟩) 1 cap])) 235 295 true).run Tryz.prog W = .ok (.tuple #[.agg #[.iface t1 u1, .iface t2 u2, .iface t3 u3, .slice (some ⟨g, 0, none⟩) 1 cap], .bool true]) W := fun W => by kernel_rfl
  go_enter Tryz.func144, Tryz.ntmps144
  go_wp2_with fail
  refine (HE.out).mono ?_
  rintro en w2 ⟨rfl, hj, hk⟩
  have hk0 : UK cb w w2 := hk.fromAlloc.fromAlloc
  have hbx := hk w.heap.size _ _ _ ((Below.heap_alloc _ _ _ (by simp)).trans (new0 w _)) (by decide) (by omega)
  have b3 : w2.cell? ⟨w.heap.size, 3, none⟩ = some (.slice (some ⟨g, 0, none⟩) 1 cap) := cell_of hbx rfl
  have hL := useLoop W0 cb M lp hlp rec (.slice (some ⟨g, 0, none⟩) 1 cap) ⟨_, _, _, rfl⟩ ns (us ++ [n1, n2, n3].flatten) w2 hj (fun W hW hWk => by
    have := useSs W0 cb M (lp + 1) rec g cap [s] [ns] rfl (by simp) (fun i e n a1 a2 => by
      cases i with
      | zero => cases a1; cases a2; exact HS.out
      | succ i => cases a1) (fun i e a1 => by
      cases i with
      | zero => cases a1; exact HIf.out
      | succ i => cases a1) (us ++ [n1, n2, n3].flatten) W (by simp; omega) hW c _ (hWk g _ _ _ (hk0 g _ _ _ HB.out (by decide) hg) (by decide) hg) (by decide) hg HC.out
    simpa using this)
  have HL := hide hL
  have HK := hide hk0
  clear hj hk hk0 hbx hL HE
  go_wp2_with fail
  refine (HL.out).mono ?_
  rintro en w3 ⟨rfl, hj, hk⟩
  have HJ := hide hj
  have HK2 := hide (HK.out.trans hk)
  clear hj hk
  go_wp2
  go_end0
  refine ⟨rfl, ?_, HK2.out⟩
  have := HJ.out
  simpa using this
end Go.Proofs.YtdbdbaepmdmnfaaGreatDoor

