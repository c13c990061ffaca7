import Derived.Test.YthhiofppbpgipaaGreatDoorFWalkG
import Derived.LaidEql
import Derived.Stop.Asserts
namespace Go.Proofs.YthhiofppbpgipaaGreatDoor
open Go.RowKit Go.Extern.Stop Go.Stop Go.Extern

theorem isTypeOf (v : Value) (w : World) : (Extern.ReflectliteType.typeOf #[.iface 532 v]).run Tryz.prog w = .ok (.iface 337 (.agg #[.pointer (some ⟨14, 532, none⟩)])) w := by kernel_rfl
theorem isEntry : ∃ g : Array Value → Sem Value, Extern.find Tryz.f680 = some g ∧ ∀ w, (g #[.agg #[.pointer (some ⟨14, 532, none⟩)]]).run Tryz.prog w = .ok (.bool true) w :=
  ⟨(Extern.find Tryz.f680).getD fun _ => pure (.bool false), by kernel_rfl, fun w => by kernel_rfl⟩
theorem isMethodComparable (v : Value) (w : World) : (Go.method 817 337 v "Comparable").run Tryz.prog w = .ok (680, v) w := by kernel_rfl
theorem isComp : (Tryz.prog.info? 532).map (·.comparable) = some true := by kernel_rfl
theorem isSize : (Tryz.prog.info? 534).map (·.size) = some 1 := by kernel_rfl
theorem noIsE (v : Value) (xT : TypeId) (w : World) : (Instr.typeAssert (.iface 532 v) xT 339 true).run Tryz.prog w = .ok (.tuple #[.nilIface, .bool false]) w := run_typeAssert_lacksB Tryz.underlying339 (by kernel_rfl) (by kernel_rfl) v xT w
theorem noUnwrapE (v : Value) (xT : TypeId) (w : World) : (Instr.typeAssert (.iface 532 v) xT 342 true).run Tryz.prog w = .ok (.tuple #[.nilIface, .bool false]) w := run_typeAssert_lacksB Tryz.underlying342 (by kernel_rfl) (by kernel_rfl) v xT w
theorem noUnwrapsE (v : Value) (xT : TypeId) (w : World) : (Instr.typeAssert (.iface 532 v) xT 344 true).run Tryz.prog w = .ok (.tuple #[.nilIface, .bool false]) w := run_typeAssert_lacksB Tryz.underlying344 (by kernel_rfl) (by kernel_rfl) v xT w
set_option maxRecDepth 100000 in
set_option maxHeartbeats 1000000 in
theorem is_same (a : Addr) (w : World) :
    Calls Tryz.prog 68 #[.iface 532 (.pointer (some a)), .iface 532 (.pointer (some a))] w fun e w' => e = .returned (.bool true) ∧ w' = w := by
  obtain ⟨i, hi, hcmp⟩ := Option.map_eq_some_iff.1 isComp
  obtain ⟨j, hj, hjs⟩ := Option.map_eq_some_iff.1 isSize
  have h8 := @run_callFunc_extern Tryz.prog 131 _ Extern.ReflectliteType.typeOf Tryz.func131 (by kernel_rfl) (by kernel_rfl) (by kernel_rfl) (by kernel_rfl)
  obtain ⟨g, hg, cT⟩ := isEntry
  have h32 := @run_callFunc_extern Tryz.prog 680 _ g Tryz.func680 (by kernel_rfl) (by kernel_rfl) (by kernel_rfl) hg
  clear hg
  have tT := isTypeOf
  have mR := isMethodComparable
  have heq := run_eql_iface_ptr_same (P := Tryz.prog) w a Tryz.underlying79 Tryz.underlying532 hi hcmp hj
  go_enter Tryz.func68, Tryz.ntmps68
  go_wp2
  refine wp_loop_rounds 1 ?_
  rw [rounds_succ]
  go_wp2
  go_ret
  exact ⟨rfl, rfl⟩
set_option maxRecDepth 100000 in
set_option maxHeartbeats 1000000 in
theorem is_nil (b : Addr) (w : World) :
    Calls Tryz.prog 68 #[.nilIface, .iface 532 (.pointer (some b))] w fun e w' => e = .returned (.bool false) ∧ w' = w := by
  have hn := run_eql_iface_nil_left (P := Tryz.prog) w 532 (.pointer (some b)) Tryz.underlying79
  go_enter Tryz.func68, Tryz.ntmps68
  go_wp2
  go_ret
  exact ⟨rfl, rfl⟩
set_option maxRecDepth 100000 in
set_option maxHeartbeats 1000000 in
theorem is_other (a b : Addr) (ca cb : Array Value) (ta tb : TypeId) (w : World) (hne : a ≠ b) (ha : w.heap[a.block]? = some (.cells ca ta (0, 0))) (hb : w.heap[b.block]? = some (.cells cb tb (0, 0))) :
    Calls Tryz.prog 68 #[.iface 532 (.pointer (some a)), .iface 532 (.pointer (some b))] w fun e w' => e = .returned (.bool false) ∧ w' = w := by
  obtain ⟨i, hi, hcmp⟩ := Option.map_eq_some_iff.1 isComp
  obtain ⟨j, hj, hjs⟩ := Option.map_eq_some_iff.1 isSize
  have h8 := @run_callFunc_extern Tryz.prog 131 _ Extern.ReflectliteType.typeOf Tryz.func131 (by kernel_rfl) (by kernel_rfl) (by kernel_rfl) (by kernel_rfl)
  obtain ⟨g, hg, cT⟩ := isEntry
  have h32 := @run_callFunc_extern Tryz.prog 680 _ g Tryz.func680 (by kernel_rfl) (by kernel_rfl) (by kernel_rfl) hg
  clear hg
  have tT := isTypeOf
  have mR := isMethodComparable
  have nE := noIsE
  have uE := noUnwrapE
  have vE := noUnwrapsE
  have heq := run_eql_iface_ptr_other (P := Tryz.prog) w Tryz.underlying79 Tryz.underlying532 hi hcmp hj (by rw [hjs]; decide) hne ha hb
  go_enter Tryz.func68, Tryz.ntmps68
  go_wp2
  refine wp_loop_rounds 1 ?_
  rw [rounds_succ]
  go_wp2
  go_ret
  exact ⟨rfl, rfl⟩
end Go.Proofs.YthhiofppbpgipaaGreatDoor
