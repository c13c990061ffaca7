import Derived.Test.YtdbdbaepmdmnfaaGreatDoorNWit
import Derived.Test.YtdbdbaepmdmnfaaGreatDoorNSent
import Derived.Test.YtdbdbaepmdmnfaaGreatDoorQ43
namespace Go.Proofs.YtdbdbaepmdmnfaaGreatDoor
open Go.ChangeShapes Go.WideShapes Go.ChangeAt Go.RowKit Go.Deep
set_option maxRecDepth 100000 in
/-- The walk, for every argument that can be read and every world that holds the listed variables. -/
theorem lines_contract (H : Type) (enc : TypeId × Value → H) (W : World) (base : Nat) (args : Array Value) (ds gs : List (DataW H)) (before : List MemPlace)
    (hval : ∀ (j : Nat) t v, Tryz.f5.params[j]? = some t → args[j]? = some v → Value.okWide Tryz.prog W .any base t v)
    (hW : DataW.Whole enc Tryz.prog Tryz.f5.params.toList Rows.linesSpec.vars false W args.toList ds gs before)
    (hsz : (DataW.weightsEach Tryz.prog (Tryz.f5.params.toList ++ (OpenSpec.ofChange Rows.linesSpec).bare.plain.varTypes Tryz.prog) (ds ++ gs)).all (· ≤ reachBytes) = true)
    (hL : laidMetH Tryz.prog Rows.linesRow.laid W) :
    Calls Tryz.prog 5 args W fun e W' => ∃ v, e = .returned v ∧ Rows.linesSpec.post enc Tryz.prog Tryz.f5 false true false false W args v W' := by
  have hW' := hW
  obtain ⟨p, q, hA0, hV, rfl, hfz, hnd⟩ := hW
  have hA : DataW.TrodAll enc Tryz.prog W 0 (fun _ => true) true Tryz.f5.params.toList args.toList ds p := hA0
  rw [Tryz.params5] at hA hval hsz
  obtain ⟨v0, vs0, d0, ds0, p0, q0, hargs, rfl, rfl, h0, r0⟩ := trodAll_cons hA
  obtain ⟨rfl, rfl, rfl⟩ := trodAll_nil r0
  obtain rfl : args = #[v0] := by cases args; simp_all
  obtain ⟨rfl, rfl⟩ := trodVars_none hV
  obtain ⟨a0, len, cap, rfl⟩ := okWide_slice Tryz.underlying22 (hval 0 22 v0 rfl rfl)
  have h0k := h0
  obtain ⟨fuel, hf⟩ := h0
  clear hA0
  simp only [List.append_nil] at hW'
  have hlt : ∀ x ∈ p0, x.block < W.heap.size := fun x hx => by simpa using hW'.lt x hx
  have hread : ∀ (W' : World), Below W.heap.size W W' → DataW.Trod enc Tryz.prog W' 0 (fun b => decide (b < W.heap.size)) true 22 (.slice a0 len cap) d0 p0 :=
    fun W' hn => Below.trod m_laidOut (by kernel_rfl) (of_decide_eq_true (by kernel_rfl)) h0k hn hlt
  obtain ⟨⟨aE, hse⟩, htab⟩ := lines_laid hL
  have walk : Calls Tryz.prog 5 #[.slice a0 len cap] W fun e W' => e = .returned (.bool true) ∧ Below W.heap.size W W' := by
    rcases open_slice Tryz.underlying22 hf with ⟨hcs, _⟩ | ⟨a, len', cap', m, n, D, Pl, hcs, _, hl, hm, hmm, hx, hel⟩
    · simp [Value.cells] at hcs
      obtain ⟨rfl, rfl, rfl⟩ := hcs
      exact (linesL_none none 0 W).mono (fun _ _ h => ⟨h.1, h.2.below (Nat.le_refl _) (fun _ _ e => e)⟩)
    · simp [Value.cells] at hcs
      obtain ⟨rfl, rfl, rfl⟩ := hcs
      simp at hmm
      by_cases hz : len = 0
      · subst hz; exact (linesL_none _ _ W).mono (fun _ _ h => ⟨h.1, h.2.below (Nat.le_refl _) (fun _ _ e => e)⟩)
      · cases hx
        have hwt : ∀ x ∈ DataW.weights Tryz.prog 22 (DataW.slice ((List.range len).map D) ((List.range (m - len)).map fun j => D (len + j)) : DataW H), x ≤ reachBytes := by
          intro x hx
          have := List.all_eq_true.1 hsz x (DataW.weights_mem_each (j := 0) (t := 22) rfl rfl x hx)
          simpa using this
        have hn : len ≤ 140737488355328 := by
          have := hwt ((((List.range len).map D).length + ((List.range (m - len)).map fun j => D (len + j)).length) * 96) (by
            simp only [DataW.weights, Tryz.underlying22, bytes25]
            exact List.mem_cons_self)
          simp at this
          unfold reachBytes at this
          omega
        obtain ⟨cs0, k1, k2⟩ := hel 0 (by omega)
        rw [cells25] at k1
        obtain ⟨_, hcl, hcc⟩ := World.cells?_some k1
        have c0 := hcc 0 (by omega)
        obtain ⟨v, hv⟩ : ∃ v, cs0[0]? = some v := ⟨cs0[0], List.getElem?_eq_getElem (by omega)⟩
        rw [hv] at c0
        obtain ⟨b, off, rfl⟩ : ∃ b o, a = ⟨b, o, none⟩ := by
          have h1 : (a.add (0 * 7)).add 0 = a := by simp [Addr.add]
          rw [h1] at c0; exact spot_of_cell c0
        rw [add_none, add_none] at c0
        refine (linesL_some b off len cap hn aE W (lt_of_cell c0) (fun i hi => ?_) hse htab).mono (fun _ _ h => ⟨h.1, h.2.below (Nat.le_refl _) (fun _ _ e => e)⟩)
        obtain ⟨cs, q1, q2⟩ := hel i (by omega)
        rw [cells25, add_none] at q1
        exact opn_open q1 q2 (fun x hx => hwt x (by
          simp only [DataW.weights, Tryz.underlying22]
          exact List.mem_cons_of_mem _ (List.mem_append_left _ (weights_mem_all (List.mem_map.2 ⟨i, List.mem_range.2 hi, rfl⟩) hx))))
  refine walk.mono fun e W' ⟨he, hb⟩ => ?_
  subst he
  refine ⟨_, rfl, _, _, _, [], p0 ++ [], [], hW', ?_, ?_, rfl, hb.frame _, fun h => by cases h⟩
  · exact trodAll_cons_mk (shut_bool Tryz.underlying4 _) trodAll_mk0
  · exact trodAll_cons_mk (hread W' hb) trodAll_mk0
set_option maxRecDepth 100000 in
theorem lines_lifted (os : Os) (started : os.Started) (H : Type) (enc : TypeId × Value → H) (F : Stop.Interp) :
    ReturnsInHanded {} Tryz.checked os 5 .any ((OpenSpec.ofChange Rows.linesSpec).preRow enc Tryz.prog Tryz.f5 Rows.linesRow.domain false Rows.linesRow.laid) (((OpenSpec.ofChange Rows.linesSpec).at F).post enc Tryz.prog Tryz.f5 false true false false) := by
  obtain ⟨w0, h1, h2, h3, h4, h5, h6⟩ := lines_world os
  obtain ⟨places, hx⟩ := h6 H enc
  refine returnsInHanded_of_row (C := Tryz.checked) (s := OpenSpec.ofChange Rows.linesSpec) lines_own started (by kernel_rfl) Tryz.func5
    (witness_row_atRef (enc := enc) (C := Tryz.checked) false w0 #[.slice none 0 0] h1 h2 h3 h4
      (OpenSpec.preRow_of_cond 8 hx (by kernel_rfl) (fun k hk => by cases hk) (by kernel_rfl) h5)) ?_
  intro W base args ds gs before hval hW _ _ hsz hL _ _
  exact lines_contract H enc W base args ds gs before hval hW hsz hL
end Go.Proofs.YtdbdbaepmdmnfaaGreatDoor
