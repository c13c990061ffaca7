import Derived.Test.YtdbdbaepmdmnfaaGreatDoorZ26
import Derived.Test.YtdbdbaepmdmnfaaGreatDoorZ27
import Derived.Test.YtdbdbaepmdmnfaaGreatDoorProg
import Derived.Shelf.Strings.OnBuilder
namespace Go.Proofs.YtdbdbaepmdmnfaaGreatDoor
open Go.RowKit
theorem set3 {w : World} {b : Nat} {x0 x1 x2 : Value} (h : w.heap[b]? = some (.cells #[x0, x1, x2] 203 (0, 0))) (u0 u1 u2 : Value) : (((w.setCell ⟨b, 0, none⟩ u0).setCell ⟨b, 1, none⟩ u1).setCell ⟨b, 2, none⟩ u2).heap[b]? = some (.cells #[u0, u1, u2] 203 (0, 0)) := heap_setCell_same (heap_setCell_same (heap_setCell_same h u0) u1) u2
theorem set3D {w : World} {b : Nat} {x0 x1 x2 : Value} (h : w.heap[b]? = some (.cells #[x0, x1, x2] 203 (0, 0))) (u0 u1 u2 : Value) : (((w.setCell ⟨b, 0, none⟩ u0).setCell ⟨b, 1, none⟩ u1).setCell ⟨b, 2, none⟩ u2).drew.heap[b]? = some (.cells #[u0, u1, u2] 203 (0, 0)) := set3 h u0 u1 u2
set_option maxRecDepth 20000 in
set_option maxHeartbeats 2000000 in
/-- What was made of a store that adds. -/
theorem works_addG (p : Pl8) (s s' : St8) (ft fst : Nat) (kt : TypeId) (kc : Array Value) (lb rb kb ob : Nat) (x1 y1 x2 y2 : Value) (x y : Nat) (hx : x ≤ 100000) (hy : y ≤ 100000) (t1 t2 : ByteArray) (hl : p.wN.heap[lb]? = some (.cells #[x1, y1] 338 (0, 0))) (hr : p.wN.heap[rb]? = some (.cells #[x2, y2] 338 (0, 0))) (hkb : p.wN.heap[kb]? = some (.cells #[.func (.func 455) #[] #[.pointer (some ⟨ob, 0, none⟩)]] 476 (0, 0))) (hob : p.wN.heap[ob]? = some (.cells #[.func (.func 416) #[] #[]] 511 (0, 0))) (hF : FindsK p s ft fst kt kc y1) (hT : TakesK p s ft kt kc 1 x t1) (hG : Gives p s x2 (.agg #[.int .i64 1, .int .i64 y, .string t2])) (hS : StoresK p s s' fst kt kc (.agg #[.int .i64 1, .int .i64 ((x : Int) + (y : Int)), .string ⟨#[]⟩])) : Works p s s' (.func (.func 353) #[] #[.pointer (some ⟨lb, 0, none⟩), .pointer (some ⟨rb, 0, none⟩), .pointer (some ⟨kb, 0, none⟩)]) (.agg #[.int .i64 1, .int .i64 ((x : Int) + (y : Int)), .string ⟨#[]⟩]) := by
  refine ⟨353, [.pointer (some ⟨lb, 0, none⟩), .pointer (some ⟨rb, 0, none⟩), .pointer (some ⟨kb, 0, none⟩)], rfl, cf353, fun w h => ?_⟩
  obtain ⟨F1, caps1, rfl, hcf1, hF⟩ := hF
  obtain ⟨F2, caps2, rfl, hcf2, hG⟩ := hG
  obtain ⟨hcf3, hS⟩ := hS
  obtain ⟨hcf4, hT⟩ := hT
  unfold Enters at hcf1 hcf2 hcf3 hcf4
  have hcf5 := cf455
  have hmf := hmfT
  have hsf := hsfT
  have hsn := hsnT
  have hlw := (h.O.block lb (heap_lt hl) (fun e => e)).trans hl
  have hrw := (h.O.block rb (heap_lt hr) (fun e => e)).trans hr
  have hkw := (h.O.block kb (heap_lt hkb) (fun e => e)).trans hkb
  have how := (h.O.block ob (heap_lt hob) (fun e => e)).trans hob
  have ek : w.cell? ⟨kb, 0, none⟩ = some (.func (.func 455) #[] #[.pointer (some ⟨ob, 0, none⟩)]) := cell_of hkw rfl
  have kl := heap_lt hkw
  have HOb := hide how
  have el : w.cell? ⟨lb, 1, none⟩ = some (.func (.func F1) #[] caps1.toArray) := cell_of hlw rfl
  have er : w.cell? ⟨rb, 0, none⟩ = some (.func (.func F2) #[] caps2.toArray) := cell_of hrw rfl
  have ll := heap_lt hlw
  have rl := heap_lt hrw
  have HH := hide h
  have HF := hide (fun W (hW : Only (fun _ => False) w W) => hF W (h.calm hW))
  have HG := hide (fun W (hW : Only (fun _ => False) w W) => hG W (h.calm hW))
  have HS := hide (fun W b2 nb (hW : Only (fun _ => False) w W) => hS W b2 nb (h.calm hW))
  have HTk := hide (fun W b2 nb (hW : Only (fun _ => False) w W) => hT W b2 nb (h.calm hW))
  clear h hlw hrw hkw how hF hG hS hl hr hkb hob hT
  go_enter Tryz.func353, Tryz.ntmps353
  go_wp2_with fail
  refine (HF.out _ (onlyA w _)).mono ?_
  rintro en w1 ⟨tk, st, rfl, ⟨b2, nb, rfl, rfl, h2, h4⟩, ho1⟩
  have hO1 := (onlyA w _).trans ho1 (fun _ _ e => e)
  have el1 := (hO1.cell (p := ⟨lb, 1, none⟩) ll (fun e => e)).trans el
  have er1 := (hO1.cell (p := ⟨rb, 0, none⟩) rl (fun e => e)).trans er
  have hb0 := (ho1.block w.heap.size (by simp) (fun e => e)).trans (new0 w _)
  have HB0 := hide hb0
  have HO1 := hide hO1
  have H2 := hide h2
  have H4 := hide h4
  have z1 := ho1.size
  simp at z1
  have rl1 : rb < w1.heap.size := by omega
  clear ho1 hO1 hb0 h2 h4 z1
  go_wp2_with fail
  refine (HG.out _ (HO1.out.alloc _)).mono ?_
  rintro en w2 ⟨rfl, ho2⟩
  have hO2 := (HO1.out.alloc _).trans ho2 (fun _ _ e => e)
  have hfb := (ho2.block w1.heap.size (by simp) (fun e => e)).trans (new0 w1 _)
  have f02 : w2.cell? ⟨w1.heap.size, 0, none⟩ = some (.func (.func ft) #[] #[.pointer (some ⟨b2, 0, none⟩), .pointer (some ⟨nb, 0, none⟩)]) := cell_of hfb rfl
  have ck2 := (hO2.cell (p := ⟨kb, 0, none⟩) kl (fun e => e)).trans ek
  have fl := heap_lt hfb
  have HFb := hide hfb
  have o12 := ((Only.refl (fun _ => False) w1).alloc _).trans ho2 (fun _ _ e => e)
  have hb2 := (o12.block b2 (heap_lt H2.out) (fun e => e)).trans H2.out
  have hb4 := (o12.block nb (heap_lt H4.out) (fun e => e)).trans H4.out
  have hbr := (o12.block w.heap.size (heap_lt HB0.out) (fun e => e)).trans HB0.out
  have z2 := o12.size
  have z0 := heap_lt HB0.out
  have HT := hide (fun W (hW : Only (fun _ => False) w2 W) => HTk.out W b2 nb (hO2.trans hW (fun _ _ e => e)) ((hW.block b2 (heap_lt hb2) (fun e => e)).trans hb2) ((hW.block nb (heap_lt hb4) (fun e => e)).trans hb4))
  have hobw := (hO2.block ob (heap_lt HOb.out) (fun e => e)).trans HOb.out
  have HA := hide (fun W (hW : Only (fun _ => False) w2 W) => reckon_add (some ⟨p.m, 0, none⟩) ob x y hx hy t1 t2 W ((hW.block ob (heap_lt hobw) (fun e => e)).trans hobw))
  have kl2 : kb < w2.heap.size := Nat.lt_of_lt_of_le kl hO2.size
  have HBr := hide hbr
  have HO2 := hide hO2
  have H22 := hide hb2
  have H24 := hide hb4
  clear ho2 hO2 hfb o12 hb2 hb4 hbr hobw H2 H4 HB0 HTk HF HG hx hy el el1 er er1 ek
  go_upto_region 3 with fail
  have n0 : (w2.alloc (.cells #[.int .i64 1, .int .i64 y, .string t2] 203)).cell? ⟨kb, 0, none⟩ = some (.func (.func 455) #[] #[.pointer (some ⟨ob, 0, none⟩)]) := past ck2 _
  have n0d : (w2.alloc (.cells #[.int .i64 1, .int .i64 y, .string t2] 203)).drew.cell? ⟨kb, 0, none⟩ = some (.func (.func 455) #[] #[.pointer (some ⟨ob, 0, none⟩)]) := n0
  have n1 : (w2.alloc (.cells #[.int .i64 1, .int .i64 y, .string t2] 203)).cell? ⟨w1.heap.size, 0, none⟩ = some (.func (.func ft) #[] #[.pointer (some ⟨b2, 0, none⟩), .pointer (some ⟨nb, 0, none⟩)]) := past f02 _
  have n1d : (w2.alloc (.cells #[.int .i64 1, .int .i64 y, .string t2] 203)).drew.cell? ⟨w1.heap.size, 0, none⟩ = some (.func (.func ft) #[] #[.pointer (some ⟨b2, 0, none⟩), .pointer (some ⟨nb, 0, none⟩)]) := n1
  have n2 : (w2.alloc (.cells #[.int .i64 1, .int .i64 y, .string t2] 203)).cell? ⟨w2.heap.size, 0, none⟩ = some (.int .i64 1) := cell_of (new0 w2 _) rfl
  have n2d : (w2.alloc (.cells #[.int .i64 1, .int .i64 y, .string t2] 203)).drew.cell? ⟨w2.heap.size, 0, none⟩ = some (.int .i64 1) := n2
  have n3 : (w2.alloc (.cells #[.int .i64 1, .int .i64 y, .string t2] 203)).cell? ⟨w2.heap.size, 1, none⟩ = some (.int .i64 y) := cell_of (new0 w2 _) rfl
  have n3d : (w2.alloc (.cells #[.int .i64 1, .int .i64 y, .string t2] 203)).drew.cell? ⟨w2.heap.size, 1, none⟩ = some (.int .i64 y) := n3
  have n4 : (w2.alloc (.cells #[.int .i64 1, .int .i64 y, .string t2] 203)).cell? ⟨w2.heap.size, 2, none⟩ = some (.string t2) := cell_of (new0 w2 _) rfl
  have n4d : (w2.alloc (.cells #[.int .i64 1, .int .i64 y, .string t2] 203)).drew.cell? ⟨w2.heap.size, 2, none⟩ = some (.string t2) := n4
  go_cut [8] (fun s8 wc => ∃ vv, s8 = .pointer (some ⟨vv, 0, none⟩) ∧ wc.heap[vv]? = some (.cells #[.int .i64 1, .int .i64 ((x : Int) + (y : Int)), .string ⟨#[]⟩] 203 (0, 0)) ∧ w2.heap.size < vv ∧ Only (fun _ => False) w2 wc)
  case first =>
    go_region_held3 (fun W => W.cell? ⟨kb, 0, none⟩ = some (.func (.func 455) #[] #[.pointer (some ⟨ob, 0, none⟩)]) ∧ W.cell? ⟨w1.heap.size, 0, none⟩ = some (.func (.func ft) #[] #[.pointer (some ⟨b2, 0, none⟩), .pointer (some ⟨nb, 0, none⟩)]) ∧ W.cell? ⟨w2.heap.size, 0, none⟩ = some (.int .i64 1) ∧ W.cell? ⟨w2.heap.size, 1, none⟩ = some (.int .i64 y) ∧ W.cell? ⟨w2.heap.size, 2, none⟩ = some (.string t2)) (first | (refine ⟨?_, ?_, ?_, ?_, ?_⟩ <;> (repeat (first | (with_reducible assumption) | (with_reducible refine past ?_ _) | (with_reducible refine pastD ?_ _) | ((with_reducible refine farC ?_ ?_); (rotate_left; (focus (first | (simp; done) | (simp; omega) | omega))))))))
      (first | (with_reducible show Calls Tryz.prog ft _ _ _; refine (HT.out _ (by repeat (first | with_reducible exact Only.refl _ _ | with_reducible refine Only.alloc ?_ _ | with_reducible refine toDrew ?_))).mono ?_; rintro en w3 ⟨rfl, ho3⟩; have hO3 : Only (fun _ => False) w2 w3 := Only.trans (by repeat (first | with_reducible exact Only.refl _ _ | with_reducible refine Only.alloc ?_ _ | with_reducible refine toDrew ?_)) ho3 (fun _ _ e => e); have hB3 : Only (fun _ => False) (w2.alloc (.cells #[.int .i64 1, .int .i64 y, .string t2] 203)) w3 := Only.trans (by repeat (first | with_reducible exact Only.refl _ _ | with_reducible refine Only.alloc ?_ _ | with_reducible refine toDrew ?_)) ho3 (fun _ _ e => e); have y0 := (hB3.cell (p := ⟨kb, 0, none⟩) (by simp <;> omega) (fun e => e)).trans n0; have y1 := (hB3.cell (p := ⟨w1.heap.size, 0, none⟩) (by simp <;> omega) (fun e => e)).trans n1; have y2 := (hB3.cell (p := ⟨w2.heap.size, 0, none⟩) (by simp <;> omega) (fun e => e)).trans n2; have y3 := (hB3.cell (p := ⟨w2.heap.size, 1, none⟩) (by simp <;> omega) (fun e => e)).trans n3; have y4 := (hB3.cell (p := ⟨w2.heap.size, 2, none⟩) (by simp <;> omega) (fun e => e)).trans n4; (try (refine lay (P := Hid (w3.heap[w2.heap.size + 1]? = some (.cells #[.int .i64 0, .int .i64 0, .string ⟨#[]⟩] 203 (0, 0)))) ?_ (fun HI0 => ?_); (focus (refine hide ?_; refine (ho3.block _ ?_ (fun e => e)).trans ?_; (focus (first | (simp; done) | (simp; omega) | omega)); (repeat (first | ((with_reducible refine new_at2D ?_ _); focus (simp; done)) | ((with_reducible refine (heap_allocD _ _ ?_).trans ?_); (focus (first | (simp; done) | (simp; omega) | omega))) | ((with_reducible refine new_at2 ?_ _); focus (simp; done)) | ((with_reducible refine (Below.heap_alloc _ _ _ ?_).trans ?_); (focus (first | (simp; done) | (simp; omega) | omega))))); done)); have HI00 : w3.cell? ⟨w2.heap.size + 1, 0, none⟩ = some (.int .i64 0) := cell_of HI0.out rfl; have HI01 : w3.cell? ⟨w2.heap.size + 1, 1, none⟩ = some (.int .i64 0) := cell_of HI0.out rfl; have HI02 : w3.cell? ⟨w2.heap.size + 1, 2, none⟩ = some (.string ⟨#[]⟩) := cell_of HI0.out rfl; have HI0f := free_of HI0.out; have HI0l := heap_lt HI0.out)); have z3 : w2.heap.size + 1 ≤ w3.heap.size := (by have := hB3.size; (try simp at this); omega); have HO3 := hide hO3; have HB3 := hide hB3; clear hO3 hB3 ho3) | (go_at_call 455; refine (HA.out _ (by repeat (first | with_reducible exact HO3.out | with_reducible refine Only.alloc ?_ _ | with_reducible refine toDrew ?_))).mono ?_; rintro en w4 ⟨rfl, ho4⟩; have hO4 : Only (fun _ => False) w2 w4 := Only.trans (by repeat (first | with_reducible exact HO3.out | with_reducible refine Only.alloc ?_ _ | with_reducible refine toDrew ?_)) ho4 (fun _ _ e => e); have hB4 : Only (fun _ => False) (w2.alloc (.cells #[.int .i64 1, .int .i64 y, .string t2] 203)) w4 := Only.trans (by repeat (first | with_reducible exact HB3.out | with_reducible refine Only.alloc ?_ _ | with_reducible refine toDrew ?_)) ho4 (fun _ _ e => e); have v0 := (hB4.cell (p := ⟨kb, 0, none⟩) (by simp <;> omega) (fun e => e)).trans n0; have v1 := (hB4.cell (p := ⟨w1.heap.size, 0, none⟩) (by simp <;> omega) (fun e => e)).trans n1; have v2 := (hB4.cell (p := ⟨w2.heap.size, 0, none⟩) (by simp <;> omega) (fun e => e)).trans n2; have v3 := (hB4.cell (p := ⟨w2.heap.size, 1, none⟩) (by simp <;> omega) (fun e => e)).trans n3; have v4 := (hB4.cell (p := ⟨w2.heap.size, 2, none⟩) (by simp <;> omega) (fun e => e)).trans n4; (try (refine lay (P := Hid (w4.heap[w2.heap.size + 1]? = some (.cells #[.int .i64 0, .int .i64 0, .string ⟨#[]⟩] 203 (0, 0)))) ?_ (fun HJ0 => ?_); (focus (refine hide ?_; refine (ho4.block _ ?_ (fun e => e)).trans ?_; (focus (first | (simp; done) | (simp; omega) | omega)); (repeat (first | (with_reducible exact HI0.out) | ((with_reducible refine new_at2D ?_ _); focus (simp; done)) | ((with_reducible refine (heap_allocD _ _ ?_).trans ?_); (focus (first | (simp; done) | (simp; omega) | omega))) | ((with_reducible refine new_at2 ?_ _); focus (simp; done)) | ((with_reducible refine (Below.heap_alloc _ _ _ ?_).trans ?_); (focus (first | (simp; done) | (simp; omega) | omega))))); done)); have HJ00 : w4.cell? ⟨w2.heap.size + 1, 0, none⟩ = some (.int .i64 0) := cell_of HJ0.out rfl; have HJ01 : w4.cell? ⟨w2.heap.size + 1, 1, none⟩ = some (.int .i64 0) := cell_of HJ0.out rfl; have HJ02 : w4.cell? ⟨w2.heap.size + 1, 2, none⟩ = some (.string ⟨#[]⟩) := cell_of HJ0.out rfl; have HJ0f := free_of HJ0.out; have HJ0l := heap_lt HJ0.out)); (try (refine lay (P := Hid (w4.heap[w3.heap.size]? = some (.cells #[.int .i64 0, .int .i64 0, .string ⟨#[]⟩] 203 (0, 0)))) ?_ (fun HJ1 => ?_); (focus (refine hide ?_; refine (ho4.block _ ?_ (fun e => e)).trans ?_; (focus (first | (simp; done) | (simp; omega) | omega)); (repeat (first | ((with_reducible refine new_at2D ?_ _); focus (simp; done)) | ((with_reducible refine (heap_allocD _ _ ?_).trans ?_); (focus (first | (simp; done) | (simp; omega) | omega))) | ((with_reducible refine new_at2 ?_ _); focus (simp; done)) | ((with_reducible refine (Below.heap_alloc _ _ _ ?_).trans ?_); (focus (first | (simp; done) | (simp; omega) | omega))))); done)); have HJ10 : w4.cell? ⟨w3.heap.size, 0, none⟩ = some (.int .i64 0) := cell_of HJ1.out rfl; have HJ11 : w4.cell? ⟨w3.heap.size, 1, none⟩ = some (.int .i64 0) := cell_of HJ1.out rfl; have HJ12 : w4.cell? ⟨w3.heap.size, 2, none⟩ = some (.string ⟨#[]⟩) := cell_of HJ1.out rfl; have HJ1f := free_of HJ1.out; have HJ1l := heap_lt HJ1.out)); have z4 : w3.heap.size ≤ w4.heap.size := (by have := ho4.size; (try simp at this); omega); have HO4 := hide hO4; clear hO4 hB4 ho4))
    all_goals
      go_wp2_with fail
      go_meet
      refine ⟨_, rfl, ?_, ?_, HO4.out.trans (D := fun _ => False) (E := fun q => w2.heap.size ≤ q) ?_ (fun q h1 h2 => by omega)⟩
      · (repeat (first | ((with_reducible refine new_at2 ?_ _); focus (simp; done)) | ((with_reducible refine new_at2D ?_ _); focus (simp; done)) | (with_reducible refine set3D (x0 := .int .i64 0) (x1 := .int .i64 0) (x2 := .string ⟨#[]⟩) ?_ _ _ _) | (with_reducible refine set3 (x0 := .int .i64 0) (x1 := .int .i64 0) (x2 := .string ⟨#[]⟩) ?_ _ _ _) | (with_reducible exact HJ0.out) | (with_reducible exact HJ1.out)))
      · first | omega | (simp; done) | (simp; omega)
      · (repeat (first | (with_reducible exact Only.refl _ _) | (with_reducible refine Only.alloc ?_ _) | (with_reducible refine toDrew ?_) | ((with_reducible refine Only.setCell ?_ ?_ _); (rotate_left; (focus (intro _; show _; first | (simp; done) | (simp; omega) | omega))))))
  case rest =>
    obtain ⟨vv, rfl, hv, hlt, hO⟩ := hcut
    have hfc := (hO.block w1.heap.size fl (fun e => e)).trans HFb.out
    have f0 : wc.cell? ⟨w1.heap.size, 1, none⟩ = some (.func (.func fst) #[] #[.pointer (some ⟨b2, 0, none⟩), .pointer (some ⟨nb, 0, none⟩)]) := cell_of hfc rfl
    have flc := heap_lt hfc
    have q0 : wc.cell? ⟨vv, 0, none⟩ = some (.int .i64 1) := cell_of hv rfl
    have q1 : wc.cell? ⟨vv, 1, none⟩ = some (.int .i64 ((x : Int) + (y : Int))) := cell_of hv rfl
    have q2 : wc.cell? ⟨vv, 2, none⟩ = some (.string ⟨#[]⟩) := cell_of hv rfl
    have ql := heap_lt hv
    have HV := hide hv
    have H2c := hide ((hO.block b2 (heap_lt H22.out) (fun e => e)).trans H22.out)
    have H4c := hide ((hO.block nb (heap_lt H24.out) (fun e => e)).trans H24.out)
    have HBc := hide ((hO.block w.heap.size (heap_lt HBr.out) (fun e => e)).trans HBr.out)
    have HOc := hide (HO2.out.trans hO (fun _ _ e => e))
    clear hfc hv hO HT HA HO2 H22 H24 HBr
    go_wp2_with fail
    refine (HS.out _ b2 nb HOc.out H2c.out H4c.out).mono ?_
    rintro en w3 ⟨rfl, h3, k3⟩
    have hv3 := k3.new HH.out (q := vv) (by omega) (by decide) (by decide) HV.out
    have hr3 := k3.new HH.out (q := w.heap.size) (by omega) (by decide) (by decide) HBc.out
    have v0 : w3.cell? ⟨vv, 0, none⟩ = some (.int .i64 1) := cell_of hv3 rfl
    have v1 : w3.cell? ⟨vv, 1, none⟩ = some (.int .i64 ((x : Int) + (y : Int))) := cell_of hv3 rfl
    have v2 : w3.cell? ⟨vv, 2, none⟩ = some (.string ⟨#[]⟩) := cell_of hv3 rfl
    have vl := heap_lt hv3
    have r0 : w3.cell? ⟨w.heap.size, 0, none⟩ = some (.int .i64 0) := cell_of hr3 rfl
    have r1 : w3.cell? ⟨w.heap.size, 1, none⟩ = some (.int .i64 0) := cell_of hr3 rfl
    have r2 : w3.cell? ⟨w.heap.size, 2, none⟩ = some (.string ⟨#[]⟩) := cell_of hr3 rfl
    have rf := free_of hr3
    have rl3 := heap_lt hr3
    have H3 := hide h3
    have HR3 := hide hr3
    have K3 := hide ((Kept.of HOc.out).trans k3)
    clear h3 k3 hv3 hr3
    go_wp2
    refine bodyPost_ret (v := .agg #[.int .i64 1, .int .i64 ((x : Int) + (y : Int)), .string ⟨#[]⟩]) (by simp [results, Tryz.results353, go_sem, r0, r1, r2]) rfl ⟨rfl, HH.out.box3 H3.out HR3.out (Nat.le_refl _) _ _ _, ((K3.out.set (Nat.le_refl _) _).set (Nat.le_refl _) _).set (Nat.le_refl _) _⟩
end Go.Proofs.YtdbdbaepmdmnfaaGreatDoor

namespace Go.Proofs
open Go.Shelf
def Tryz.lays156_ren : Go.Shelf.Ren := ⟨fun | 156 => 283 | 165 => 375 | 166 => 118 | 169 => 49 | 240 => 149 | 241 => 433 | 276 => 200 | 277 => 469 | n => n, fun | 31 => 23 | 9 => 9 | 3 => 3 | 4 => 4 | 0 => 0 | 20 => 20 | 72 => 88 | 76 => 232 | 70 => 86 | 37 => 54 | 75 => 74 | 127 => 167 | 164 => 368 | 5 => 5 | 80 => 104 | n => n, fun | n => n⟩
theorem Tryz.lays156 : Go.Proofs.Lays.n156 Tryz.prog Tryz.lays156_ren := {
  mixed := by kernel_rfl
  f156 := Tryz.func283.trans (congrArg some (by kernel_rfl))
  f165 := Tryz.func375.trans (congrArg some (by kernel_rfl))
  f166 := Tryz.func118.trans (congrArg some (by kernel_rfl))
  f169 := Tryz.func49.trans (congrArg some (by kernel_rfl))
  f240 := Tryz.func149.trans (congrArg some (by kernel_rfl))
  f241 := Tryz.func433.trans (congrArg some (by kernel_rfl))
  f276 := Tryz.func200.trans (congrArg some (by kernel_rfl))
  f277 := Tryz.func469.trans (congrArg some (by kernel_rfl))
  t0 := Tryz.underlying0
  a0 := Tryz.isAgg0
  z0 := Tryz.sizeOf0
  v0 := Tryz.zeroValue0
  t3 := Tryz.underlying3
  a3 := Tryz.isAgg3
  z3 := Tryz.sizeOf3
  v3 := Tryz.zeroValue3
  t4 := Tryz.underlying4
  a4 := Tryz.isAgg4
  z4 := Tryz.sizeOf4
  v4 := Tryz.zeroValue4
  t9 := Tryz.underlying9
  a9 := Tryz.isAgg9
  z9 := Tryz.sizeOf9
  v9 := Tryz.zeroValue9
  t20 := Tryz.underlying20
  a20 := Tryz.isAgg20
  z20 := Tryz.sizeOf20
  v20 := Tryz.zeroValue20
  t31 := Tryz.underlying23
  a31 := Tryz.isAgg23
  z31 := Tryz.sizeOf23
  v31 := Tryz.zeroValue23
  t37 := Tryz.underlying54
  a37 := Tryz.isAgg54
  z37 := Tryz.sizeOf54
  v37 := Tryz.zeroValue54
  t70 := Tryz.underlying86
  a70 := Tryz.isAgg86
  z70 := Tryz.sizeOf86
  v70 := Tryz.zeroValue86
  t72 := Tryz.underlying88
  a72 := Tryz.isAgg88
  z72 := Tryz.sizeOf88
  v72 := Tryz.zeroValue88
  t75 := Tryz.underlying74
  a75 := Tryz.isAgg74
  z75 := Tryz.sizeOf74
  v75 := Tryz.zeroValue74
  t76 := Tryz.underlying232
  a76 := Tryz.isAgg232
  z76 := Tryz.sizeOf232
  v76 := Tryz.zeroValue232
  t127 := Tryz.underlying167
  a127 := Tryz.isAgg167
  z127 := Tryz.sizeOf167
  v127 := Tryz.zeroValue167
  t164 := Tryz.underlying368
  a164 := Tryz.isAgg368
  z164 := Tryz.sizeOf368
  v164 := Tryz.zeroValue368 }
theorem Tryz.Builder_Extra_156 : Builder.Extra Tryz.prog Tryz.lays156_ren := {
  sizeBuilder := by kernel_rfl
  liesBuilder := by kernel_rfl
  t5 := Tryz.underlying5
  a5 := Tryz.isAgg5
  z5 := Tryz.sizeOf5
  v5 := Tryz.zeroValue5
  infoByte := by kernel_rfl
  cellsByte := by kernel_rfl
  sizeByte := by kernel_rfl
  neB5 := by decide }
open Go.RowKit in
theorem Tryz.strings_Join (bk o c : Nat) (xs : List ByteArray) (sep : ByteArray) (w : World) (hcells : ∀ (j : Nat) x, xs[j]? = some x → w.cell? ⟨bk, o + j, none⟩ = some (.string x)) (hbk : bk < w.heap.size) (hN : xs.length ≤ 140737488355328) (hcap : xs.length ≤ c) (hlen : (Lib.join (xs.map (·.data.toList)) sep.data.toList).length ≤ 140737488355328) :
    Calls Tryz.prog 283 #[.slice (some ⟨bk, o, none⟩) xs.length c, .string sep] w fun e w' => e = .returned (.string ⟨(Lib.join (xs.map (·.data.toList)) sep.data.toList).toArray⟩) ∧ Below w.heap.size w w' := Any.strings_Join Tryz.lays156 Tryz.Builder_Extra_156 bk o c xs sep w hcells hbk hN hcap hlen
end Go.Proofs

