import Derived.Test.YtdbdbaepmdmnfaaGreatDoorMLaid
import Derived.LaidLaws
namespace Go.Proofs.YtdbdbaepmdmnfaaGreatDoor
open Go.RowKit
theorem star : "*" ++ "errors.errorString" = "*errors.errorString" := by decide
theorem tr_0 : (List.range' 0 40).all (fun u => Tryz.prog.typeName? 3 u != some "*errors.errorString" || u == 558) = true := by kernel_rfl
theorem tn_0 : (List.range' 0 40).all (fun e => Tryz.prog.typeName? 2 e != some "errors.errorString" || (match (Tryz.prog.info? e).map (·.desc) with | some (TypeDesc.named _ _) => true | _ => false)) = true := by kernel_rfl
theorem tr_40 : (List.range' 40 40).all (fun u => Tryz.prog.typeName? 3 u != some "*errors.errorString" || u == 558) = true := by kernel_rfl
theorem tn_40 : (List.range' 40 40).all (fun e => Tryz.prog.typeName? 2 e != some "errors.errorString" || (match (Tryz.prog.info? e).map (·.desc) with | some (TypeDesc.named _ _) => true | _ => false)) = true := by kernel_rfl
theorem tr_80 : (List.range' 80 40).all (fun u => Tryz.prog.typeName? 3 u != some "*errors.errorString" || u == 558) = true := by kernel_rfl
theorem tn_80 : (List.range' 80 40).all (fun e => Tryz.prog.typeName? 2 e != some "errors.errorString" || (match (Tryz.prog.info? e).map (·.desc) with | some (TypeDesc.named _ _) => true | _ => false)) = true := by kernel_rfl
theorem tr_120 : (List.range' 120 40).all (fun u => Tryz.prog.typeName? 3 u != some "*errors.errorString" || u == 558) = true := by kernel_rfl
theorem tn_120 : (List.range' 120 40).all (fun e => Tryz.prog.typeName? 2 e != some "errors.errorString" || (match (Tryz.prog.info? e).map (·.desc) with | some (TypeDesc.named _ _) => true | _ => false)) = true := by kernel_rfl
theorem tr_160 : (List.range' 160 40).all (fun u => Tryz.prog.typeName? 3 u != some "*errors.errorString" || u == 558) = true := by kernel_rfl
theorem tn_160 : (List.range' 160 40).all (fun e => Tryz.prog.typeName? 2 e != some "errors.errorString" || (match (Tryz.prog.info? e).map (·.desc) with | some (TypeDesc.named _ _) => true | _ => false)) = true := by kernel_rfl
theorem tr_200 : (List.range' 200 40).all (fun u => Tryz.prog.typeName? 3 u != some "*errors.errorString" || u == 558) = true := by kernel_rfl
theorem tn_200 : (List.range' 200 40).all (fun e => Tryz.prog.typeName? 2 e != some "errors.errorString" || (match (Tryz.prog.info? e).map (·.desc) with | some (TypeDesc.named _ _) => true | _ => false)) = true := by kernel_rfl
theorem tr_240 : (List.range' 240 40).all (fun u => Tryz.prog.typeName? 3 u != some "*errors.errorString" || u == 558) = true := by kernel_rfl
theorem tn_240 : (List.range' 240 40).all (fun e => Tryz.prog.typeName? 2 e != some "errors.errorString" || (match (Tryz.prog.info? e).map (·.desc) with | some (TypeDesc.named _ _) => true | _ => false)) = true := by kernel_rfl
theorem tr_280 : (List.range' 280 40).all (fun u => Tryz.prog.typeName? 3 u != some "*errors.errorString" || u == 558) = true := by kernel_rfl
theorem tn_280 : (List.range' 280 40).all (fun e => Tryz.prog.typeName? 2 e != some "errors.errorString" || (match (Tryz.prog.info? e).map (·.desc) with | some (TypeDesc.named _ _) => true | _ => false)) = true := by kernel_rfl
theorem tr_320 : (List.range' 320 40).all (fun u => Tryz.prog.typeName? 3 u != some "*errors.errorString" || u == 558) = true := by kernel_rfl
theorem tn_320 : (List.range' 320 40).all (fun e => Tryz.prog.typeName? 2 e != some "errors.errorString" || (match (Tryz.prog.info? e).map (·.desc) with | some (TypeDesc.named _ _) => true | _ => false)) = true := by kernel_rfl
theorem tr_360 : (List.range' 360 40).all (fun u => Tryz.prog.typeName? 3 u != some "*errors.errorString" || u == 558) = true := by kernel_rfl
theorem tn_360 : (List.range' 360 40).all (fun e => Tryz.prog.typeName? 2 e != some "errors.errorString" || (match (Tryz.prog.info? e).map (·.desc) with | some (TypeDesc.named _ _) => true | _ => false)) = true := by kernel_rfl
theorem tr_400 : (List.range' 400 40).all (fun u => Tryz.prog.typeName? 3 u != some "*errors.errorString" || u == 558) = true := by kernel_rfl
theorem tn_400 : (List.range' 400 40).all (fun e => Tryz.prog.typeName? 2 e != some "errors.errorString" || (match (Tryz.prog.info? e).map (·.desc) with | some (TypeDesc.named _ _) => true | _ => false)) = true := by kernel_rfl
theorem tr_440 : (List.range' 440 40).all (fun u => Tryz.prog.typeName? 3 u != some "*errors.errorString" || u == 558) = true := by kernel_rfl
theorem tn_440 : (List.range' 440 40).all (fun e => Tryz.prog.typeName? 2 e != some "errors.errorString" || (match (Tryz.prog.info? e).map (·.desc) with | some (TypeDesc.named _ _) => true | _ => false)) = true := by kernel_rfl
theorem tr_480 : (List.range' 480 40).all (fun u => Tryz.prog.typeName? 3 u != some "*errors.errorString" || u == 558) = true := by kernel_rfl
theorem tn_480 : (List.range' 480 40).all (fun e => Tryz.prog.typeName? 2 e != some "errors.errorString" || (match (Tryz.prog.info? e).map (·.desc) with | some (TypeDesc.named _ _) => true | _ => false)) = true := by kernel_rfl
theorem tr_520 : (List.range' 520 40).all (fun u => Tryz.prog.typeName? 3 u != some "*errors.errorString" || u == 558) = true := by kernel_rfl
theorem tn_520 : (List.range' 520 40).all (fun e => Tryz.prog.typeName? 2 e != some "errors.errorString" || (match (Tryz.prog.info? e).map (·.desc) with | some (TypeDesc.named _ _) => true | _ => false)) = true := by kernel_rfl
theorem tr_560 : (List.range' 560 30).all (fun u => Tryz.prog.typeName? 3 u != some "*errors.errorString" || u == 558) = true := by kernel_rfl
theorem tn_560 : (List.range' 560 30).all (fun e => Tryz.prog.typeName? 2 e != some "errors.errorString" || (match (Tryz.prog.info? e).map (·.desc) with | some (TypeDesc.named _ _) => true | _ => false)) = true := by kernel_rfl
theorem tr_all : (List.range Tryz.prog.types.size).all (fun u => Tryz.prog.typeName? 3 u != some "*errors.errorString" || u == 558) = true := by
  refine all_range fun i hi => ?_
  rw [ntypes] at hi
  by_cases h0 : i < 40
  · exact all_part tr_0 i (by omega) (by omega)
  by_cases h40 : i < 80
  · exact all_part tr_40 i (by omega) (by omega)
  by_cases h80 : i < 120
  · exact all_part tr_80 i (by omega) (by omega)
  by_cases h120 : i < 160
  · exact all_part tr_120 i (by omega) (by omega)
  by_cases h160 : i < 200
  · exact all_part tr_160 i (by omega) (by omega)
  by_cases h200 : i < 240
  · exact all_part tr_200 i (by omega) (by omega)
  by_cases h240 : i < 280
  · exact all_part tr_240 i (by omega) (by omega)
  by_cases h280 : i < 320
  · exact all_part tr_280 i (by omega) (by omega)
  by_cases h320 : i < 360
  · exact all_part tr_320 i (by omega) (by omega)
  by_cases h360 : i < 400
  · exact all_part tr_360 i (by omega) (by omega)
  by_cases h400 : i < 440
  · exact all_part tr_400 i (by omega) (by omega)
  by_cases h440 : i < 480
  · exact all_part tr_440 i (by omega) (by omega)
  by_cases h480 : i < 520
  · exact all_part tr_480 i (by omega) (by omega)
  by_cases h520 : i < 560
  · exact all_part tr_520 i (by omega) (by omega)
  exact all_part tr_560 i (by omega) (by omega)
theorem tn_all : (List.range Tryz.prog.types.size).all (fun e => Tryz.prog.typeName? 2 e != some "errors.errorString" || (match (Tryz.prog.info? e).map (·.desc) with | some (TypeDesc.named _ _) => true | _ => false)) = true := by
  refine all_range fun i hi => ?_
  rw [ntypes] at hi
  by_cases h0 : i < 40
  · exact all_part tn_0 i (by omega) (by omega)
  by_cases h40 : i < 80
  · exact all_part tn_40 i (by omega) (by omega)
  by_cases h80 : i < 120
  · exact all_part tn_80 i (by omega) (by omega)
  by_cases h120 : i < 160
  · exact all_part tn_120 i (by omega) (by omega)
  by_cases h160 : i < 200
  · exact all_part tn_160 i (by omega) (by omega)
  by_cases h200 : i < 240
  · exact all_part tn_200 i (by omega) (by omega)
  by_cases h240 : i < 280
  · exact all_part tn_240 i (by omega) (by omega)
  by_cases h280 : i < 320
  · exact all_part tn_280 i (by omega) (by omega)
  by_cases h320 : i < 360
  · exact all_part tn_320 i (by omega) (by omega)
  by_cases h360 : i < 400
  · exact all_part tn_360 i (by omega) (by omega)
  by_cases h400 : i < 440
  · exact all_part tn_400 i (by omega) (by omega)
  by_cases h440 : i < 480
  · exact all_part tn_440 i (by omega) (by omega)
  by_cases h480 : i < 520
  · exact all_part tn_480 i (by omega) (by omega)
  by_cases h520 : i < 560
  · exact all_part tn_520 i (by omega) (by omega)
  exact all_part tn_560 i (by omega) (by omega)
set_option maxRecDepth 100000 in
theorem row558 (u : TypeId) (h : Tryz.prog.typeName? 3 u = some "*errors.errorString") : u = 558 := by
  refine typeName_ptr_named (P := Tryz.prog) (nm := "errors.errorString") (tp := 558) ?_ tn_all (by decide) u (by rw [star]; exact h)
  rw [star]
  exact tr_all
end Go.Proofs.YtdbdbaepmdmnfaaGreatDoor
