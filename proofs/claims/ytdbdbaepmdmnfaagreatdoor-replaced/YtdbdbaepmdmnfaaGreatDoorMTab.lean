import Derived.WalkKit
import Derived.Test.YtdbdbaepmdmnfaaGreatDoorProg
import GoSem.Claim
import GoSem.ClaimFn
import Derived.KernelRfl
namespace Go.Proofs.YtdbdbaepmdmnfaaGreatDoor
theorem tab_get {α : Type} (f : Nat → α) (a m : Nat) (L : List α) (h : (List.range' a m).map f = L) (d : α) (i : Nat) (h1 : a ≤ i) (h2 : i < a + m) : f i = (L[i - a]?).getD d := by
  rw [← h, List.getElem?_map, List.getElem?_range' (by omega)]
  simp
  congr 1
  omega
theorem nfuncs : Tryz.prog.funcs.size = 587 := by kernel_rfl
theorem no_func (g : Nat) (h : ¬ g < 587) : Tryz.prog.funcs[g]? = none := Array.getElem?_eq_none (by rw [nfuncs]; omega)
def leadL0 : List (List Nat) := [[], [], [1], [10, 11, 10, 11, 12, 10, 12, 12, 13, 13, 13, 14, 15], [16, 15], [17, 18, 18, 18, 18, 17, 20, 19], [21], [22], [23], [18, 18, 24, 25, 13, 15], [26, 26, 27], [], [], [], [28, 28, 13, 28, 13, 13], [29, 25, 28, 13, 13, 13], [25, 18, 13, 13, 30, 25, 18, 31, 13, 30], [], [28, 13], [19], [], [10, 18, 13, 13, 19, 32, 19], [10, 18, 13, 19], [29, 13, 13, 18, 29, 13, 19], [31, 33], [34, 35], [], [36, 37, 38, 39, 40], [34, 41, 42, 43], [26, 26, 39, 44], [], [], [], [], [45, 46], [47, 48, 49], [50, 51, 52, 52], [50, 53], [50, 53, 54], [55, 57, 56], [50, 58, 53, 54], [59, 60, 62, 61, 65, 61, 66, 66, 67], [], [68, 68, 68, 68, 68, 68, 68, 68], [58, 69, 70], [71, 72, 73, 74], [75, 76, 77, 78, 79], [80, 80, 80, 80, 80, 81], [80, 80, 82, 80, 81], [], [], [], [53], [], [53], [83, 84], [57, 57, 57, 85, 86, 56, 57, 87], [], [88, 89], [90, 91, 92]]
theorem lead_0 : (List.range' 0 60).map (fun g => (Tryz.prog.funcs[g]?).elim [] Tryz.prog.leadsTo) = leadL0 := by kernel_rfl
def leadL60 : List (List Nat) := [[93, 94, 95, 95, 96, 96, 96, 95, 95], [97], [63, 64], [], [98, 99, 100, 101], [63], [102], [], [103, 104], [], [], [], [], [105], [106, 107, 108], [109, 110, 111], [112, 109, 110, 111, 113], [114, 113], [115, 116, 110, 111], [], [118], [80, 119, 80], [80, 120], [121, 122], [], [56], [56, 56, 57], [57, 56], [123], [124, 125, 124], [], [126, 127], [91, 91, 128, 91], [], [], [], [], [], [129], [130], [131, 95, 132], [133], [], [], [104], [134, 135, 136], [137, 73], [138, 139, 140, 141, 140, 142], [106, 142, 106, 142, 137, 142, 143, 106, 143, 106, 142], [], [], [], [], [144], [145], [147, 146], [117], [148, 148], [149], [81, 150, 80, 120, 80, 81, 151, 80, 81, 152, 80]]
theorem lead_60 : (List.range' 60 60).map (fun g => (Tryz.prog.funcs[g]?).elim [] Tryz.prog.leadsTo) = leadL60 := by kernel_rfl
def leadL120 : List (List Nat) := [[153, 80, 154, 80, 80, 80, 155, 80, 120, 80, 155, 80, 155, 80, 120, 80, 156, 156, 156, 157, 156], [84, 122, 122, 158], [84], [159, 160], [], [], [91, 91, 161, 162], [], [163], [], [164], [165], [168, 167, 166, 169], [170, 170, 170], [171, 51, 172], [171, 173, 174, 175, 176, 177, 178, 179], [], [], [], [73], [106, 138], [137, 180, 106, 180], [140, 106, 181], [182, 106, 143, 140, 143, 183, 184, 139, 143], [113, 145, 113, 113, 145, 185, 114, 185, 186, 186, 185, 145, 114, 145, 187, 111, 145, 111, 145, 186, 114], [186, 186, 114, 145, 188, 189, 145, 145, 145, 145, 145, 145, 186, 114, 145, 145], [190, 191, 192, 193, 194, 195, 196, 197, 146, 146], [198, 199], [], [200], [80, 120, 80, 81, 80, 81], [80, 120, 80, 120, 80, 120, 80, 81], [120, 201, 80, 202, 202, 80, 155], [203], [80, 80, 80, 80, 204, 80], [80, 82, 80], [80, 120, 80, 120, 80], [80, 120, 80, 120, 80, 120, 80], [205, 84, 206], [], [], [207, 208, 208, 209, 210, 211, 212, 213, 214, 163, 215, 91], [98], [95, 216, 96, 216, 217, 218, 219, 220, 221, 222, 223, 224, 225, 226, 227, 228, 216], [229, 230, 229, 231, 230, 232], [233], [129], [27, 234], [235], [236, 95], [237], [], [171], [], [173, 175, 238, 239], [], [175, 173, 240, 239, 241, 239, 239, 239], [238, 242, 238, 238], [243, 238, 39, 238], [244, 239, 245, 239, 238]]
theorem lead_120 : (List.range' 120 60).map (fun g => (Tryz.prog.funcs[g]?).elim [] Tryz.prog.leadsTo) = leadL120 := by kernel_rfl
def leadL180 : List (List Nat) := [[246, 106, 140], [137, 142, 106, 106, 247, 106, 248, 249, 106, 250, 251, 137, 140], [253, 252], [], [137], [113], [112, 254, 111, 109, 111], [], [111, 255], [256, 111, 257, 183, 111, 255], [], [258, 258], [259, 260], [261, 261, 261, 262], [], [], [], [], [], [], [], [80, 80, 82, 80, 120], [80, 80, 120], [263, 264, 265, 266], [149], [267, 268, 269, 270, 267, 271], [], [163, 91, 91, 272], [273, 274, 273, 273, 91, 275], [218, 277, 91, 278], [128, 273, 280], [285], [286, 163, 288], [273, 290], [277, 292, 294, 295], [297], [298], [299, 301, 300], [303, 304, 305, 307, 306], [294, 312, 306], [163, 317, 306], [323, 324], [328, 329, 330, 331, 330, 332, 333, 128, 334, 335], [163, 337, 300, 338, 339], [163, 163, 340, 300, 163, 163, 341, 300, 342, 343, 163, 163, 344, 345], [163, 163, 346], [294, 348, 300], [163, 163, 163, 350], [163, 163, 351, 352, 344, 353], [354], [], [], [355], [51], [], [153], [], [356], [], []]
theorem lead_180 : (List.range' 180 60).map (fun g => (Tryz.prog.funcs[g]?).elim [] Tryz.prog.leadsTo) = leadL180 := by kernel_rfl
def leadL240 : List (List Nat) := [[], [], [], [], [], [], [138, 139], [248, 249, 106, 249], [140, 143, 140], [137, 142, 181], [140, 357, 358, 106, 249, 140, 357, 140, 357, 140, 249], [106, 359, 184, 139, 106, 360, 106, 360, 106, 361, 143], [184, 139], [362, 252], [], [145, 111, 186], [], [], [], [147], [], [262], [363, 363, 363], [], [199, 364, 365], [], [366, 367], [84], [83, 122], [122, 122, 368, 270], [], [369], [170], [216, 163], [95, 95], [98, 170, 276], [], [303, 370, 305, 371], [279, 98, 96, 276], [372, 373], [281, 235, 282, 168, 283, 168, 284], [235], [374], [375, 118, 118, 118, 49], [376, 166], [], [287], [], [131, 289, 287], [], [291], [], [293], [], [277, 128, 377], [296], [], [], [], [39, 378, 163, 379]]
theorem lead_240 : (List.range' 240 60).map (fun g => (Tryz.prog.funcs[g]?).elim [] Tryz.prog.leadsTo) = leadL240 := by kernel_rfl
def leadL300 : List (List Nat) := [[380], [282, 302], [44], [382, 381], [383, 306], [], [386], [308, 310], [309], [], [311], [131, 387], [313, 315], [314], [316], [316], [], [318, 319, 321], [131, 234, 166], [320], [388], [322], [235, 132, 235, 168, 389, 166, 169], [277, 390, 163, 391], [325, 326, 327], [129, 392], [393], [291, 394], [163, 299, 395], [163, 277, 397, 398], [299, 163, 220, 163, 401], [44, 402], [58, 402], [128, 403], [405, 406, 407, 408, 410], [336], [], [170], [131, 95], [131, 95], [170, 170], [170, 170], [163, 299, 411, 300], [163, 163, 412, 413, 300], [415, 416, 415, 417, 415, 418, 419, 420, 419, 421], [], [235, 235, 347, 96], [129], [349], [], [170], [], [422], [], [], [], [], [137, 143], [], [423, 137, 424, 106, 425]]
theorem lead_300 : (List.range' 300 60).map (fun g => (Tryz.prog.funcs[g]?).elim [] Tryz.prog.leadsTo) = leadL300 := by kernel_rfl
def leadL360 : List (List Nat) := [[423, 143], [246, 106, 426], [428, 427, 106, 246], [], [], [], [], [429, 430], [267, 267, 431, 369], [], [291], [], [], [147, 432], [], [149, 433], [434], [281, 283, 347], [], [235, 39, 129], [274], [], [], [291, 384, 385], [], [], [], [234, 166, 168, 435, 166, 169], [400, 400], [435, 436], [], [], [], [], [293], [235, 44, 396, 311, 396, 311], [95], [437, 299, 439, 163, 440], [235, 293, 399, 400, 316, 396], [441], [165, 233], [235, 235, 166, 96, 396], [], [336, 235, 404, 166, 96], [442, 443, 444], [235, 396], [235, 95, 235, 445, 396], [235, 131, 446, 96, 131, 446, 96], [235, 409, 96], [], [235, 409, 96], [235, 302], [447, 448, 449, 450, 451, 452], [414], [356, 356, 235, 235, 453, 454], [455], [], [], [], [415, 456]]
theorem lead_360 : (List.range' 360 60).map (fun g => (Tryz.prog.funcs[g]?).elim [] Tryz.prog.leadsTo) = leadL360 := by kernel_rfl
def leadL420 : List (List Nat) := [[], [], [457], [184], [143, 106, 143], [458, 459, 458], [424, 140], [184, 139], [425, 427, 425, 427], [], [], [122], [460, 461, 462, 463, 464, 465, 466, 467, 468, 432, 432], [469], [470], [436], [283], [168, 438], [27, 129], [40], [235, 438], [203], [471], [472, 473, 473, 474], [131, 153, 475, 131, 476, 475, 478, 477, 235, 479, 477], [164], [], [], [], [], [], [], [], [480, 480], [481, 481], [131, 131, 95], [131, 129], [], [482, 252], [184], [466], [483, 483], [259, 260], [484, 484, 484, 485], [], [466, 466, 466], [480, 480], [466, 466], [466, 466, 466, 466], [], [486], [], [], [487], [], [477, 489, 488, 490], [491], [489, 488], [356, 235, 131], []]
theorem lead_420 : (List.range' 420 60).map (fun g => (Tryz.prog.funcs[g]?).elim [] Tryz.prog.leadsTo) = leadL420 := by kernel_rfl
def leadL480 : List (List Nat) := [[], [], [492, 252], [466, 466], [485], [493, 493, 493], [], [], [123, 442, 442, 442, 442, 442, 375, 118, 494, 494, 494, 49, 118, 49], [], [495], [263, 264, 265, 266], [184, 139, 492, 496], [466], [], [471], [139, 497, 139, 139, 498, 139, 499, 139, 499, 106, 496, 140, 500], [501, 502], [139, 106, 426], [140, 106, 426], [143, 140], [503], [504, 505, 506, 507], [508, 508, 508, 508, 508, 508, 509], [486], [486], [486, 399, 510], [486, 399, 510], [], [508, 508, 508, 508, 508, 508], [], [], [], [], [], [], [], [], [], [], [], [], [], [], [], [], [], [], [], [], [], [], [], [], [], [], [], [], [], []]
theorem lead_480 : (List.range' 480 60).map (fun g => (Tryz.prog.funcs[g]?).elim [] Tryz.prog.leadsTo) = leadL480 := by kernel_rfl
def leadL540 : List (List Nat) := [[], [], [], [], [], [], [], [], [], [], [], [], [], [], [], [], [], [], [], [], [], [], [], [], [], [], [], [], [], [], [], [], [], [], [], [], [], [], [], [], [], [], [], [], [], [], [510, 510, 510, 510, 510, 510, 510, 510, 510, 510]]
theorem lead_540 : (List.range' 540 47).map (fun g => (Tryz.prog.funcs[g]?).elim [] Tryz.prog.leadsTo) = leadL540 := by kernel_rfl
def leadT (g : Nat) : List Nat := if g < 60 then (leadL0[g - 0]?).getD [] else if g < 120 then (leadL60[g - 60]?).getD [] else if g < 180 then (leadL120[g - 120]?).getD [] else if g < 240 then (leadL180[g - 180]?).getD [] else if g < 300 then (leadL240[g - 240]?).getD [] else if g < 360 then (leadL300[g - 300]?).getD [] else if g < 420 then (leadL360[g - 360]?).getD [] else if g < 480 then (leadL420[g - 420]?).getD [] else if g < 540 then (leadL480[g - 480]?).getD [] else if g < 587 then (leadL540[g - 540]?).getD [] else []
theorem lead_eq (g : Nat) : ((Tryz.prog.funcs[g]?).elim [] Tryz.prog.leadsTo) = leadT g := by
  unfold leadT
  by_cases h0 : g < 60
  · rw [if_pos h0]; exact tab_get (fun g => (Tryz.prog.funcs[g]?).elim [] Tryz.prog.leadsTo) 0 60 _ lead_0 [] g (by omega) (by omega)
  rw [if_neg h0]
  by_cases h60 : g < 120
  · rw [if_pos h60]; exact tab_get (fun g => (Tryz.prog.funcs[g]?).elim [] Tryz.prog.leadsTo) 60 60 _ lead_60 [] g (by omega) (by omega)
  rw [if_neg h60]
  by_cases h120 : g < 180
  · rw [if_pos h120]; exact tab_get (fun g => (Tryz.prog.funcs[g]?).elim [] Tryz.prog.leadsTo) 120 60 _ lead_120 [] g (by omega) (by omega)
  rw [if_neg h120]
  by_cases h180 : g < 240
  · rw [if_pos h180]; exact tab_get (fun g => (Tryz.prog.funcs[g]?).elim [] Tryz.prog.leadsTo) 180 60 _ lead_180 [] g (by omega) (by omega)
  rw [if_neg h180]
  by_cases h240 : g < 300
  · rw [if_pos h240]; exact tab_get (fun g => (Tryz.prog.funcs[g]?).elim [] Tryz.prog.leadsTo) 240 60 _ lead_240 [] g (by omega) (by omega)
  rw [if_neg h240]
  by_cases h300 : g < 360
  · rw [if_pos h300]; exact tab_get (fun g => (Tryz.prog.funcs[g]?).elim [] Tryz.prog.leadsTo) 300 60 _ lead_300 [] g (by omega) (by omega)
  rw [if_neg h300]
  by_cases h360 : g < 420
  · rw [if_pos h360]; exact tab_get (fun g => (Tryz.prog.funcs[g]?).elim [] Tryz.prog.leadsTo) 360 60 _ lead_360 [] g (by omega) (by omega)
  rw [if_neg h360]
  by_cases h420 : g < 480
  · rw [if_pos h420]; exact tab_get (fun g => (Tryz.prog.funcs[g]?).elim [] Tryz.prog.leadsTo) 420 60 _ lead_420 [] g (by omega) (by omega)
  rw [if_neg h420]
  by_cases h480 : g < 540
  · rw [if_pos h480]; exact tab_get (fun g => (Tryz.prog.funcs[g]?).elim [] Tryz.prog.leadsTo) 480 60 _ lead_480 [] g (by omega) (by omega)
  rw [if_neg h480]
  by_cases h540 : g < 587
  · rw [if_pos h540]; exact tab_get (fun g => (Tryz.prog.funcs[g]?).elim [] Tryz.prog.leadsTo) 540 47 _ lead_540 [] g (by omega) (by omega)
  rw [if_neg h540]
  rw [no_func g (by omega)]; rfl
def plcL0 : List (Bool) := [true, true, false, false, false, false, false, false, false, false, false, false, false, false, false, false, false, false, false, false, false, false, false, false, false, false, false, false, false, false, false, false, false, false, false, false, false, false, false, false, false, false, false, false, false, false, false, false, false, false, false, false, false, false, false, false, false, false, false, false]
theorem plc_0 : (List.range' 0 60).map (fun g => (Tryz.prog.funcs[g]?).elim false fun fn => fn.ours || fn.body.isNone || fn.name == "runtime.NumGoroutine") = plcL0 := by kernel_rfl
def plcL60 : List (Bool) := [false, false, false, false, false, false, false, false, false, false, false, false, false, false, false, false, false, false, false, false, false, false, false, false, false, false, false, false, false, false, false, false, false, false, false, false, false, false, false, false, false, false, false, true, false, false, false, false, false, false, false, false, false, false, false, false, false, false, false, false]
theorem plc_60 : (List.range' 60 60).map (fun g => (Tryz.prog.funcs[g]?).elim false fun fn => fn.ours || fn.body.isNone || fn.name == "runtime.NumGoroutine") = plcL60 := by kernel_rfl
def plcL120 : List (Bool) := [false, false, false, false, false, false, false, false, false, false, false, false, false, false, false, false, false, false, false, false, false, false, false, false, false, false, false, false, false, false, false, false, false, false, false, false, false, false, false, false, false, false, false, false, false, false, false, false, false, false, false, false, false, false, false, false, false, false, false, false]
theorem plc_120 : (List.range' 120 60).map (fun g => (Tryz.prog.funcs[g]?).elim false fun fn => fn.ours || fn.body.isNone || fn.name == "runtime.NumGoroutine") = plcL120 := by kernel_rfl
def plcL180 : List (Bool) := [false, false, false, false, false, false, false, false, false, false, false, false, false, false, false, false, false, false, false, false, true, false, false, false, false, false, false, false, false, false, false, false, false, false, false, false, false, false, false, false, false, false, false, false, false, false, false, false, false, false, true, false, false, false, false, false, false, false, false, false]
theorem plc_180 : (List.range' 180 60).map (fun g => (Tryz.prog.funcs[g]?).elim false fun fn => fn.ours || fn.body.isNone || fn.name == "runtime.NumGoroutine") = plcL180 := by kernel_rfl
def plcL240 : List (Bool) := [false, false, false, false, false, false, false, false, false, false, false, false, false, false, false, false, false, false, false, false, false, false, false, false, false, false, false, false, false, false, false, false, false, false, false, false, false, false, false, false, false, false, false, false, false, false, false, false, false, false, false, false, false, false, false, false, false, false, false, false]
theorem plc_240 : (List.range' 240 60).map (fun g => (Tryz.prog.funcs[g]?).elim false fun fn => fn.ours || fn.body.isNone || fn.name == "runtime.NumGoroutine") = plcL240 := by kernel_rfl
def plcL300 : List (Bool) := [false, false, false, false, false, false, false, false, false, false, false, false, false, false, false, false, false, false, false, false, false, false, false, false, false, false, false, false, false, false, false, false, false, false, false, false, false, false, false, false, false, false, false, false, false, false, false, false, false, false, false, false, false, false, true, false, false, false, false, false]
theorem plc_300 : (List.range' 300 60).map (fun g => (Tryz.prog.funcs[g]?).elim false fun fn => fn.ours || fn.body.isNone || fn.name == "runtime.NumGoroutine") = plcL300 := by kernel_rfl
def plcL360 : List (Bool) := [false, false, false, false, false, false, false, false, false, false, false, false, false, false, false, false, false, false, false, false, false, false, false, false, false, false, false, false, false, false, false, false, false, false, false, false, false, false, false, false, false, false, false, false, false, false, false, false, false, false, false, false, false, false, false, false, false, false, false, false]
theorem plc_360 : (List.range' 360 60).map (fun g => (Tryz.prog.funcs[g]?).elim false fun fn => fn.ours || fn.body.isNone || fn.name == "runtime.NumGoroutine") = plcL360 := by kernel_rfl
def plcL420 : List (Bool) := [false, false, false, false, false, false, false, false, false, false, false, false, false, false, false, false, false, false, false, false, false, false, false, false, false, false, false, false, false, false, false, false, false, false, false, false, false, false, false, false, false, false, false, false, false, false, false, false, false, true, false, false, false, false, false, false, false, false, false, false]
theorem plc_420 : (List.range' 420 60).map (fun g => (Tryz.prog.funcs[g]?).elim false fun fn => fn.ours || fn.body.isNone || fn.name == "runtime.NumGoroutine") = plcL420 := by kernel_rfl
def plcL480 : List (Bool) := [false, false, false, false, false, false, false, false, false, false, false, false, false, false, false, false, false, false, false, false, false, false, false, false, false, false, false, false, false, false, false, true, true, true, true, true, true, true, true, true, true, true, true, true, true, true, true, true, true, true, true, true, true, true, true, true, true, true, true, true]
theorem plc_480 : (List.range' 480 60).map (fun g => (Tryz.prog.funcs[g]?).elim false fun fn => fn.ours || fn.body.isNone || fn.name == "runtime.NumGoroutine") = plcL480 := by kernel_rfl
def plcL540 : List (Bool) := [true, true, true, true, true, true, true, true, true, true, true, true, true, true, true, true, true, true, true, true, true, true, true, true, true, true, true, false, true, true, true, true, true, true, true, true, true, true, true, true, true, true, true, true, true, true, false]
theorem plc_540 : (List.range' 540 47).map (fun g => (Tryz.prog.funcs[g]?).elim false fun fn => fn.ours || fn.body.isNone || fn.name == "runtime.NumGoroutine") = plcL540 := by kernel_rfl
def plcT (g : Nat) : Bool := if g < 60 then (plcL0[g - 0]?).getD false else if g < 120 then (plcL60[g - 60]?).getD false else if g < 180 then (plcL120[g - 120]?).getD false else if g < 240 then (plcL180[g - 180]?).getD false else if g < 300 then (plcL240[g - 240]?).getD false else if g < 360 then (plcL300[g - 300]?).getD false else if g < 420 then (plcL360[g - 360]?).getD false else if g < 480 then (plcL420[g - 420]?).getD false else if g < 540 then (plcL480[g - 480]?).getD false else if g < 587 then (plcL540[g - 540]?).getD false else false
theorem plc_eq (g : Nat) : ((Tryz.prog.funcs[g]?).elim false fun fn => fn.ours || fn.body.isNone || fn.name == "runtime.NumGoroutine") = plcT g := by
  unfold plcT
  by_cases h0 : g < 60
  · rw [if_pos h0]; exact tab_get (fun g => (Tryz.prog.funcs[g]?).elim false fun fn => fn.ours || fn.body.isNone || fn.name == "runtime.NumGoroutine") 0 60 _ plc_0 false g (by omega) (by omega)
  rw [if_neg h0]
  by_cases h60 : g < 120
  · rw [if_pos h60]; exact tab_get (fun g => (Tryz.prog.funcs[g]?).elim false fun fn => fn.ours || fn.body.isNone || fn.name == "runtime.NumGoroutine") 60 60 _ plc_60 false g (by omega) (by omega)
  rw [if_neg h60]
  by_cases h120 : g < 180
  · rw [if_pos h120]; exact tab_get (fun g => (Tryz.prog.funcs[g]?).elim false fun fn => fn.ours || fn.body.isNone || fn.name == "runtime.NumGoroutine") 120 60 _ plc_120 false g (by omega) (by omega)
  rw [if_neg h120]
  by_cases h180 : g < 240
  · rw [if_pos h180]; exact tab_get (fun g => (Tryz.prog.funcs[g]?).elim false fun fn => fn.ours || fn.body.isNone || fn.name == "runtime.NumGoroutine") 180 60 _ plc_180 false g (by omega) (by omega)
  rw [if_neg h180]
  by_cases h240 : g < 300
  · rw [if_pos h240]; exact tab_get (fun g => (Tryz.prog.funcs[g]?).elim false fun fn => fn.ours || fn.body.isNone || fn.name == "runtime.NumGoroutine") 240 60 _ plc_240 false g (by omega) (by omega)
  rw [if_neg h240]
  by_cases h300 : g < 360
  · rw [if_pos h300]; exact tab_get (fun g => (Tryz.prog.funcs[g]?).elim false fun fn => fn.ours || fn.body.isNone || fn.name == "runtime.NumGoroutine") 300 60 _ plc_300 false g (by omega) (by omega)
  rw [if_neg h300]
  by_cases h360 : g < 420
  · rw [if_pos h360]; exact tab_get (fun g => (Tryz.prog.funcs[g]?).elim false fun fn => fn.ours || fn.body.isNone || fn.name == "runtime.NumGoroutine") 360 60 _ plc_360 false g (by omega) (by omega)
  rw [if_neg h360]
  by_cases h420 : g < 480
  · rw [if_pos h420]; exact tab_get (fun g => (Tryz.prog.funcs[g]?).elim false fun fn => fn.ours || fn.body.isNone || fn.name == "runtime.NumGoroutine") 420 60 _ plc_420 false g (by omega) (by omega)
  rw [if_neg h420]
  by_cases h480 : g < 540
  · rw [if_pos h480]; exact tab_get (fun g => (Tryz.prog.funcs[g]?).elim false fun fn => fn.ours || fn.body.isNone || fn.name == "runtime.NumGoroutine") 480 60 _ plc_480 false g (by omega) (by omega)
  rw [if_neg h480]
  by_cases h540 : g < 587
  · rw [if_pos h540]; exact tab_get (fun g => (Tryz.prog.funcs[g]?).elim false fun fn => fn.ours || fn.body.isNone || fn.name == "runtime.NumGoroutine") 540 47 _ plc_540 false g (by omega) (by omega)
  rw [if_neg h540]
  rw [no_func g (by omega)]; rfl
def gloL0 : List (List Nat) := [[], [], [], [], [], [], [], [], [], [], [], [], [], [], [], [], [], [], [], [], [], [], [], [], [], [], [], [], [], [], [], [], [], [], [], [], [], [], [], [], [], [], [], [0, 1, 2, 3, 4, 5, 6, 7], [], [], [], [], [], [], [], [], [], [], [], [], [], [], [], []]
theorem glo_0 : (List.range' 0 60).map (fun g => ((Tryz.prog.funcs[g]?).bind (·.body)).elim [] Code.globalsNamed) = gloL0 := by kernel_rfl
def gloL60 : List (List Nat) := [[], [], [], [], [], [], [], [], [], [], [], [], [], [], [], [], [], [], [], [], [], [], [], [], [], [], [], [], [], [], [], [], [], [], [], [], [], [], [0], [], [], [], [], [], [], [], [], [], [], [], [], [], [], [], [], [], [], [], [], []]
theorem glo_60 : (List.range' 60 60).map (fun g => ((Tryz.prog.funcs[g]?).bind (·.body)).elim [] Code.globalsNamed) = gloL60 := by kernel_rfl
def gloL120 : List (List Nat) := [[], [], [], [], [], [], [], [], [], [], [], [], [], [], [], [], [], [], [], [], [], [], [], [], [], [], [], [], [], [], [], [], [], [], [], [], [], [], [], [], [], [], [], [], [8, 8, 8], [], [], [3], [], [], [], [], [], [], [], [], [], [], [], []]
theorem glo_120 : (List.range' 120 60).map (fun g => ((Tryz.prog.funcs[g]?).bind (·.body)).elim [] Code.globalsNamed) = gloL120 := by kernel_rfl
def gloL180 : List (List Nat) := [[], [], [], [], [], [], [], [], [], [], [], [], [], [], [], [], [], [], [], [], [], [], [], [], [], [], [], [], [], [], [], [], [], [], [], [], [], [], [], [], [], [], [], [], [], [], [], [], [], [], [], [], [], [], [2], [], [], [], [], []]
theorem glo_180 : (List.range' 180 60).map (fun g => ((Tryz.prog.funcs[g]?).bind (·.body)).elim [] Code.globalsNamed) = gloL180 := by kernel_rfl
def gloL240 : List (List Nat) := [[], [], [], [], [], [], [], [], [], [], [], [], [], [], [], [], [], [], [], [], [], [], [], [], [9], [], [], [], [], [], [], [], [], [], [], [], [], [], [], [], [], [], [], [], [], [], [], [], [], [], [], [], [], [], [], [], [], [], [], []]
theorem glo_240 : (List.range' 240 60).map (fun g => ((Tryz.prog.funcs[g]?).bind (·.body)).elim [] Code.globalsNamed) = gloL240 := by kernel_rfl
def gloL300 : List (List Nat) := [[], [], [], [], [], [], [], [], [], [], [], [], [], [], [], [], [], [], [], [], [], [], [], [], [], [5], [], [], [], [], [], [4], [4], [], [], [], [], [], [], [], [], [], [], [], [], [], [], [4], [], [], [], [], [], [], [], [], [], [], [], []]
theorem glo_300 : (List.range' 300 60).map (fun g => ((Tryz.prog.funcs[g]?).bind (·.body)).elim [] Code.globalsNamed) = gloL300 := by kernel_rfl
def gloL360 : List (List Nat) := [[], [], [], [], [], [], [], [], [], [], [], [], [], [], [], [], [7], [], [], [3], [], [], [], [], [], [], [], [], [], [], [], [], [], [], [], [], [], [], [], [], [], [], [], [], [6, 4], [], [], [], [], [], [], [], [], [], [], [], [], [], [], []]
theorem glo_360 : (List.range' 360 60).map (fun g => ((Tryz.prog.funcs[g]?).bind (·.body)).elim [] Code.globalsNamed) = gloL360 := by kernel_rfl
def gloL420 : List (List Nat) := [[], [], [], [], [], [], [], [], [], [10], [11], [], [], [], [], [], [4], [], [3], [], [], [], [], [], [], [], [], [], [], [], [], [], [], [], [], [], [1], [], [], [], [], [], [], [], [], [], [], [], [], [], [], [], [], [], [], [], [], [], [], []]
theorem glo_420 : (List.range' 420 60).map (fun g => ((Tryz.prog.funcs[g]?).bind (·.body)).elim [] Code.globalsNamed) = gloL420 := by kernel_rfl
def gloL480 : List (List Nat) := [[], [], [], [], [], [], [], [], [], [], [], [], [], [], [], [], [], [], [], [], [], [], [], [], [12], [13], [], [], [], [], [], [], [], [], [], [], [], [], [], [], [], [], [], [], [], [], [], [], [], [], [], [], [], [], [], [], [], [], [], []]
theorem glo_480 : (List.range' 480 60).map (fun g => ((Tryz.prog.funcs[g]?).bind (·.body)).elim [] Code.globalsNamed) = gloL480 := by kernel_rfl
def gloL540 : List (List Nat) := [[], [], [], [], [], [], [], [], [], [], [], [], [], [], [], [], [], [], [], [], [], [], [], [], [], [], [], [], [], [], [], [], [], [], [], [], [], [], [], [], [], [], [], [], [], [], [10, 11, 9, 0, 1, 2, 3, 4, 5, 6, 7, 13, 12]]
theorem glo_540 : (List.range' 540 47).map (fun g => ((Tryz.prog.funcs[g]?).bind (·.body)).elim [] Code.globalsNamed) = gloL540 := by kernel_rfl
def gloT (g : Nat) : List Nat := if g < 60 then (gloL0[g - 0]?).getD [] else if g < 120 then (gloL60[g - 60]?).getD [] else if g < 180 then (gloL120[g - 120]?).getD [] else if g < 240 then (gloL180[g - 180]?).getD [] else if g < 300 then (gloL240[g - 240]?).getD [] else if g < 360 then (gloL300[g - 300]?).getD [] else if g < 420 then (gloL360[g - 360]?).getD [] else if g < 480 then (gloL420[g - 420]?).getD [] else if g < 540 then (gloL480[g - 480]?).getD [] else if g < 587 then (gloL540[g - 540]?).getD [] else []
theorem glo_eq (g : Nat) : (((Tryz.prog.funcs[g]?).bind (·.body)).elim [] Code.globalsNamed) = gloT g := by
  unfold gloT
  by_cases h0 : g < 60
  · rw [if_pos h0]; exact tab_get (fun g => ((Tryz.prog.funcs[g]?).bind (·.body)).elim [] Code.globalsNamed) 0 60 _ glo_0 [] g (by omega) (by omega)
  rw [if_neg h0]
  by_cases h60 : g < 120
  · rw [if_pos h60]; exact tab_get (fun g => ((Tryz.prog.funcs[g]?).bind (·.body)).elim [] Code.globalsNamed) 60 60 _ glo_60 [] g (by omega) (by omega)
  rw [if_neg h60]
  by_cases h120 : g < 180
  · rw [if_pos h120]; exact tab_get (fun g => ((Tryz.prog.funcs[g]?).bind (·.body)).elim [] Code.globalsNamed) 120 60 _ glo_120 [] g (by omega) (by omega)
  rw [if_neg h120]
  by_cases h180 : g < 240
  · rw [if_pos h180]; exact tab_get (fun g => ((Tryz.prog.funcs[g]?).bind (·.body)).elim [] Code.globalsNamed) 180 60 _ glo_180 [] g (by omega) (by omega)
  rw [if_neg h180]
  by_cases h240 : g < 300
  · rw [if_pos h240]; exact tab_get (fun g => ((Tryz.prog.funcs[g]?).bind (·.body)).elim [] Code.globalsNamed) 240 60 _ glo_240 [] g (by omega) (by omega)
  rw [if_neg h240]
  by_cases h300 : g < 360
  · rw [if_pos h300]; exact tab_get (fun g => ((Tryz.prog.funcs[g]?).bind (·.body)).elim [] Code.globalsNamed) 300 60 _ glo_300 [] g (by omega) (by omega)
  rw [if_neg h300]
  by_cases h360 : g < 420
  · rw [if_pos h360]; exact tab_get (fun g => ((Tryz.prog.funcs[g]?).bind (·.body)).elim [] Code.globalsNamed) 360 60 _ glo_360 [] g (by omega) (by omega)
  rw [if_neg h360]
  by_cases h420 : g < 480
  · rw [if_pos h420]; exact tab_get (fun g => ((Tryz.prog.funcs[g]?).bind (·.body)).elim [] Code.globalsNamed) 420 60 _ glo_420 [] g (by omega) (by omega)
  rw [if_neg h420]
  by_cases h480 : g < 540
  · rw [if_pos h480]; exact tab_get (fun g => ((Tryz.prog.funcs[g]?).bind (·.body)).elim [] Code.globalsNamed) 480 60 _ glo_480 [] g (by omega) (by omega)
  rw [if_neg h480]
  by_cases h540 : g < 587
  · rw [if_pos h540]; exact tab_get (fun g => ((Tryz.prog.funcs[g]?).bind (·.body)).elim [] Code.globalsNamed) 540 47 _ glo_540 [] g (by omega) (by omega)
  rw [if_neg h540]
  rw [no_func g (by omega)]; rfl
def entL0 : List (Option String) := [.none, .none, .none, .none, .none, .none, .none, .none, .none, .none, .none, .none, .none, .none, .none, .none, .none, .none, .none, .none, .none, .none, .none, .none, .none, .none, .none, .none, .none, .none, .none, .none, .none, .none, .none, .none, .none, .none, .none, .none, .none, .none, .none, .none, .none, .none, .none, .none, .none, .none, .none, .none, .none, .none, .none, .none, .none, .none, .none, .none]
theorem ent_0 : (List.range' 0 60).map (fun g => (Tryz.prog.funcs[g]?).bind fun fn => if fn.body.isNone then entryReads.lookup fn.name else .none) = entL0 := by kernel_rfl
def entL60 : List (Option String) := [.none, .none, .none, .none, .none, .none, .none, .none, .none, .none, .none, .none, .none, .none, .none, .none, .none, .none, .none, .none, .none, .none, .none, .none, .none, .none, .none, .none, .none, .none, .none, .none, .none, .none, .none, .none, .none, .none, .none, .none, .none, .none, .none, .none, .none, .none, .none, .none, .none, .none, .none, .none, .none, .none, .none, .none, .none, .none, .none, .none]
theorem ent_60 : (List.range' 60 60).map (fun g => (Tryz.prog.funcs[g]?).bind fun fn => if fn.body.isNone then entryReads.lookup fn.name else .none) = entL60 := by kernel_rfl
def entL120 : List (Option String) := [.none, .none, .none, .none, .none, .none, .none, .none, .none, .none, .none, .none, .none, .none, .none, .none, .none, .none, .none, .none, .none, .none, .none, .none, .none, .none, .none, .none, .none, .none, .none, .none, .none, .none, .none, .none, .none, .none, .none, .none, .none, .none, .none, .none, .none, .none, .none, .none, .none, .none, .none, .none, .none, .none, .none, .none, .none, .none, .none, .none]
theorem ent_120 : (List.range' 120 60).map (fun g => (Tryz.prog.funcs[g]?).bind fun fn => if fn.body.isNone then entryReads.lookup fn.name else .none) = entL120 := by kernel_rfl
def entL180 : List (Option String) := [.none, .none, .none, .none, .none, .none, .none, .none, .none, .none, .none, .none, .none, .none, .none, .none, .none, .none, .none, .none, .none, .none, .none, .none, .none, .none, .none, .none, .none, .none, .none, .none, .none, .none, .none, .none, .none, .none, .none, .none, .none, .none, .none, .none, .none, .none, .none, .none, .none, .none, some "internal/bytealg.MaxLen", .none, .none, .none, .none, .none, .none, .none, .none, .none]
theorem ent_180 : (List.range' 180 60).map (fun g => (Tryz.prog.funcs[g]?).bind fun fn => if fn.body.isNone then entryReads.lookup fn.name else .none) = entL180 := by kernel_rfl
def entL240 : List (Option String) := [.none, .none, .none, .none, .none, .none, .none, .none, .none, .none, .none, .none, .none, .none, .none, .none, .none, .none, .none, .none, .none, .none, .none, .none, .none, .none, .none, .none, .none, .none, .none, .none, .none, .none, .none, .none, .none, .none, .none, .none, .none, .none, .none, .none, .none, .none, .none, .none, .none, .none, .none, .none, .none, .none, .none, .none, .none, .none, .none, .none]
theorem ent_240 : (List.range' 240 60).map (fun g => (Tryz.prog.funcs[g]?).bind fun fn => if fn.body.isNone then entryReads.lookup fn.name else .none) = entL240 := by kernel_rfl
def entL300 : List (Option String) := [.none, .none, .none, .none, .none, .none, .none, .none, .none, .none, .none, .none, .none, .none, .none, .none, .none, .none, .none, .none, .none, .none, .none, .none, .none, .none, .none, .none, .none, .none, .none, .none, .none, .none, .none, .none, .none, .none, .none, .none, .none, .none, .none, .none, .none, .none, .none, .none, .none, .none, .none, .none, .none, .none, .none, .none, .none, .none, .none, .none]
theorem ent_300 : (List.range' 300 60).map (fun g => (Tryz.prog.funcs[g]?).bind fun fn => if fn.body.isNone then entryReads.lookup fn.name else .none) = entL300 := by kernel_rfl
def entL360 : List (Option String) := [.none, .none, .none, .none, .none, .none, .none, .none, .none, .none, .none, .none, .none, .none, .none, .none, .none, .none, .none, .none, .none, .none, .none, .none, .none, .none, .none, .none, .none, .none, .none, .none, .none, .none, .none, .none, .none, .none, .none, .none, .none, .none, .none, .none, .none, .none, .none, .none, .none, .none, .none, .none, .none, .none, .none, .none, .none, .none, .none, .none]
theorem ent_360 : (List.range' 360 60).map (fun g => (Tryz.prog.funcs[g]?).bind fun fn => if fn.body.isNone then entryReads.lookup fn.name else .none) = entL360 := by kernel_rfl
def entL420 : List (Option String) := [.none, .none, .none, .none, .none, .none, .none, .none, .none, .none, .none, .none, .none, .none, .none, .none, .none, .none, .none, .none, .none, .none, .none, .none, .none, .none, .none, .none, .none, .none, .none, .none, .none, .none, .none, .none, .none, .none, .none, .none, .none, .none, .none, .none, .none, .none, .none, .none, .none, .none, .none, .none, .none, .none, .none, .none, .none, .none, .none, .none]
theorem ent_420 : (List.range' 420 60).map (fun g => (Tryz.prog.funcs[g]?).bind fun fn => if fn.body.isNone then entryReads.lookup fn.name else .none) = entL420 := by kernel_rfl
def entL480 : List (Option String) := [.none, .none, .none, .none, .none, .none, .none, .none, .none, .none, .none, .none, .none, .none, .none, .none, .none, .none, .none, .none, .none, .none, .none, .none, .none, .none, .none, .none, .none, .none, .none, .none, .none, .none, .none, .none, .none, .none, .none, .none, .none, .none, .none, .none, .none, .none, .none, .none, .none, .none, .none, .none, .none, .none, .none, .none, .none, .none, .none, .none]
theorem ent_480 : (List.range' 480 60).map (fun g => (Tryz.prog.funcs[g]?).bind fun fn => if fn.body.isNone then entryReads.lookup fn.name else .none) = entL480 := by kernel_rfl
def entL540 : List (Option String) := [.none, .none, .none, .none, .none, .none, .none, .none, .none, .none, .none, .none, .none, .none, .none, .none, .none, .none, .none, .none, .none, .none, .none, .none, .none, .none, .none, .none, .none, .none, .none, .none, .none, .none, .none, .none, .none, .none, .none, .none, .none, .none, .none, .none, .none, .none, .none]
theorem ent_540 : (List.range' 540 47).map (fun g => (Tryz.prog.funcs[g]?).bind fun fn => if fn.body.isNone then entryReads.lookup fn.name else .none) = entL540 := by kernel_rfl
def entT (g : Nat) : Option String := if g < 60 then (entL0[g - 0]?).getD .none else if g < 120 then (entL60[g - 60]?).getD .none else if g < 180 then (entL120[g - 120]?).getD .none else if g < 240 then (entL180[g - 180]?).getD .none else if g < 300 then (entL240[g - 240]?).getD .none else if g < 360 then (entL300[g - 300]?).getD .none else if g < 420 then (entL360[g - 360]?).getD .none else if g < 480 then (entL420[g - 420]?).getD .none else if g < 540 then (entL480[g - 480]?).getD .none else if g < 587 then (entL540[g - 540]?).getD .none else .none
theorem ent_eq (g : Nat) : ((Tryz.prog.funcs[g]?).bind fun fn => if fn.body.isNone then entryReads.lookup fn.name else .none) = entT g := by
  unfold entT
  by_cases h0 : g < 60
  · rw [if_pos h0]; exact tab_get (fun g => (Tryz.prog.funcs[g]?).bind fun fn => if fn.body.isNone then entryReads.lookup fn.name else .none) 0 60 _ ent_0 .none g (by omega) (by omega)
  rw [if_neg h0]
  by_cases h60 : g < 120
  · rw [if_pos h60]; exact tab_get (fun g => (Tryz.prog.funcs[g]?).bind fun fn => if fn.body.isNone then entryReads.lookup fn.name else .none) 60 60 _ ent_60 .none g (by omega) (by omega)
  rw [if_neg h60]
  by_cases h120 : g < 180
  · rw [if_pos h120]; exact tab_get (fun g => (Tryz.prog.funcs[g]?).bind fun fn => if fn.body.isNone then entryReads.lookup fn.name else .none) 120 60 _ ent_120 .none g (by omega) (by omega)
  rw [if_neg h120]
  by_cases h180 : g < 240
  · rw [if_pos h180]; exact tab_get (fun g => (Tryz.prog.funcs[g]?).bind fun fn => if fn.body.isNone then entryReads.lookup fn.name else .none) 180 60 _ ent_180 .none g (by omega) (by omega)
  rw [if_neg h180]
  by_cases h240 : g < 300
  · rw [if_pos h240]; exact tab_get (fun g => (Tryz.prog.funcs[g]?).bind fun fn => if fn.body.isNone then entryReads.lookup fn.name else .none) 240 60 _ ent_240 .none g (by omega) (by omega)
  rw [if_neg h240]
  by_cases h300 : g < 360
  · rw [if_pos h300]; exact tab_get (fun g => (Tryz.prog.funcs[g]?).bind fun fn => if fn.body.isNone then entryReads.lookup fn.name else .none) 300 60 _ ent_300 .none g (by omega) (by omega)
  rw [if_neg h300]
  by_cases h360 : g < 420
  · rw [if_pos h360]; exact tab_get (fun g => (Tryz.prog.funcs[g]?).bind fun fn => if fn.body.isNone then entryReads.lookup fn.name else .none) 360 60 _ ent_360 .none g (by omega) (by omega)
  rw [if_neg h360]
  by_cases h420 : g < 480
  · rw [if_pos h420]; exact tab_get (fun g => (Tryz.prog.funcs[g]?).bind fun fn => if fn.body.isNone then entryReads.lookup fn.name else .none) 420 60 _ ent_420 .none g (by omega) (by omega)
  rw [if_neg h420]
  by_cases h480 : g < 540
  · rw [if_pos h480]; exact tab_get (fun g => (Tryz.prog.funcs[g]?).bind fun fn => if fn.body.isNone then entryReads.lookup fn.name else .none) 480 60 _ ent_480 .none g (by omega) (by omega)
  rw [if_neg h480]
  by_cases h540 : g < 587
  · rw [if_pos h540]; exact tab_get (fun g => (Tryz.prog.funcs[g]?).bind fun fn => if fn.body.isNone then entryReads.lookup fn.name else .none) 540 47 _ ent_540 .none g (by omega) (by omega)
  rw [if_neg h540]
  rw [no_func g (by omega)]; rfl
theorem plc_name (g : Nat) : ((Tryz.prog.funcs[g]?).bind fun fn => if fn.ours || fn.body.isNone || fn.name == "runtime.NumGoroutine" then some fn.name else .none) = if plcT g then (Tryz.prog.funcs[g]?).map (·.name) else .none := by
  rw [← plc_eq g]
  cases Tryz.prog.funcs[g]? with
  | none => rfl
  | some fn =>
    show (if fn.ours || fn.body.isNone || fn.name == "runtime.NumGoroutine" then some fn.name else .none) = if (fn.ours || fn.body.isNone || fn.name == "runtime.NumGoroutine") then some fn.name else .none
    rfl
end Go.Proofs.YtdbdbaepmdmnfaaGreatDoor
