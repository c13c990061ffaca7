import Derived.WalkKit
import Derived.Test.YthkknpjoifoanaaGreatDoorProg
import GoSem.Claim
import GoSem.ClaimFn
import Derived.KernelRfl
namespace Go.Proofs.YthkknpjoifoanaaGreatDoor
theorem tab_get {α : Type} (f : Nat → α) (a m : Nat) (L : List α) (h : (List.range' a m).map f = L) (d : α) (i : Nat) (h1 : a ≤ i) (h2 : i < a + m) : f i = (L[i - a]?).getD d := by
  rw [← h, List.getElem?_map, List.getElem?_range' (by omega)]
  simp
  congr 1
  omega
theorem nfuncs : Tryz.prog.funcs.size = 571 := by kernel_rfl
theorem no_func (g : Nat) (h : ¬ g < 571) : Tryz.prog.funcs[g]? = none := Array.getElem?_eq_none (by rw [nfuncs]; omega)
def leadL0 : List (List Nat) := [[], [], [1], [5, 6], [7, 6], [8, 9, 9, 10, 10, 10, 11, 8, 9], [8, 12, 13, 9, 9, 9], [14, 9, 10, 10, 15, 11], [16, 16, 17, 18], [], [], [], [19, 20], [19, 21, 22, 23], [16, 16, 24], [], [], [25, 27, 26], [28, 29, 30], [31, 32], [33, 34, 35], [36, 37, 39, 38, 42, 38, 43, 43, 44], [], [45, 45, 45, 45, 45, 45, 45, 45], [46, 47, 48, 17, 49], [50, 51], [27, 27, 27, 52, 53, 26, 27, 54], [], [55, 56], [], [], [57, 58, 59, 60], [61, 62, 63, 64, 65], [66, 66, 66, 66, 66, 67], [66, 66, 68, 66, 67], [], [69, 70, 71], [72, 73, 74, 74, 75, 75, 75, 74, 74], [76], [40, 41], [], [77, 78, 79, 80], [40], [81], [], [82, 83], [84, 85, 86, 86], [84, 87], [84, 87, 88], [84, 28, 87, 88], [89, 90], [], [26], [26, 26, 27], [27, 26], [91], [92, 93, 92], [], [], [94]]
theorem lead_0 : (List.range' 0 60).map (fun g => (Tryz.prog.funcs[g]?).elim [] Tryz.prog.leadsTo) = leadL0 := by kernel_rfl
def leadL60 : List (List Nat) := [[95, 96, 97], [98, 99, 100], [101, 98, 99, 100, 102], [103, 102], [104, 105, 99, 100], [], [107], [66, 108, 66], [66, 109], [], [110, 111], [70, 70, 112, 70], [], [], [], [], [], [113], [114], [115, 74, 116], [117], [], [], [83], [], [], [87], [], [87], [51, 90, 90, 118], [51], [119, 120], [], [], [121, 122, 123], [124, 59], [125, 126, 127, 128, 127, 129], [95, 129, 95, 129, 124, 129, 130, 95, 130, 95, 129], [], [], [], [], [131], [132], [134, 133], [106], [135, 135], [136], [67, 137, 66, 109, 66, 67, 138, 66, 67, 139, 66], [140, 66, 141, 66, 66, 66, 142, 66, 109, 66, 142, 66, 142, 66, 109, 66, 143, 143, 143, 144, 143], [70, 70, 145, 146], [], [147], [], [148], [149], [152, 151, 150, 153], [154, 154, 154], [155, 51, 156], []]
theorem lead_60 : (List.range' 60 60).map (fun g => (Tryz.prog.funcs[g]?).elim [] Tryz.prog.leadsTo) = leadL60 := by kernel_rfl
def leadL120 : List (List Nat) := [[], [157, 85, 158], [157, 159, 160, 161, 162, 163, 164, 165], [], [], [], [59], [95, 125], [124, 166, 95, 166], [127, 95, 167], [168, 95, 130, 127, 130, 169, 170, 126, 130], [102, 132, 102, 102, 132, 171, 103, 171, 172, 172, 171, 132, 103, 132, 173, 100, 132, 100, 132, 172, 103], [172, 172, 103, 132, 174, 175, 132, 132, 132, 132, 132, 132, 172, 103, 132, 132], [176, 177, 178, 179, 180, 181, 182, 183, 133, 133], [184, 185], [], [186], [66, 109, 66, 67, 66, 67], [66, 109, 66, 109, 66, 109, 66, 67], [109, 187, 66, 188, 188, 66, 142], [189], [66, 66, 66, 66, 190, 66], [66, 68, 66], [66, 109, 66, 109, 66], [66, 109, 66, 109, 66, 109, 66], [191, 192, 192, 193, 194, 195, 196, 197, 198, 147, 199, 70], [77], [74, 200, 75, 200, 201, 202, 203, 204, 205, 206, 207, 208, 209, 210, 211, 212, 200], [213, 214, 213, 215, 214, 216], [217], [113], [24, 218], [219], [220, 74], [221], [222, 223, 224, 225, 222, 226], [], [], [157], [], [159, 161, 227, 228], [], [161, 159, 229, 228, 230, 228, 228, 228], [227, 231, 227, 227], [232, 227, 17, 227], [233, 228, 234, 228, 227], [235, 95, 127], [124, 129, 95, 95, 236, 95, 237, 238, 95, 239, 240, 124, 127], [242, 241], [], [124], [102], [101, 243, 100, 98, 100], [], [100, 244], [245, 100, 246, 169, 100, 244], [], [247, 247], [248, 249], [250, 250, 250, 251]]
theorem lead_120 : (List.range' 120 60).map (fun g => (Tryz.prog.funcs[g]?).elim [] Tryz.prog.leadsTo) = leadL120 := by kernel_rfl
def leadL180 : List (List Nat) := [[], [], [], [], [], [], [], [66, 66, 68, 66, 109], [66, 66, 109], [252, 253, 254, 255], [136], [147, 70, 70, 256], [257, 258, 257, 257, 70, 259], [202, 261, 70, 262], [112, 257, 264], [269], [270, 147, 272], [257, 274], [261, 276, 278, 279], [281], [282], [283, 285, 284], [287, 288, 289, 291, 290], [278, 296, 290], [147, 301, 290], [307, 308], [312, 313, 314, 315, 314, 316, 317, 112, 318, 319], [147, 321, 284, 322, 323], [147, 147, 324, 284, 147, 147, 325, 284, 326, 327, 147, 147, 328, 329], [147, 147, 330], [278, 332, 284], [147, 147, 147, 334], [147, 147, 335, 336, 328, 337], [338], [], [], [339], [85], [], [140], [], [340], [51], [50, 90], [90, 90, 341, 225], [], [342], [], [], [], [], [], [], [], [], [125, 126], [237, 238, 95, 238], [127, 130, 127], [124, 129, 167], [127, 343, 344, 95, 238, 127, 343, 127, 343, 127, 238]]
theorem lead_180 : (List.range' 180 60).map (fun g => (Tryz.prog.funcs[g]?).elim [] Tryz.prog.leadsTo) = leadL180 := by kernel_rfl
def leadL240 : List (List Nat) := [[95, 345, 170, 126, 95, 346, 95, 346, 95, 347, 130], [170, 126], [348, 241], [], [132, 100, 172], [], [], [], [134], [], [251], [349, 349, 349], [], [185, 350, 351], [], [352, 353], [154], [200, 147], [74, 74], [77, 154, 260], [], [287, 354, 289, 355], [263, 77, 75, 260], [356, 357], [265, 219, 266, 152, 267, 152, 268], [219], [358], [359, 107, 107, 107, 35], [360, 150], [], [271], [], [115, 273, 271], [], [275], [], [277], [], [261, 112, 361], [280], [], [], [], [17, 362, 147, 363], [364], [266, 286], [18], [366, 365], [367, 290], [], [370], [292, 294], [293], [], [295], [115, 371], [297, 299], [298], [300], [300]]
theorem lead_240 : (List.range' 240 60).map (fun g => (Tryz.prog.funcs[g]?).elim [] Tryz.prog.leadsTo) = leadL240 := by kernel_rfl
def leadL300 : List (List Nat) := [[], [302, 303, 305], [115, 218, 150], [304], [372], [306], [219, 116, 219, 152, 373, 150, 153], [261, 374, 147, 375], [309, 310, 311], [113, 376], [377], [275, 378], [147, 283, 379], [147, 261, 381, 382], [283, 147, 204, 147, 385], [18, 386], [28, 386], [112, 387], [389, 390, 391, 392, 394], [320], [], [154], [115, 74], [115, 74], [154, 154], [154, 154], [147, 283, 395, 284], [147, 147, 396, 397, 284], [399, 400, 399, 401, 399, 402, 403, 404, 403, 405], [], [219, 219, 331, 75], [113], [333], [], [154], [], [406], [], [], [], [], [222, 222, 407, 342], [], [124, 130], [], [408, 124, 409, 95, 410], [408, 130], [235, 95, 411], [413, 412, 95, 235], [], [], [], [], [414, 415], [275], [], [], [134, 416], [], [136, 417]]
theorem lead_300 : (List.range' 300 60).map (fun g => (Tryz.prog.funcs[g]?).elim [] Tryz.prog.leadsTo) = leadL300 := by kernel_rfl
def leadL360 : List (List Nat) := [[418], [265, 267, 331], [], [219, 17, 113], [258], [], [], [275, 368, 369], [], [], [], [218, 150, 152, 419, 150, 153], [384, 384], [419, 420], [], [], [], [], [277], [219, 18, 380, 295, 380, 295], [74], [421, 283, 423, 147, 424], [219, 277, 383, 384, 300, 380], [425], [149, 217], [219, 219, 150, 75, 380], [], [320, 219, 388, 150, 75], [426, 427, 428], [219, 380], [219, 74, 219, 429, 380], [219, 115, 430, 75, 115, 430, 75], [219, 393, 75], [], [219, 393, 75], [219, 286], [431, 432, 433, 434, 435, 436], [398], [340, 340, 219, 219, 437, 438], [439], [], [], [], [399, 440], [], [], [441], [90], [170], [130, 95, 130], [442, 443, 442], [409, 127], [170, 126], [410, 412, 410, 412], [], [], [444, 445, 446, 447, 448, 449, 450, 451, 452, 416, 416], [453], [454], [420]]
theorem lead_360 : (List.range' 360 60).map (fun g => (Tryz.prog.funcs[g]?).elim [] Tryz.prog.leadsTo) = leadL360 := by kernel_rfl
def leadL420 : List (List Nat) := [[267], [152, 422], [24, 113], [49], [219, 422], [189], [455], [456, 457, 457, 458], [115, 140, 459, 115, 460, 459, 462, 461, 219, 463, 461], [148], [], [], [], [], [], [], [], [464, 464], [465, 465], [115, 115, 74], [115, 113], [], [466, 241], [170], [450], [467, 467], [248, 249], [468, 468, 468, 469], [], [450, 450, 450], [464, 464], [450, 450], [450, 450, 450, 450], [], [470], [], [], [471], [], [461, 473, 472, 474], [475], [473, 472], [340, 219, 115], [], [], [], [476, 241], [450, 450], [469], [477, 477, 477], [], [], [91, 426, 426, 426, 426, 426, 359, 107, 478, 478, 478, 35, 107, 35], [], [479], [252, 253, 254, 255], [170, 126, 476, 480], [450], [], [455]]
theorem lead_420 : (List.range' 420 60).map (fun g => (Tryz.prog.funcs[g]?).elim [] Tryz.prog.leadsTo) = leadL420 := by kernel_rfl
def leadL480 : List (List Nat) := [[126, 481, 126, 126, 482, 126, 483, 126, 483, 95, 480, 127, 484], [485, 486], [126, 95, 411], [127, 95, 411], [130, 127], [487], [488, 489, 490, 491], [492, 492, 492, 492, 492, 492, 493], [470], [470], [470, 383, 494], [470, 383, 494], [], [492, 492, 492, 492, 492, 492], [], [], [], [], [], [], [], [], [], [], [], [], [], [], [], [], [], [], [], [], [], [], [], [], [], [], [], [], [], [], [], [], [], [], [], [], [], [], [], [], [], [], [], [], [], []]
theorem lead_480 : (List.range' 480 60).map (fun g => (Tryz.prog.funcs[g]?).elim [] Tryz.prog.leadsTo) = leadL480 := by kernel_rfl
def leadL540 : List (List Nat) := [[], [], [], [], [], [], [], [], [], [], [], [], [], [], [], [], [], [], [], [], [], [], [], [], [], [], [], [], [], [], [494, 494, 494, 494, 494, 494, 494, 494, 494, 494]]
theorem lead_540 : (List.range' 540 31).map (fun g => (Tryz.prog.funcs[g]?).elim [] Tryz.prog.leadsTo) = leadL540 := by kernel_rfl
def leadT (g : Nat) : List Nat := if g < 60 then (leadL0[g - 0]?).getD [] else if g < 120 then (leadL60[g - 60]?).getD [] else if g < 180 then (leadL120[g - 120]?).getD [] else if g < 240 then (leadL180[g - 180]?).getD [] else if g < 300 then (leadL240[g - 240]?).getD [] else if g < 360 then (leadL300[g - 300]?).getD [] else if g < 420 then (leadL360[g - 360]?).getD [] else if g < 480 then (leadL420[g - 420]?).getD [] else if g < 540 then (leadL480[g - 480]?).getD [] else if g < 571 then (leadL540[g - 540]?).getD [] else []
theorem lead_eq (g : Nat) : ((Tryz.prog.funcs[g]?).elim [] Tryz.prog.leadsTo) = leadT g := by
  unfold leadT
  by_cases h0 : g < 60
  · rw [if_pos h0]; exact tab_get (fun g => (Tryz.prog.funcs[g]?).elim [] Tryz.prog.leadsTo) 0 60 _ lead_0 [] g (by omega) (by omega)
  rw [if_neg h0]
  by_cases h60 : g < 120
  · rw [if_pos h60]; exact tab_get (fun g => (Tryz.prog.funcs[g]?).elim [] Tryz.prog.leadsTo) 60 60 _ lead_60 [] g (by omega) (by omega)
  rw [if_neg h60]
  by_cases h120 : g < 180
  · rw [if_pos h120]; exact tab_get (fun g => (Tryz.prog.funcs[g]?).elim [] Tryz.prog.leadsTo) 120 60 _ lead_120 [] g (by omega) (by omega)
  rw [if_neg h120]
  by_cases h180 : g < 240
  · rw [if_pos h180]; exact tab_get (fun g => (Tryz.prog.funcs[g]?).elim [] Tryz.prog.leadsTo) 180 60 _ lead_180 [] g (by omega) (by omega)
  rw [if_neg h180]
  by_cases h240 : g < 300
  · rw [if_pos h240]; exact tab_get (fun g => (Tryz.prog.funcs[g]?).elim [] Tryz.prog.leadsTo) 240 60 _ lead_240 [] g (by omega) (by omega)
  rw [if_neg h240]
  by_cases h300 : g < 360
  · rw [if_pos h300]; exact tab_get (fun g => (Tryz.prog.funcs[g]?).elim [] Tryz.prog.leadsTo) 300 60 _ lead_300 [] g (by omega) (by omega)
  rw [if_neg h300]
  by_cases h360 : g < 420
  · rw [if_pos h360]; exact tab_get (fun g => (Tryz.prog.funcs[g]?).elim [] Tryz.prog.leadsTo) 360 60 _ lead_360 [] g (by omega) (by omega)
  rw [if_neg h360]
  by_cases h420 : g < 480
  · rw [if_pos h420]; exact tab_get (fun g => (Tryz.prog.funcs[g]?).elim [] Tryz.prog.leadsTo) 420 60 _ lead_420 [] g (by omega) (by omega)
  rw [if_neg h420]
  by_cases h480 : g < 540
  · rw [if_pos h480]; exact tab_get (fun g => (Tryz.prog.funcs[g]?).elim [] Tryz.prog.leadsTo) 480 60 _ lead_480 [] g (by omega) (by omega)
  rw [if_neg h480]
  by_cases h540 : g < 571
  · rw [if_pos h540]; exact tab_get (fun g => (Tryz.prog.funcs[g]?).elim [] Tryz.prog.leadsTo) 540 31 _ lead_540 [] g (by omega) (by omega)
  rw [if_neg h540]
  rw [no_func g (by omega)]; rfl
def plcL0 : List (Bool) := [true, true, false, false, false, false, false, false, false, false, false, false, false, false, false, false, false, false, false, false, false, false, false, false, false, false, false, false, false, false, false, false, false, false, false, false, false, false, false, false, false, false, false, false, false, false, false, false, false, false, false, false, false, false, false, false, false, false, false, false]
theorem plc_0 : (List.range' 0 60).map (fun g => (Tryz.prog.funcs[g]?).elim false fun fn => fn.ours || fn.body.isNone || fn.name == "runtime.NumGoroutine") = plcL0 := by kernel_rfl
def plcL60 : List (Bool) := [false, false, false, false, false, false, false, false, false, false, false, false, false, false, false, false, false, false, false, false, false, false, true, false, false, false, false, false, false, false, false, false, false, false, false, false, false, false, false, false, false, false, false, false, false, false, false, false, false, false, false, false, false, false, false, false, false, false, false, false]
theorem plc_60 : (List.range' 60 60).map (fun g => (Tryz.prog.funcs[g]?).elim false fun fn => fn.ours || fn.body.isNone || fn.name == "runtime.NumGoroutine") = plcL60 := by kernel_rfl
def plcL120 : List (Bool) := [false, false, false, false, false, false, false, false, false, false, false, false, false, false, false, false, false, false, false, false, false, false, false, false, false, false, false, false, false, false, false, false, false, false, false, false, false, false, false, false, false, false, false, false, false, false, false, false, false, false, false, false, false, false, false, false, false, false, false, false]
theorem plc_120 : (List.range' 120 60).map (fun g => (Tryz.prog.funcs[g]?).elim false fun fn => fn.ours || fn.body.isNone || fn.name == "runtime.NumGoroutine") = plcL120 := by kernel_rfl
def plcL180 : List (Bool) := [false, false, false, false, false, false, true, false, false, false, false, false, false, false, false, false, false, false, false, false, false, false, false, false, false, false, false, false, false, false, false, false, false, false, true, false, false, false, false, false, false, false, false, false, false, false, false, false, false, false, false, false, false, false, false, false, false, false, false, false]
theorem plc_180 : (List.range' 180 60).map (fun g => (Tryz.prog.funcs[g]?).elim false fun fn => fn.ours || fn.body.isNone || fn.name == "runtime.NumGoroutine") = plcL180 := by kernel_rfl
def plcL240 : List (Bool) := [false, false, false, false, false, false, false, false, false, false, false, false, false, false, false, false, false, false, false, false, false, false, false, false, false, false, false, false, false, false, false, false, false, false, false, false, false, false, false, false, false, false, false, false, false, false, false, false, false, false, false, false, false, false, false, false, false, false, false, false]
theorem plc_240 : (List.range' 240 60).map (fun g => (Tryz.prog.funcs[g]?).elim false fun fn => fn.ours || fn.body.isNone || fn.name == "runtime.NumGoroutine") = plcL240 := by kernel_rfl
def plcL300 : List (Bool) := [false, false, false, false, false, false, false, false, false, false, false, false, false, false, false, false, false, false, false, false, false, false, false, false, false, false, false, false, false, false, false, false, false, false, false, false, false, false, true, false, false, false, false, false, false, false, false, false, false, false, false, false, false, false, false, false, false, false, false, false]
theorem plc_300 : (List.range' 300 60).map (fun g => (Tryz.prog.funcs[g]?).elim false fun fn => fn.ours || fn.body.isNone || fn.name == "runtime.NumGoroutine") = plcL300 := by kernel_rfl
def plcL360 : List (Bool) := [false, false, false, false, false, false, false, false, false, false, false, false, false, false, false, false, false, false, false, false, false, false, false, false, false, false, false, false, false, false, false, false, false, false, false, false, false, false, false, false, false, false, false, false, false, false, false, false, false, false, false, false, false, false, false, false, false, false, false, false]
theorem plc_360 : (List.range' 360 60).map (fun g => (Tryz.prog.funcs[g]?).elim false fun fn => fn.ours || fn.body.isNone || fn.name == "runtime.NumGoroutine") = plcL360 := by kernel_rfl
def plcL420 : List (Bool) := [false, false, false, false, false, false, false, false, false, false, false, false, false, false, false, false, false, false, false, false, false, false, false, false, false, false, false, false, false, false, false, false, false, true, false, false, false, false, false, false, false, false, false, false, false, false, false, false, false, false, false, false, false, false, false, false, false, false, false, false]
theorem plc_420 : (List.range' 420 60).map (fun g => (Tryz.prog.funcs[g]?).elim false fun fn => fn.ours || fn.body.isNone || fn.name == "runtime.NumGoroutine") = plcL420 := by kernel_rfl
def plcL480 : List (Bool) := [false, false, false, false, false, false, false, false, false, false, false, false, false, false, false, true, true, true, true, true, true, true, true, true, true, true, true, true, true, true, true, true, true, true, true, true, true, true, true, true, true, true, true, true, true, true, true, true, true, true, true, true, true, true, true, true, true, true, true, true]
theorem plc_480 : (List.range' 480 60).map (fun g => (Tryz.prog.funcs[g]?).elim false fun fn => fn.ours || fn.body.isNone || fn.name == "runtime.NumGoroutine") = plcL480 := by kernel_rfl
def plcL540 : List (Bool) := [true, true, true, true, true, true, true, true, true, true, true, false, true, true, true, true, true, true, true, true, true, true, true, true, true, true, true, true, true, true, false]
theorem plc_540 : (List.range' 540 31).map (fun g => (Tryz.prog.funcs[g]?).elim false fun fn => fn.ours || fn.body.isNone || fn.name == "runtime.NumGoroutine") = plcL540 := by kernel_rfl
def plcT (g : Nat) : Bool := if g < 60 then (plcL0[g - 0]?).getD false else if g < 120 then (plcL60[g - 60]?).getD false else if g < 180 then (plcL120[g - 120]?).getD false else if g < 240 then (plcL180[g - 180]?).getD false else if g < 300 then (plcL240[g - 240]?).getD false else if g < 360 then (plcL300[g - 300]?).getD false else if g < 420 then (plcL360[g - 360]?).getD false else if g < 480 then (plcL420[g - 420]?).getD false else if g < 540 then (plcL480[g - 480]?).getD false else if g < 571 then (plcL540[g - 540]?).getD false else false
theorem plc_eq (g : Nat) : ((Tryz.prog.funcs[g]?).elim false fun fn => fn.ours || fn.body.isNone || fn.name == "runtime.NumGoroutine") = plcT g := by
  unfold plcT
  by_cases h0 : g < 60
  · rw [if_pos h0]; exact tab_get (fun g => (Tryz.prog.funcs[g]?).elim false fun fn => fn.ours || fn.body.isNone || fn.name == "runtime.NumGoroutine") 0 60 _ plc_0 false g (by omega) (by omega)
  rw [if_neg h0]
  by_cases h60 : g < 120
  · rw [if_pos h60]; exact tab_get (fun g => (Tryz.prog.funcs[g]?).elim false fun fn => fn.ours || fn.body.isNone || fn.name == "runtime.NumGoroutine") 60 60 _ plc_60 false g (by omega) (by omega)
  rw [if_neg h60]
  by_cases h120 : g < 180
  · rw [if_pos h120]; exact tab_get (fun g => (Tryz.prog.funcs[g]?).elim false fun fn => fn.ours || fn.body.isNone || fn.name == "runtime.NumGoroutine") 120 60 _ plc_120 false g (by omega) (by omega)
  rw [if_neg h120]
  by_cases h180 : g < 240
  · rw [if_pos h180]; exact tab_get (fun g => (Tryz.prog.funcs[g]?).elim false fun fn => fn.ours || fn.body.isNone || fn.name == "runtime.NumGoroutine") 180 60 _ plc_180 false g (by omega) (by omega)
  rw [if_neg h180]
  by_cases h240 : g < 300
  · rw [if_pos h240]; exact tab_get (fun g => (Tryz.prog.funcs[g]?).elim false fun fn => fn.ours || fn.body.isNone || fn.name == "runtime.NumGoroutine") 240 60 _ plc_240 false g (by omega) (by omega)
  rw [if_neg h240]
  by_cases h300 : g < 360
  · rw [if_pos h300]; exact tab_get (fun g => (Tryz.prog.funcs[g]?).elim false fun fn => fn.ours || fn.body.isNone || fn.name == "runtime.NumGoroutine") 300 60 _ plc_300 false g (by omega) (by omega)
  rw [if_neg h300]
  by_cases h360 : g < 420
  · rw [if_pos h360]; exact tab_get (fun g => (Tryz.prog.funcs[g]?).elim false fun fn => fn.ours || fn.body.isNone || fn.name == "runtime.NumGoroutine") 360 60 _ plc_360 false g (by omega) (by omega)
  rw [if_neg h360]
  by_cases h420 : g < 480
  · rw [if_pos h420]; exact tab_get (fun g => (Tryz.prog.funcs[g]?).elim false fun fn => fn.ours || fn.body.isNone || fn.name == "runtime.NumGoroutine") 420 60 _ plc_420 false g (by omega) (by omega)
  rw [if_neg h420]
  by_cases h480 : g < 540
  · rw [if_pos h480]; exact tab_get (fun g => (Tryz.prog.funcs[g]?).elim false fun fn => fn.ours || fn.body.isNone || fn.name == "runtime.NumGoroutine") 480 60 _ plc_480 false g (by omega) (by omega)
  rw [if_neg h480]
  by_cases h540 : g < 571
  · rw [if_pos h540]; exact tab_get (fun g => (Tryz.prog.funcs[g]?).elim false fun fn => fn.ours || fn.body.isNone || fn.name == "runtime.NumGoroutine") 540 31 _ plc_540 false g (by omega) (by omega)
  rw [if_neg h540]
  rw [no_func g (by omega)]; rfl
def gloL0 : List (List Nat) := [[], [], [], [], [], [], [], [], [], [], [], [], [], [], [], [], [], [], [], [], [], [], [], [0, 1, 2, 3, 4, 5, 6, 7], [], [], [], [], [], [], [], [], [], [], [], [], [], [], [], [], [], [], [], [], [], [], [], [], [], [], [], [], [], [], [], [], [], [], [], []]
theorem glo_0 : (List.range' 0 60).map (fun g => ((Tryz.prog.funcs[g]?).bind (·.body)).elim [] Code.globalsNamed) = gloL0 := by kernel_rfl
def gloL60 : List (List Nat) := [[], [], [], [], [], [], [], [], [], [], [], [], [], [], [], [], [], [0], [], [], [], [], [], [], [], [], [], [], [], [], [], [], [], [], [], [], [], [], [], [], [], [], [], [], [], [], [], [], [], [], [], [], [], [], [], [], [], [], [], []]
theorem glo_60 : (List.range' 60 60).map (fun g => ((Tryz.prog.funcs[g]?).bind (·.body)).elim [] Code.globalsNamed) = gloL60 := by kernel_rfl
def gloL120 : List (List Nat) := [[], [], [], [], [], [], [], [], [], [], [], [], [], [], [], [], [], [], [], [], [], [], [], [], [], [], [], [], [8, 8, 8], [], [], [3], [], [], [], [], [], [], [], [], [], [], [], [], [], [], [], [], [], [], [], [], [], [], [], [], [], [], [], []]
theorem glo_120 : (List.range' 120 60).map (fun g => ((Tryz.prog.funcs[g]?).bind (·.body)).elim [] Code.globalsNamed) = gloL120 := by kernel_rfl
def gloL180 : List (List Nat) := [[], [], [], [], [], [], [], [], [], [], [], [], [], [], [], [], [], [], [], [], [], [], [], [], [], [], [], [], [], [], [], [], [], [], [], [], [], [], [2], [], [], [], [], [], [], [], [], [], [], [], [], [], [], [], [], [], [], [], [], []]
theorem glo_180 : (List.range' 180 60).map (fun g => ((Tryz.prog.funcs[g]?).bind (·.body)).elim [] Code.globalsNamed) = gloL180 := by kernel_rfl
def gloL240 : List (List Nat) := [[], [], [], [], [], [], [], [], [], [], [], [], [], [9], [], [], [], [], [], [], [], [], [], [], [], [], [], [], [], [], [], [], [], [], [], [], [], [], [], [], [], [], [], [], [], [], [], [], [], [], [], [], [], [], [], [], [], [], [], []]
theorem glo_240 : (List.range' 240 60).map (fun g => ((Tryz.prog.funcs[g]?).bind (·.body)).elim [] Code.globalsNamed) = gloL240 := by kernel_rfl
def gloL300 : List (List Nat) := [[], [], [], [], [], [], [], [], [], [5], [], [], [], [], [], [4], [4], [], [], [], [], [], [], [], [], [], [], [], [], [], [], [4], [], [], [], [], [], [], [], [], [], [], [], [], [], [], [], [], [], [], [], [], [], [], [], [], [], [], [], []]
theorem glo_300 : (List.range' 300 60).map (fun g => ((Tryz.prog.funcs[g]?).bind (·.body)).elim [] Code.globalsNamed) = gloL300 := by kernel_rfl
def gloL360 : List (List Nat) := [[7], [], [], [3], [], [], [], [], [], [], [], [], [], [], [], [], [], [], [], [], [], [], [], [], [], [], [], [], [6, 4], [], [], [], [], [], [], [], [], [], [], [], [], [], [], [], [], [], [], [], [], [], [], [], [], [], [10], [11], [], [], [], []]
theorem glo_360 : (List.range' 360 60).map (fun g => ((Tryz.prog.funcs[g]?).bind (·.body)).elim [] Code.globalsNamed) = gloL360 := by kernel_rfl
def gloL420 : List (List Nat) := [[4], [], [3], [], [], [], [], [], [], [], [], [], [], [], [], [], [], [], [], [], [1], [], [], [], [], [], [], [], [], [], [], [], [], [], [], [], [], [], [], [], [], [], [], [], [], [], [], [], [], [], [], [], [], [], [], [], [], [], [], []]
theorem glo_420 : (List.range' 420 60).map (fun g => ((Tryz.prog.funcs[g]?).bind (·.body)).elim [] Code.globalsNamed) = gloL420 := by kernel_rfl
def gloL480 : List (List Nat) := [[], [], [], [], [], [], [], [], [12], [13], [], [], [], [], [], [], [], [], [], [], [], [], [], [], [], [], [], [], [], [], [], [], [], [], [], [], [], [], [], [], [], [], [], [], [], [], [], [], [], [], [], [], [], [], [], [], [], [], [], []]
theorem glo_480 : (List.range' 480 60).map (fun g => ((Tryz.prog.funcs[g]?).bind (·.body)).elim [] Code.globalsNamed) = gloL480 := by kernel_rfl
def gloL540 : List (List Nat) := [[], [], [], [], [], [], [], [], [], [], [], [], [], [], [], [], [], [], [], [], [], [], [], [], [], [], [], [], [], [], [10, 11, 9, 0, 1, 2, 3, 4, 5, 6, 7, 13, 12]]
theorem glo_540 : (List.range' 540 31).map (fun g => ((Tryz.prog.funcs[g]?).bind (·.body)).elim [] Code.globalsNamed) = gloL540 := by kernel_rfl
def gloT (g : Nat) : List Nat := if g < 60 then (gloL0[g - 0]?).getD [] else if g < 120 then (gloL60[g - 60]?).getD [] else if g < 180 then (gloL120[g - 120]?).getD [] else if g < 240 then (gloL180[g - 180]?).getD [] else if g < 300 then (gloL240[g - 240]?).getD [] else if g < 360 then (gloL300[g - 300]?).getD [] else if g < 420 then (gloL360[g - 360]?).getD [] else if g < 480 then (gloL420[g - 420]?).getD [] else if g < 540 then (gloL480[g - 480]?).getD [] else if g < 571 then (gloL540[g - 540]?).getD [] else []
theorem glo_eq (g : Nat) : (((Tryz.prog.funcs[g]?).bind (·.body)).elim [] Code.globalsNamed) = gloT g := by
  unfold gloT
  by_cases h0 : g < 60
  · rw [if_pos h0]; exact tab_get (fun g => ((Tryz.prog.funcs[g]?).bind (·.body)).elim [] Code.globalsNamed) 0 60 _ glo_0 [] g (by omega) (by omega)
  rw [if_neg h0]
  by_cases h60 : g < 120
  · rw [if_pos h60]; exact tab_get (fun g => ((Tryz.prog.funcs[g]?).bind (·.body)).elim [] Code.globalsNamed) 60 60 _ glo_60 [] g (by omega) (by omega)
  rw [if_neg h60]
  by_cases h120 : g < 180
  · rw [if_pos h120]; exact tab_get (fun g => ((Tryz.prog.funcs[g]?).bind (·.body)).elim [] Code.globalsNamed) 120 60 _ glo_120 [] g (by omega) (by omega)
  rw [if_neg h120]
  by_cases h180 : g < 240
  · rw [if_pos h180]; exact tab_get (fun g => ((Tryz.prog.funcs[g]?).bind (·.body)).elim [] Code.globalsNamed) 180 60 _ glo_180 [] g (by omega) (by omega)
  rw [if_neg h180]
  by_cases h240 : g < 300
  · rw [if_pos h240]; exact tab_get (fun g => ((Tryz.prog.funcs[g]?).bind (·.body)).elim [] Code.globalsNamed) 240 60 _ glo_240 [] g (by omega) (by omega)
  rw [if_neg h240]
  by_cases h300 : g < 360
  · rw [if_pos h300]; exact tab_get (fun g => ((Tryz.prog.funcs[g]?).bind (·.body)).elim [] Code.globalsNamed) 300 60 _ glo_300 [] g (by omega) (by omega)
  rw [if_neg h300]
  by_cases h360 : g < 420
  · rw [if_pos h360]; exact tab_get (fun g => ((Tryz.prog.funcs[g]?).bind (·.body)).elim [] Code.globalsNamed) 360 60 _ glo_360 [] g (by omega) (by omega)
  rw [if_neg h360]
  by_cases h420 : g < 480
  · rw [if_pos h420]; exact tab_get (fun g => ((Tryz.prog.funcs[g]?).bind (·.body)).elim [] Code.globalsNamed) 420 60 _ glo_420 [] g (by omega) (by omega)
  rw [if_neg h420]
  by_cases h480 : g < 540
  · rw [if_pos h480]; exact tab_get (fun g => ((Tryz.prog.funcs[g]?).bind (·.body)).elim [] Code.globalsNamed) 480 60 _ glo_480 [] g (by omega) (by omega)
  rw [if_neg h480]
  by_cases h540 : g < 571
  · rw [if_pos h540]; exact tab_get (fun g => ((Tryz.prog.funcs[g]?).bind (·.body)).elim [] Code.globalsNamed) 540 31 _ glo_540 [] g (by omega) (by omega)
  rw [if_neg h540]
  rw [no_func g (by omega)]; rfl
def entL0 : List (Option String) := [.none, .none, .none, .none, .none, .none, .none, .none, .none, .none, .none, .none, .none, .none, .none, .none, .none, .none, .none, .none, .none, .none, .none, .none, .none, .none, .none, .none, .none, .none, .none, .none, .none, .none, .none, .none, .none, .none, .none, .none, .none, .none, .none, .none, .none, .none, .none, .none, .none, .none, .none, .none, .none, .none, .none, .none, .none, .none, .none, .none]
theorem ent_0 : (List.range' 0 60).map (fun g => (Tryz.prog.funcs[g]?).bind fun fn => if fn.body.isNone then entryReads.lookup fn.name else .none) = entL0 := by kernel_rfl
def entL60 : List (Option String) := [.none, .none, .none, .none, .none, .none, .none, .none, .none, .none, .none, .none, .none, .none, .none, .none, .none, .none, .none, .none, .none, .none, .none, .none, .none, .none, .none, .none, .none, .none, .none, .none, .none, .none, .none, .none, .none, .none, .none, .none, .none, .none, .none, .none, .none, .none, .none, .none, .none, .none, .none, .none, .none, .none, .none, .none, .none, .none, .none, .none]
theorem ent_60 : (List.range' 60 60).map (fun g => (Tryz.prog.funcs[g]?).bind fun fn => if fn.body.isNone then entryReads.lookup fn.name else .none) = entL60 := by kernel_rfl
def entL120 : List (Option String) := [.none, .none, .none, .none, .none, .none, .none, .none, .none, .none, .none, .none, .none, .none, .none, .none, .none, .none, .none, .none, .none, .none, .none, .none, .none, .none, .none, .none, .none, .none, .none, .none, .none, .none, .none, .none, .none, .none, .none, .none, .none, .none, .none, .none, .none, .none, .none, .none, .none, .none, .none, .none, .none, .none, .none, .none, .none, .none, .none, .none]
theorem ent_120 : (List.range' 120 60).map (fun g => (Tryz.prog.funcs[g]?).bind fun fn => if fn.body.isNone then entryReads.lookup fn.name else .none) = entL120 := by kernel_rfl
def entL180 : List (Option String) := [.none, .none, .none, .none, .none, .none, .none, .none, .none, .none, .none, .none, .none, .none, .none, .none, .none, .none, .none, .none, .none, .none, .none, .none, .none, .none, .none, .none, .none, .none, .none, .none, .none, .none, some "internal/bytealg.MaxLen", .none, .none, .none, .none, .none, .none, .none, .none, .none, .none, .none, .none, .none, .none, .none, .none, .none, .none, .none, .none, .none, .none, .none, .none, .none]
theorem ent_180 : (List.range' 180 60).map (fun g => (Tryz.prog.funcs[g]?).bind fun fn => if fn.body.isNone then entryReads.lookup fn.name else .none) = entL180 := by kernel_rfl
def entL240 : List (Option String) := [.none, .none, .none, .none, .none, .none, .none, .none, .none, .none, .none, .none, .none, .none, .none, .none, .none, .none, .none, .none, .none, .none, .none, .none, .none, .none, .none, .none, .none, .none, .none, .none, .none, .none, .none, .none, .none, .none, .none, .none, .none, .none, .none, .none, .none, .none, .none, .none, .none, .none, .none, .none, .none, .none, .none, .none, .none, .none, .none, .none]
theorem ent_240 : (List.range' 240 60).map (fun g => (Tryz.prog.funcs[g]?).bind fun fn => if fn.body.isNone then entryReads.lookup fn.name else .none) = entL240 := by kernel_rfl
def entL300 : List (Option String) := [.none, .none, .none, .none, .none, .none, .none, .none, .none, .none, .none, .none, .none, .none, .none, .none, .none, .none, .none, .none, .none, .none, .none, .none, .none, .none, .none, .none, .none, .none, .none, .none, .none, .none, .none, .none, .none, .none, .none, .none, .none, .none, .none, .none, .none, .none, .none, .none, .none, .none, .none, .none, .none, .none, .none, .none, .none, .none, .none, .none]
theorem ent_300 : (List.range' 300 60).map (fun g => (Tryz.prog.funcs[g]?).bind fun fn => if fn.body.isNone then entryReads.lookup fn.name else .none) = entL300 := by kernel_rfl
def entL360 : List (Option String) := [.none, .none, .none, .none, .none, .none, .none, .none, .none, .none, .none, .none, .none, .none, .none, .none, .none, .none, .none, .none, .none, .none, .none, .none, .none, .none, .none, .none, .none, .none, .none, .none, .none, .none, .none, .none, .none, .none, .none, .none, .none, .none, .none, .none, .none, .none, .none, .none, .none, .none, .none, .none, .none, .none, .none, .none, .none, .none, .none, .none]
theorem ent_360 : (List.range' 360 60).map (fun g => (Tryz.prog.funcs[g]?).bind fun fn => if fn.body.isNone then entryReads.lookup fn.name else .none) = entL360 := by kernel_rfl
def entL420 : List (Option String) := [.none, .none, .none, .none, .none, .none, .none, .none, .none, .none, .none, .none, .none, .none, .none, .none, .none, .none, .none, .none, .none, .none, .none, .none, .none, .none, .none, .none, .none, .none, .none, .none, .none, .none, .none, .none, .none, .none, .none, .none, .none, .none, .none, .none, .none, .none, .none, .none, .none, .none, .none, .none, .none, .none, .none, .none, .none, .none, .none, .none]
theorem ent_420 : (List.range' 420 60).map (fun g => (Tryz.prog.funcs[g]?).bind fun fn => if fn.body.isNone then entryReads.lookup fn.name else .none) = entL420 := by kernel_rfl
def entL480 : List (Option String) := [.none, .none, .none, .none, .none, .none, .none, .none, .none, .none, .none, .none, .none, .none, .none, .none, .none, .none, .none, .none, .none, .none, .none, .none, .none, .none, .none, .none, .none, .none, .none, .none, .none, .none, .none, .none, .none, .none, .none, .none, .none, .none, .none, .none, .none, .none, .none, .none, .none, .none, .none, .none, .none, .none, .none, .none, .none, .none, .none, .none]
theorem ent_480 : (List.range' 480 60).map (fun g => (Tryz.prog.funcs[g]?).bind fun fn => if fn.body.isNone then entryReads.lookup fn.name else .none) = entL480 := by kernel_rfl
def entL540 : List (Option String) := [.none, .none, .none, .none, .none, .none, .none, .none, .none, .none, .none, .none, .none, .none, .none, .none, .none, .none, .none, .none, .none, .none, .none, .none, .none, .none, .none, .none, .none, .none, .none]
theorem ent_540 : (List.range' 540 31).map (fun g => (Tryz.prog.funcs[g]?).bind fun fn => if fn.body.isNone then entryReads.lookup fn.name else .none) = entL540 := by kernel_rfl
def entT (g : Nat) : Option String := if g < 60 then (entL0[g - 0]?).getD .none else if g < 120 then (entL60[g - 60]?).getD .none else if g < 180 then (entL120[g - 120]?).getD .none else if g < 240 then (entL180[g - 180]?).getD .none else if g < 300 then (entL240[g - 240]?).getD .none else if g < 360 then (entL300[g - 300]?).getD .none else if g < 420 then (entL360[g - 360]?).getD .none else if g < 480 then (entL420[g - 420]?).getD .none else if g < 540 then (entL480[g - 480]?).getD .none else if g < 571 then (entL540[g - 540]?).getD .none else .none
theorem ent_eq (g : Nat) : ((Tryz.prog.funcs[g]?).bind fun fn => if fn.body.isNone then entryReads.lookup fn.name else .none) = entT g := by
  unfold entT
  by_cases h0 : g < 60
  · rw [if_pos h0]; exact tab_get (fun g => (Tryz.prog.funcs[g]?).bind fun fn => if fn.body.isNone then entryReads.lookup fn.name else .none) 0 60 _ ent_0 .none g (by omega) (by omega)
  rw [if_neg h0]
  by_cases h60 : g < 120
  · rw [if_pos h60]; exact tab_get (fun g => (Tryz.prog.funcs[g]?).bind fun fn => if fn.body.isNone then entryReads.lookup fn.name else .none) 60 60 _ ent_60 .none g (by omega) (by omega)
  rw [if_neg h60]
  by_cases h120 : g < 180
  · rw [if_pos h120]; exact tab_get (fun g => (Tryz.prog.funcs[g]?).bind fun fn => if fn.body.isNone then entryReads.lookup fn.name else .none) 120 60 _ ent_120 .none g (by omega) (by omega)
  rw [if_neg h120]
  by_cases h180 : g < 240
  · rw [if_pos h180]; exact tab_get (fun g => (Tryz.prog.funcs[g]?).bind fun fn => if fn.body.isNone then entryReads.lookup fn.name else .none) 180 60 _ ent_180 .none g (by omega) (by omega)
  rw [if_neg h180]
  by_cases h240 : g < 300
  · rw [if_pos h240]; exact tab_get (fun g => (Tryz.prog.funcs[g]?).bind fun fn => if fn.body.isNone then entryReads.lookup fn.name else .none) 240 60 _ ent_240 .none g (by omega) (by omega)
  rw [if_neg h240]
  by_cases h300 : g < 360
  · rw [if_pos h300]; exact tab_get (fun g => (Tryz.prog.funcs[g]?).bind fun fn => if fn.body.isNone then entryReads.lookup fn.name else .none) 300 60 _ ent_300 .none g (by omega) (by omega)
  rw [if_neg h300]
  by_cases h360 : g < 420
  · rw [if_pos h360]; exact tab_get (fun g => (Tryz.prog.funcs[g]?).bind fun fn => if fn.body.isNone then entryReads.lookup fn.name else .none) 360 60 _ ent_360 .none g (by omega) (by omega)
  rw [if_neg h360]
  by_cases h420 : g < 480
  · rw [if_pos h420]; exact tab_get (fun g => (Tryz.prog.funcs[g]?).bind fun fn => if fn.body.isNone then entryReads.lookup fn.name else .none) 420 60 _ ent_420 .none g (by omega) (by omega)
  rw [if_neg h420]
  by_cases h480 : g < 540
  · rw [if_pos h480]; exact tab_get (fun g => (Tryz.prog.funcs[g]?).bind fun fn => if fn.body.isNone then entryReads.lookup fn.name else .none) 480 60 _ ent_480 .none g (by omega) (by omega)
  rw [if_neg h480]
  by_cases h540 : g < 571
  · rw [if_pos h540]; exact tab_get (fun g => (Tryz.prog.funcs[g]?).bind fun fn => if fn.body.isNone then entryReads.lookup fn.name else .none) 540 31 _ ent_540 .none g (by omega) (by omega)
  rw [if_neg h540]
  rw [no_func g (by omega)]; rfl
theorem plc_name (g : Nat) : ((Tryz.prog.funcs[g]?).bind fun fn => if fn.ours || fn.body.isNone || fn.name == "runtime.NumGoroutine" then some fn.name else .none) = if plcT g then (Tryz.prog.funcs[g]?).map (·.name) else .none := by
  rw [← plc_eq g]
  cases Tryz.prog.funcs[g]? with
  | none => rfl
  | some fn =>
    show (if fn.ours || fn.body.isNone || fn.name == "runtime.NumGoroutine" then some fn.name else .none) = if (fn.ours || fn.body.isNone || fn.name == "runtime.NumGoroutine") then some fn.name else .none
    rfl
end Go.Proofs.YthkknpjoifoanaaGreatDoor
