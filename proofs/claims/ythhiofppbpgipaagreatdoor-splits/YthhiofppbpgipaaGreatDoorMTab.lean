import Derived.WalkKit
import Derived.Test.YthhiofppbpgipaaGreatDoorProg
import GoSem.Claim
import GoSem.ClaimFn
import Derived.KernelRfl
namespace Go.Proofs.YthhiofppbpgipaaGreatDoor
theorem tab_get {α : Type} (f : Nat → α) (a m : Nat) (L : List α) (h : (List.range' a m).map f = L) (d : α) (i : Nat) (h1 : a ≤ i) (h2 : i < a + m) : f i = (L[i - a]?).getD d := by
  rw [← h, List.getElem?_map, List.getElem?_range' (by omega)]
  simp
  congr 1
  omega
theorem nfuncs : Tryz.prog.funcs.size = 735 := by kernel_rfl
theorem no_func (g : Nat) (h : ¬ g < 735) : Tryz.prog.funcs[g]? = none := Array.getElem?_eq_none (by rw [nfuncs]; omega)
def leadL0 : List (List Nat) := [[], [], [1], [6], [6], [6], [7], [8, 9, 10, 11, 12, 13, 10, 14, 15, 16, 13, 10, 17, 18, 10, 19, 20, 21, 10], [22, 22, 23, 24], [25, 26], [], [22, 22, 27], [28], [], [], [22, 29, 22, 30, 31, 32], [33, 34], [35, 36], [37, 38, 39, 39, 39, 38], [35, 40, 41, 32], [37, 42, 42, 42, 43, 43, 43, 43, 44, 45, 46, 44, 45], [], [], [47, 49, 48], [50, 51, 52], [53, 54], [55], [56, 57, 58, 23, 59], [60, 25, 61], [62], [63, 64], [65, 66, 67], [68, 68, 68, 68, 68, 68, 68, 68], [69, 70], [71, 72], [73, 74], [75, 76, 77], [78, 79, 80, 80, 81, 82], [38, 39, 38, 38, 83, 83, 83, 38, 38, 39, 84, 84, 39], [85, 86, 87, 84, 84, 39, 39, 39], [88, 89, 91, 90, 94, 90, 95, 95, 96], [], [], [], [97], [], [98, 99, 100, 101, 43, 102, 103, 45], [104, 105], [49, 49, 49, 106, 107, 48, 49, 108], [], [109, 110], [], [], [], [111, 112, 111, 53], [113], [114, 115, 116, 116], [114, 117], [114, 117, 118], [114, 50, 117, 118]]
theorem lead_0 : (List.range' 0 60).map (fun g => (Tryz.prog.funcs[g]?).elim [] Tryz.prog.leadsTo) = leadL0 := by kernel_rfl
def leadL60 : List (List Nat) := [[70, 70], [55], [], [64], [115], [119], [120, 121, 121, 122], [125, 124, 123, 125, 126, 123, 128, 127, 130, 129, 127], [131, 132], [70, 133], [], [134, 134], [135, 101, 86, 101, 136], [137, 138, 139, 140], [141, 142, 143, 144, 145], [146, 146, 146, 146, 146, 147], [146, 146, 148, 146, 147], [], [149, 150, 151, 152, 153, 150], [154, 155, 156, 154, 157, 155, 156, 81], [158, 159, 160, 160, 80], [81, 80, 81, 80, 81, 80, 81, 160, 160, 81, 160, 156, 80], [156], [39], [39], [161, 162], [163], [], [164, 165, 166], [167, 168, 169, 169, 170, 170, 170, 169, 169], [171], [92, 93], [], [172, 173, 174, 175], [92], [176], [], [97, 99, 177, 178, 97, 97, 179, 177, 179, 180, 181], [], [182], [], [69], [183, 135, 28, 182, 182, 184], [185, 97], [186, 187], [], [48], [48, 48, 49], [49, 48], [188], [189, 190, 189], [191, 112, 112, 112, 53, 53], [], [113, 113, 113, 113, 192, 192, 113, 192, 192, 193, 194], [], [], [117], [], [117], []]
theorem lead_60 : (List.range' 60 60).map (fun g => (Tryz.prog.funcs[g]?).elim [] Tryz.prog.leadsTo) = leadL60 := by kernel_rfl
def leadL120 : List (List Nat) := [[], [195], [], [127, 197, 196, 198], [199], [63], [200], [197, 196], [201, 130, 125], [], [124], [], [132], [], [133], [86], [], [], [], [202], [203, 204, 205], [206, 207, 208], [209, 206, 207, 208, 210], [211, 210], [212, 213, 207, 208], [], [215], [146, 216, 146], [146, 217], [218, 219, 218], [], [], [220, 221, 222, 220, 222, 221, 222, 221, 222, 221, 223], [151, 151, 222, 224, 222, 224, 222, 226, 225, 225, 223], [60], [], [], [], [155, 156, 227, 80], [228, 229, 156, 227, 80, 156], [157, 156, 155, 154, 156], [230], [231, 232, 233, 234], [199], [], [235, 236], [165, 165, 237, 165], [], [], [], [], [], [238], [239], [125, 169, 240], [241], [], [242, 243, 244, 245, 246, 247, 248, 249, 250, 177, 251, 177, 252], [], [99, 177, 178, 97, 177]]
theorem lead_120 : (List.range' 120 60).map (fun g => (Tryz.prog.funcs[g]?).elim [] Tryz.prog.leadsTo) = leadL120 := by kernel_rfl
def leadL180 : List (List Nat) := [[244, 253, 99, 42, 254, 97], [177, 255, 177, 101, 177, 244, 243, 256], [], [100], [100, 43], [177, 178, 177, 178], [105, 187, 187, 257], [105], [258, 259], [], [], [53, 260, 54, 112, 53], [], [113, 113, 192, 192], [], [], [188, 65, 65, 65, 65, 65, 261, 215, 262, 262, 262, 77, 215, 77], [], [263], [264, 265, 266, 267], [264, 265, 266, 267], [], [268, 269, 270], [271, 139], [272, 273, 274, 275, 274, 276], [203, 276, 203, 276, 271, 276, 277, 203, 277, 203, 276], [], [], [], [], [278], [279], [281, 280], [214], [282, 282], [283], [147, 284, 146, 217, 146, 147, 285, 146, 147, 286, 146], [124, 146, 287, 146, 146, 146, 288, 146, 217, 146, 288, 146, 288, 146, 217, 146, 289, 289, 289, 290, 289], [70], [291, 292, 133, 293, 294, 295, 296, 25, 154, 154], [], [222], [151], [226, 221, 222, 297, 222, 221, 225], [298, 224, 221, 224, 225, 154, 224, 299, 225], [], [], [156, 160], [], [], [300], [301], [301], [301, 86, 302], [301, 86, 302], [165, 165, 303, 304], [], [305], [], [306]]
theorem lead_180 : (List.range' 180 60).map (fun g => (Tryz.prog.funcs[g]?).elim [] Tryz.prog.leadsTo) = leadL180 := by kernel_rfl
def leadL240 : List (List Nat) := [[309, 308, 307, 310], [311, 311, 311], [69, 43, 42, 25, 26, 312, 313], [177, 135, 314], [315, 316], [317], [318, 177, 319, 101, 101, 320, 321], [177, 178, 177, 177, 312, 177, 178, 312], [177, 322, 135, 26, 312], [155, 244, 316, 177, 182, 97, 182], [323, 324, 325, 177, 326], [101, 327, 178, 312, 101, 43, 244, 135, 317, 312, 101, 43], [135, 135, 314, 328, 312, 312, 312, 312, 312, 312, 101, 101, 320], [329], [315, 101, 330, 100], [177, 135, 183, 135, 183, 135, 331], [], [332, 105, 333], [], [], [112, 53], [283, 334], [], [119], [], [336, 335, 337], [], [338, 339], [340, 115, 341], [340, 342, 343, 344, 345, 346, 347, 348], [], [], [], [139], [203, 272], [271, 349, 203, 349], [274, 203, 350], [351, 203, 277, 274, 277, 352, 353, 273, 277], [210, 279, 210, 210, 279, 354, 211, 354, 355, 355, 354, 279, 211, 279, 356, 208, 279, 208, 279, 355, 211], [355, 355, 211, 279, 357, 358, 279, 279, 279, 279, 279, 279, 355, 211, 279, 279], [359, 360, 361, 362, 363, 364, 365, 366, 280, 280], [367, 336], [], [368], [146, 217, 146, 147, 146, 147], [146, 217, 146, 217, 146, 217, 146, 147], [217, 369, 146, 370, 370, 146, 288], [146, 146, 146, 146, 371, 146], [146, 148, 146], [146, 217, 146, 217, 146], [146, 217, 146, 217, 146, 217, 146], [], [291, 133, 154, 154], [133, 291], [], [], [], [223, 225, 372, 373, 374, 222, 221], [375, 222, 376, 375, 299, 225, 222], []]
theorem lead_240 : (List.range' 240 60).map (fun g => (Tryz.prog.funcs[g]?).elim [] Tryz.prog.leadsTo) = leadL240 := by kernel_rfl
def leadL300 : List (List Nat) := [[377, 377, 377, 377, 377, 377, 378], [], [], [379, 380, 380, 381, 382, 383, 384, 385, 386, 305, 387, 165], [172], [169, 388, 170, 388, 389, 390, 391, 392, 393, 394, 395, 396, 397, 398, 399, 400, 388], [401, 402, 401, 403, 402, 404], [238], [27, 405], [130], [406, 169], [407], [43, 43], [315, 183], [182, 42], [157], [], [], [243, 244, 177, 101, 182], [313, 245, 327], [43, 43, 43, 182, 43, 43], [254, 408, 409], [177, 135, 25, 182], [177, 135, 322, 61, 183, 177, 135, 28, 182, 244, 43, 135, 33, 408, 43], [322, 177, 318, 319, 135, 135, 410, 42, 321, 43], [177, 322, 135, 26, 100, 43, 100, 43, 43, 43], [135, 43, 101, 101, 411, 42, 101, 411, 42, 135, 412, 43, 413, 42, 413, 42, 34, 182, 42], [182, 33, 33], [135, 135, 329], [], [182, 184, 414], [182], [415, 416, 417, 418, 415, 419], [], [420], [], [], [], [], [421, 422], [], [340], [], [342, 344, 423, 424], [], [344, 342, 425, 424, 426, 424, 424, 424], [423, 427, 423, 423], [428, 423, 23, 423], [429, 424, 430, 424, 423], [431, 203, 274], [271, 276, 203, 203, 432, 203, 433, 434, 203, 435, 436, 271, 274], [438, 437], [], [271], [210], [209, 439, 208, 206, 208], [], [208, 440], [441, 208, 442, 352, 208, 440], []]
theorem lead_300 : (List.range' 300 60).map (fun g => (Tryz.prog.funcs[g]?).elim [] Tryz.prog.leadsTo) = leadL300 := by kernel_rfl
def leadL360 : List (List Nat) := [[443, 443], [444, 445], [446, 446, 446, 447], [], [], [], [], [], [], [146, 146, 148, 146, 217], [146, 146, 217], [283], [221, 224, 221, 448, 151, 448, 225], [221, 150, 448, 225, 449, 449, 449, 448, 225], [224, 225, 226, 450, 225, 451, 224, 225, 220, 222, 452, 225], [453, 222, 376, 453, 299, 225, 222], [], [], [377, 377, 377, 377, 377, 377], [305, 165, 165, 454], [455, 456, 455, 455, 165, 457], [390, 459, 165, 460], [237, 455, 462], [467], [468, 305, 470], [455, 472], [459, 474, 476, 477], [479], [480], [481, 483, 482], [485, 486, 487, 489, 488], [476, 494, 488], [305, 499, 488], [505, 506], [510, 511, 512, 513, 512, 514, 515, 237, 516, 517], [305, 519, 482, 520, 521], [305, 305, 522, 482, 305, 305, 523, 482, 524, 525, 305, 305, 526, 527], [305, 305, 528], [476, 530, 482], [305, 305, 305, 532], [305, 305, 533, 534, 526, 535], [536], [], [], [537], [], [], [201], [245, 317], [182, 135, 102, 330, 414], [55, 538, 538, 314], [], [], [], [183, 135, 314], [105], [104, 187], [187, 187, 539, 418], [], [540]]
theorem lead_360 : (List.range' 360 60).map (fun g => (Tryz.prog.funcs[g]?).elim [] Tryz.prog.leadsTo) = leadL360 := by kernel_rfl
def leadL420 : List (List Nat) := [[], [], [], [], [], [], [], [], [], [], [], [272, 273], [433, 434, 203, 434], [274, 277, 274], [271, 276, 350], [274, 541, 542, 203, 434, 274, 541, 274, 541, 274, 434], [203, 543, 353, 273, 203, 544, 203, 544, 203, 545, 277], [353, 273], [546, 437], [], [279, 208, 355], [], [], [], [281], [], [447], [547, 547, 547], [297, 225], [222, 224, 221], [451, 222, 548, 222, 549, 225], [222, 222], [226, 222, 548, 221], [550, 550, 299, 225, 151, 220, 225, 151], [311], [388, 305], [169, 169], [172, 311, 458], [], [485, 551, 487, 552], [461, 172, 170, 458], [553, 554], [463, 130, 464, 309, 465, 309, 466], [130], [555], [261, 215, 215, 215, 77], [556, 307], [], [469], [], [125, 471, 469], [], [473], [], [475], [], [459, 237, 557], [478], [], []]
theorem lead_420 : (List.range' 420 60).map (fun g => (Tryz.prog.funcs[g]?).elim [] Tryz.prog.leadsTo) = leadL420 := by kernel_rfl
def leadL480 : List (List Nat) := [[], [23, 558, 305, 559], [560], [464, 484], [24], [562, 561], [563, 488], [], [566], [490, 492], [491], [], [493], [125, 567], [495, 497], [496], [498], [498], [], [500, 501, 503], [125, 405, 307], [502], [568], [504], [130, 240, 130, 309, 569, 307, 310], [459, 570, 305, 571], [507, 508, 509], [238, 572], [573], [473, 574], [305, 481, 575], [305, 459, 577, 578], [481, 305, 392, 305, 579], [24, 580], [50, 580], [237, 581], [582, 583, 584, 585, 587], [518], [], [311], [125, 169], [125, 169], [311, 311], [311, 311], [305, 481, 588, 482], [305, 305, 589, 590, 482], [592, 593, 592, 594, 592, 595, 596, 597, 596, 598], [], [130, 130, 529, 170], [238], [531], [], [311], [], [599], [], [], [], [], [415, 415, 600, 540]]
theorem lead_480 : (List.range' 480 60).map (fun g => (Tryz.prog.funcs[g]?).elim [] Tryz.prog.leadsTo) = leadL480 := by kernel_rfl
def leadL540 : List (List Nat) := [[], [271, 277], [], [601, 271, 602, 203, 603], [601, 277], [431, 203, 604], [606, 605, 203, 431], [], [224, 222, 224, 222], [607, 608, 607, 299, 225, 608], [549, 154, 549, 299, 225], [473], [], [], [281, 609], [], [610], [463, 465, 529], [], [130, 23, 238], [456], [], [], [473, 564, 565], [], [], [], [405, 307, 309, 611, 307, 310], [30, 30], [611, 612], [], [], [], [], [475], [130, 24, 576, 493, 576, 493], [169], [613, 481, 615, 305, 616], [130, 475, 86, 30, 498, 576], [130, 130, 307, 170, 576], [], [518, 130, 31, 307, 170], [130, 576], [130, 169, 130, 617, 576], [130, 125, 618, 170, 125, 618, 170], [130, 586, 170], [], [130, 586, 170], [130, 484], [619, 620, 621, 622, 623, 624], [591], [201, 201, 130, 130, 625, 626], [627], [], [], [], [592, 628], [], [], [629]]
theorem lead_540 : (List.range' 540 60).map (fun g => (Tryz.prog.funcs[g]?).elim [] Tryz.prog.leadsTo) = leadL540 := by kernel_rfl
def leadL600 : List (List Nat) := [[187], [353], [277, 203, 277], [630, 631, 630], [602, 274], [353, 273], [603, 605, 603, 605], [632, 376, 632, 299, 225], [], [633, 634, 635, 636, 637, 638, 639, 640, 641, 609, 609], [642], [612], [465], [309, 614], [27, 238], [59], [130, 614], [306], [], [], [], [], [], [], [], [643, 643], [644, 644], [125, 125, 169], [125, 238], [], [645, 437], [353], [646, 376, 646, 299, 225], [639], [647, 647], [444, 445], [648, 648, 648, 649], [], [639, 639, 639], [643, 643], [639, 639], [639, 639, 639, 639], [301], [], [], [650, 437], [222, 222, 222, 651, 646, 225], [639, 639], [649], [652, 652, 652], [353, 273, 650, 653], [376, 225, 376, 225, 376, 225, 376, 222, 225, 452, 225, 654, 222, 651, 225, 221, 224, 221], [639], [273, 655, 273, 273, 656, 273, 657, 273, 657, 203, 653, 274, 658], [376, 221, 226, 452, 225], [230, 162], [273, 203, 604], [274, 203, 604], [277, 274], []]
theorem lead_600 : (List.range' 600 60).map (fun g => (Tryz.prog.funcs[g]?).elim [] Tryz.prog.leadsTo) = leadL600 := by kernel_rfl
def leadL660 : List (List Nat) := [[], [], [], [], [], [], [], [], [], [], [], [], [], [], [], [], [], [], [], [], [], [], [], [], [], [], [], [], [], [], [], [], [], [], [], [], [], [], [], [], [], [], [], [], [], [], [], [], [], [], [], [], [], [], [], [], [], [], [], []]
theorem lead_660 : (List.range' 660 60).map (fun g => (Tryz.prog.funcs[g]?).elim [] Tryz.prog.leadsTo) = leadL660 := by kernel_rfl
def leadL720 : List (List Nat) := [[], [], [], [], [], [], [], [], [], [], [], [], [], [], [302, 302, 302, 302, 302, 302, 302, 302, 302, 302]]
theorem lead_720 : (List.range' 720 15).map (fun g => (Tryz.prog.funcs[g]?).elim [] Tryz.prog.leadsTo) = leadL720 := by kernel_rfl
def leadT (g : Nat) : List Nat := if g < 60 then (leadL0[g - 0]?).getD [] else if g < 120 then (leadL60[g - 60]?).getD [] else if g < 180 then (leadL120[g - 120]?).getD [] else if g < 240 then (leadL180[g - 180]?).getD [] else if g < 300 then (leadL240[g - 240]?).getD [] else if g < 360 then (leadL300[g - 300]?).getD [] else if g < 420 then (leadL360[g - 360]?).getD [] else if g < 480 then (leadL420[g - 420]?).getD [] else if g < 540 then (leadL480[g - 480]?).getD [] else if g < 600 then (leadL540[g - 540]?).getD [] else if g < 660 then (leadL600[g - 600]?).getD [] else if g < 720 then (leadL660[g - 660]?).getD [] else if g < 735 then (leadL720[g - 720]?).getD [] else []
theorem lead_eq (g : Nat) : ((Tryz.prog.funcs[g]?).elim [] Tryz.prog.leadsTo) = leadT g := by
  unfold leadT
  by_cases h0 : g < 60
  · rw [if_pos h0]; exact tab_get (fun g => (Tryz.prog.funcs[g]?).elim [] Tryz.prog.leadsTo) 0 60 _ lead_0 [] g (by omega) (by omega)
  rw [if_neg h0]
  by_cases h60 : g < 120
  · rw [if_pos h60]; exact tab_get (fun g => (Tryz.prog.funcs[g]?).elim [] Tryz.prog.leadsTo) 60 60 _ lead_60 [] g (by omega) (by omega)
  rw [if_neg h60]
  by_cases h120 : g < 180
  · rw [if_pos h120]; exact tab_get (fun g => (Tryz.prog.funcs[g]?).elim [] Tryz.prog.leadsTo) 120 60 _ lead_120 [] g (by omega) (by omega)
  rw [if_neg h120]
  by_cases h180 : g < 240
  · rw [if_pos h180]; exact tab_get (fun g => (Tryz.prog.funcs[g]?).elim [] Tryz.prog.leadsTo) 180 60 _ lead_180 [] g (by omega) (by omega)
  rw [if_neg h180]
  by_cases h240 : g < 300
  · rw [if_pos h240]; exact tab_get (fun g => (Tryz.prog.funcs[g]?).elim [] Tryz.prog.leadsTo) 240 60 _ lead_240 [] g (by omega) (by omega)
  rw [if_neg h240]
  by_cases h300 : g < 360
  · rw [if_pos h300]; exact tab_get (fun g => (Tryz.prog.funcs[g]?).elim [] Tryz.prog.leadsTo) 300 60 _ lead_300 [] g (by omega) (by omega)
  rw [if_neg h300]
  by_cases h360 : g < 420
  · rw [if_pos h360]; exact tab_get (fun g => (Tryz.prog.funcs[g]?).elim [] Tryz.prog.leadsTo) 360 60 _ lead_360 [] g (by omega) (by omega)
  rw [if_neg h360]
  by_cases h420 : g < 480
  · rw [if_pos h420]; exact tab_get (fun g => (Tryz.prog.funcs[g]?).elim [] Tryz.prog.leadsTo) 420 60 _ lead_420 [] g (by omega) (by omega)
  rw [if_neg h420]
  by_cases h480 : g < 540
  · rw [if_pos h480]; exact tab_get (fun g => (Tryz.prog.funcs[g]?).elim [] Tryz.prog.leadsTo) 480 60 _ lead_480 [] g (by omega) (by omega)
  rw [if_neg h480]
  by_cases h540 : g < 600
  · rw [if_pos h540]; exact tab_get (fun g => (Tryz.prog.funcs[g]?).elim [] Tryz.prog.leadsTo) 540 60 _ lead_540 [] g (by omega) (by omega)
  rw [if_neg h540]
  by_cases h600 : g < 660
  · rw [if_pos h600]; exact tab_get (fun g => (Tryz.prog.funcs[g]?).elim [] Tryz.prog.leadsTo) 600 60 _ lead_600 [] g (by omega) (by omega)
  rw [if_neg h600]
  by_cases h660 : g < 720
  · rw [if_pos h660]; exact tab_get (fun g => (Tryz.prog.funcs[g]?).elim [] Tryz.prog.leadsTo) 660 60 _ lead_660 [] g (by omega) (by omega)
  rw [if_neg h660]
  by_cases h720 : g < 735
  · rw [if_pos h720]; exact tab_get (fun g => (Tryz.prog.funcs[g]?).elim [] Tryz.prog.leadsTo) 720 15 _ lead_720 [] g (by omega) (by omega)
  rw [if_neg h720]
  rw [no_func g (by omega)]; rfl
def plcL0 : List (Bool) := [true, true, false, false, false, false, false, false, false, false, false, false, false, false, false, false, false, false, false, false, false, false, false, false, false, false, false, false, false, false, false, false, false, false, false, false, false, false, false, false, false, false, false, false, false, false, false, false, false, false, false, false, false, false, false, false, false, false, false, false]
theorem plc_0 : (List.range' 0 60).map (fun g => (Tryz.prog.funcs[g]?).elim false fun fn => fn.ours || fn.body.isNone || fn.name == "runtime.NumGoroutine") = plcL0 := by kernel_rfl
def plcL60 : List (Bool) := [false, false, false, false, false, false, false, false, false, false, false, false, false, false, false, false, false, false, false, false, false, false, false, false, false, false, false, false, false, false, false, false, false, false, false, false, false, false, false, false, false, false, false, false, false, false, false, false, false, false, false, false, false, false, false, false, false, false, false, false]
theorem plc_60 : (List.range' 60 60).map (fun g => (Tryz.prog.funcs[g]?).elim false fun fn => fn.ours || fn.body.isNone || fn.name == "runtime.NumGoroutine") = plcL60 := by kernel_rfl
def plcL120 : List (Bool) := [false, false, false, false, false, false, false, false, false, false, false, true, false, false, false, false, false, false, false, false, false, false, false, false, false, false, false, false, false, false, false, false, false, false, false, false, false, false, false, false, false, false, false, false, false, false, false, false, false, false, false, false, false, false, false, false, false, false, false, false]
theorem plc_120 : (List.range' 120 60).map (fun g => (Tryz.prog.funcs[g]?).elim false fun fn => fn.ours || fn.body.isNone || fn.name == "runtime.NumGoroutine") = plcL120 := by kernel_rfl
def plcL180 : List (Bool) := [false, false, false, false, false, false, false, false, false, false, false, false, false, false, false, false, false, false, false, false, false, false, false, false, false, false, false, false, false, false, false, false, false, false, false, false, false, false, false, false, false, false, false, false, false, false, false, false, false, false, false, false, false, false, false, false, false, false, false, false]
theorem plc_180 : (List.range' 180 60).map (fun g => (Tryz.prog.funcs[g]?).elim false fun fn => fn.ours || fn.body.isNone || fn.name == "runtime.NumGoroutine") = plcL180 := by kernel_rfl
def plcL240 : List (Bool) := [false, false, false, false, false, false, false, false, false, false, false, false, false, false, false, false, false, false, false, false, false, false, false, false, false, false, false, false, false, false, false, false, false, false, false, false, false, false, false, false, false, false, false, false, false, false, false, false, false, false, false, false, false, false, false, false, false, false, false, false]
theorem plc_240 : (List.range' 240 60).map (fun g => (Tryz.prog.funcs[g]?).elim false fun fn => fn.ours || fn.body.isNone || fn.name == "runtime.NumGoroutine") = plcL240 := by kernel_rfl
def plcL300 : List (Bool) := [false, false, false, false, false, false, false, false, false, false, false, false, false, false, false, false, false, false, false, false, false, false, false, false, false, false, false, false, false, false, false, false, false, false, false, false, false, false, false, false, false, false, false, false, false, false, false, false, false, false, false, false, false, false, false, false, false, false, false, false]
theorem plc_300 : (List.range' 300 60).map (fun g => (Tryz.prog.funcs[g]?).elim false fun fn => fn.ours || fn.body.isNone || fn.name == "runtime.NumGoroutine") = plcL300 := by kernel_rfl
def plcL360 : List (Bool) := [false, false, false, false, false, false, false, false, true, false, false, false, false, false, false, false, false, false, false, false, false, false, false, false, false, false, false, false, false, false, false, false, false, false, false, false, false, false, false, false, false, false, true, false, false, false, false, false, false, false, false, false, false, false, false, false, false, false, false, false]
theorem plc_360 : (List.range' 360 60).map (fun g => (Tryz.prog.funcs[g]?).elim false fun fn => fn.ours || fn.body.isNone || fn.name == "runtime.NumGoroutine") = plcL360 := by kernel_rfl
def plcL420 : List (Bool) := [true, false, false, false, false, false, false, false, false, false, false, false, false, false, false, false, false, false, false, false, false, false, false, false, false, false, false, false, false, false, false, false, false, false, false, false, false, false, false, false, false, false, false, false, false, false, false, false, false, false, false, false, false, false, false, false, false, false, false, false]
theorem plc_420 : (List.range' 420 60).map (fun g => (Tryz.prog.funcs[g]?).elim false fun fn => fn.ours || fn.body.isNone || fn.name == "runtime.NumGoroutine") = plcL420 := by kernel_rfl
def plcL480 : List (Bool) := [false, false, false, false, false, false, false, false, false, false, false, false, false, false, false, false, false, false, false, false, false, false, false, false, false, false, false, false, false, false, false, false, false, false, false, false, false, false, false, false, false, false, false, false, false, false, false, false, false, false, false, false, false, false, false, false, true, false, false, false]
theorem plc_480 : (List.range' 480 60).map (fun g => (Tryz.prog.funcs[g]?).elim false fun fn => fn.ours || fn.body.isNone || fn.name == "runtime.NumGoroutine") = plcL480 := by kernel_rfl
def plcL540 : List (Bool) := [false, false, false, false, false, false, false, false, false, false, false, false, false, false, false, false, false, false, false, false, false, false, false, false, false, false, false, false, false, false, false, false, false, false, false, false, false, false, false, false, false, false, false, false, false, false, false, false, false, false, false, false, false, false, false, false, false, false, false, false]
theorem plc_540 : (List.range' 540 60).map (fun g => (Tryz.prog.funcs[g]?).elim false fun fn => fn.ours || fn.body.isNone || fn.name == "runtime.NumGoroutine") = plcL540 := by kernel_rfl
def plcL600 : List (Bool) := [false, false, false, false, false, false, false, false, false, false, false, false, false, false, false, false, false, false, false, false, false, false, false, false, false, false, false, false, false, false, false, false, false, false, false, false, false, false, false, false, false, false, false, false, false, false, false, false, false, false, false, false, false, false, false, false, false, false, false, true]
theorem plc_600 : (List.range' 600 60).map (fun g => (Tryz.prog.funcs[g]?).elim false fun fn => fn.ours || fn.body.isNone || fn.name == "runtime.NumGoroutine") = plcL600 := by kernel_rfl
def plcL660 : List (Bool) := [true, true, true, true, true, true, true, true, true, true, true, true, true, true, true, true, true, true, true, true, true, true, true, true, true, true, true, true, true, true, true, false, true, true, true, true, true, true, true, true, true, true, true, true, true, true, true, true, true, true, true, true, true, true, true, true, true, true, true, true]
theorem plc_660 : (List.range' 660 60).map (fun g => (Tryz.prog.funcs[g]?).elim false fun fn => fn.ours || fn.body.isNone || fn.name == "runtime.NumGoroutine") = plcL660 := by kernel_rfl
def plcL720 : List (Bool) := [true, true, true, true, true, true, true, true, true, true, true, true, true, true, false]
theorem plc_720 : (List.range' 720 15).map (fun g => (Tryz.prog.funcs[g]?).elim false fun fn => fn.ours || fn.body.isNone || fn.name == "runtime.NumGoroutine") = plcL720 := by kernel_rfl
def plcT (g : Nat) : Bool := if g < 60 then (plcL0[g - 0]?).getD false else if g < 120 then (plcL60[g - 60]?).getD false else if g < 180 then (plcL120[g - 120]?).getD false else if g < 240 then (plcL180[g - 180]?).getD false else if g < 300 then (plcL240[g - 240]?).getD false else if g < 360 then (plcL300[g - 300]?).getD false else if g < 420 then (plcL360[g - 360]?).getD false else if g < 480 then (plcL420[g - 420]?).getD false else if g < 540 then (plcL480[g - 480]?).getD false else if g < 600 then (plcL540[g - 540]?).getD false else if g < 660 then (plcL600[g - 600]?).getD false else if g < 720 then (plcL660[g - 660]?).getD false else if g < 735 then (plcL720[g - 720]?).getD false else false
theorem plc_eq (g : Nat) : ((Tryz.prog.funcs[g]?).elim false fun fn => fn.ours || fn.body.isNone || fn.name == "runtime.NumGoroutine") = plcT g := by
  unfold plcT
  by_cases h0 : g < 60
  · rw [if_pos h0]; exact tab_get (fun g => (Tryz.prog.funcs[g]?).elim false fun fn => fn.ours || fn.body.isNone || fn.name == "runtime.NumGoroutine") 0 60 _ plc_0 false g (by omega) (by omega)
  rw [if_neg h0]
  by_cases h60 : g < 120
  · rw [if_pos h60]; exact tab_get (fun g => (Tryz.prog.funcs[g]?).elim false fun fn => fn.ours || fn.body.isNone || fn.name == "runtime.NumGoroutine") 60 60 _ plc_60 false g (by omega) (by omega)
  rw [if_neg h60]
  by_cases h120 : g < 180
  · rw [if_pos h120]; exact tab_get (fun g => (Tryz.prog.funcs[g]?).elim false fun fn => fn.ours || fn.body.isNone || fn.name == "runtime.NumGoroutine") 120 60 _ plc_120 false g (by omega) (by omega)
  rw [if_neg h120]
  by_cases h180 : g < 240
  · rw [if_pos h180]; exact tab_get (fun g => (Tryz.prog.funcs[g]?).elim false fun fn => fn.ours || fn.body.isNone || fn.name == "runtime.NumGoroutine") 180 60 _ plc_180 false g (by omega) (by omega)
  rw [if_neg h180]
  by_cases h240 : g < 300
  · rw [if_pos h240]; exact tab_get (fun g => (Tryz.prog.funcs[g]?).elim false fun fn => fn.ours || fn.body.isNone || fn.name == "runtime.NumGoroutine") 240 60 _ plc_240 false g (by omega) (by omega)
  rw [if_neg h240]
  by_cases h300 : g < 360
  · rw [if_pos h300]; exact tab_get (fun g => (Tryz.prog.funcs[g]?).elim false fun fn => fn.ours || fn.body.isNone || fn.name == "runtime.NumGoroutine") 300 60 _ plc_300 false g (by omega) (by omega)
  rw [if_neg h300]
  by_cases h360 : g < 420
  · rw [if_pos h360]; exact tab_get (fun g => (Tryz.prog.funcs[g]?).elim false fun fn => fn.ours || fn.body.isNone || fn.name == "runtime.NumGoroutine") 360 60 _ plc_360 false g (by omega) (by omega)
  rw [if_neg h360]
  by_cases h420 : g < 480
  · rw [if_pos h420]; exact tab_get (fun g => (Tryz.prog.funcs[g]?).elim false fun fn => fn.ours || fn.body.isNone || fn.name == "runtime.NumGoroutine") 420 60 _ plc_420 false g (by omega) (by omega)
  rw [if_neg h420]
  by_cases h480 : g < 540
  · rw [if_pos h480]; exact tab_get (fun g => (Tryz.prog.funcs[g]?).elim false fun fn => fn.ours || fn.body.isNone || fn.name == "runtime.NumGoroutine") 480 60 _ plc_480 false g (by omega) (by omega)
  rw [if_neg h480]
  by_cases h540 : g < 600
  · rw [if_pos h540]; exact tab_get (fun g => (Tryz.prog.funcs[g]?).elim false fun fn => fn.ours || fn.body.isNone || fn.name == "runtime.NumGoroutine") 540 60 _ plc_540 false g (by omega) (by omega)
  rw [if_neg h540]
  by_cases h600 : g < 660
  · rw [if_pos h600]; exact tab_get (fun g => (Tryz.prog.funcs[g]?).elim false fun fn => fn.ours || fn.body.isNone || fn.name == "runtime.NumGoroutine") 600 60 _ plc_600 false g (by omega) (by omega)
  rw [if_neg h600]
  by_cases h660 : g < 720
  · rw [if_pos h660]; exact tab_get (fun g => (Tryz.prog.funcs[g]?).elim false fun fn => fn.ours || fn.body.isNone || fn.name == "runtime.NumGoroutine") 660 60 _ plc_660 false g (by omega) (by omega)
  rw [if_neg h660]
  by_cases h720 : g < 735
  · rw [if_pos h720]; exact tab_get (fun g => (Tryz.prog.funcs[g]?).elim false fun fn => fn.ours || fn.body.isNone || fn.name == "runtime.NumGoroutine") 720 15 _ plc_720 false g (by omega) (by omega)
  rw [if_neg h720]
  rw [no_func g (by omega)]; rfl
def gloL0 : List (List Nat) := [[], [], [], [], [], [], [], [], [], [], [], [], [], [], [], [], [], [], [], [], [], [], [], [], [], [], [], [], [], [], [], [0, 1], [2, 3, 4, 5, 1, 6, 0, 7], [], [], [], [], [], [], [], [], [], [], [], [], [], [], [], [], [], [], [], [], [], [], [], [], [], [], []]
theorem glo_0 : (List.range' 0 60).map (fun g => ((Tryz.prog.funcs[g]?).bind (·.body)).elim [] Code.globalsNamed) = gloL0 := by kernel_rfl
def gloL60 : List (List Nat) := [[], [], [], [], [], [], [], [], [], [], [], [], [], [], [], [], [], [], [], [], [], [], [], [], [], [], [], [], [], [], [], [], [], [], [], [], [], [], [], [], [], [], [], [], [], [], [], [], [], [], [], [], [], [], [], [], [], [], [], []]
theorem glo_60 : (List.range' 60 60).map (fun g => ((Tryz.prog.funcs[g]?).bind (·.body)).elim [] Code.globalsNamed) = gloL60 := by kernel_rfl
def gloL120 : List (List Nat) := [[], [], [], [], [], [], [], [], [], [], [], [], [], [], [], [], [], [], [], [], [], [], [], [], [], [], [], [], [], [], [], [], [], [], [], [], [], [], [], [], [], [], [], [], [], [], [], [], [], [], [], [], [2], [], [], [], [], [], [], []]
theorem glo_120 : (List.range' 120 60).map (fun g => ((Tryz.prog.funcs[g]?).bind (·.body)).elim [] Code.globalsNamed) = gloL120 := by kernel_rfl
def gloL180 : List (List Nat) := [[], [], [], [], [], [], [], [], [], [], [], [], [], [], [], [], [], [], [], [], [], [], [], [], [], [], [], [], [], [], [], [], [], [], [], [], [], [], [], [], [], [], [], [], [], [], [], [], [], [], [], [8], [9], [], [], [], [], [], [], []]
theorem glo_180 : (List.range' 180 60).map (fun g => ((Tryz.prog.funcs[g]?).bind (·.body)).elim [] Code.globalsNamed) = gloL180 := by kernel_rfl
def gloL240 : List (List Nat) := [[], [], [], [], [], [], [], [], [], [], [], [], [], [], [], [], [], [], [], [], [], [], [], [], [], [10], [], [], [], [], [], [], [], [], [], [], [], [], [], [], [], [], [], [], [], [], [], [], [], [], [], [], [], [], [], [], [], [], [], []]
theorem glo_240 : (List.range' 240 60).map (fun g => ((Tryz.prog.funcs[g]?).bind (·.body)).elim [] Code.globalsNamed) = gloL240 := by kernel_rfl
def gloL300 : List (List Nat) := [[], [], [], [], [], [], [11, 11, 11], [], [5], [], [], [], [], [], [], [], [], [], [], [], [], [], [], [], [], [], [], [], [], [], [], [], [], [], [], [], [], [], [], [], [], [], [], [], [], [], [], [], [], [], [], [], [], [], [], [], [], [], [], []]
theorem glo_300 : (List.range' 300 60).map (fun g => ((Tryz.prog.funcs[g]?).bind (·.body)).elim [] Code.globalsNamed) = gloL300 := by kernel_rfl
def gloL360 : List (List Nat) := [[], [], [], [], [], [], [], [], [], [], [], [], [], [], [], [], [], [], [], [], [], [], [], [], [], [], [], [], [], [], [], [], [], [], [], [], [], [], [], [], [], [], [], [], [], [4], [], [], [], [], [], [], [], [], [], [], [], [], [], []]
theorem glo_360 : (List.range' 360 60).map (fun g => ((Tryz.prog.funcs[g]?).bind (·.body)).elim [] Code.globalsNamed) = gloL360 := by kernel_rfl
def gloL420 : List (List Nat) := [[], [12], [13], [], [], [], [], [], [], [], [], [], [], [], [], [], [], [], [], [], [], [], [], [], [], [], [], [], [], [], [], [], [], [], [], [], [], [], [], [], [], [], [], [], [], [], [], [], [], [], [], [], [], [], [], [], [], [], [], []]
theorem glo_420 : (List.range' 420 60).map (fun g => ((Tryz.prog.funcs[g]?).bind (·.body)).elim [] Code.globalsNamed) = gloL420 := by kernel_rfl
def gloL480 : List (List Nat) := [[], [], [], [], [], [], [], [], [], [], [], [], [], [], [], [], [], [], [], [], [], [], [], [], [], [], [], [6], [], [], [], [], [], [1], [1], [], [], [], [], [], [], [], [], [], [], [], [], [], [], [1], [], [], [], [], [], [], [], [], [], []]
theorem glo_480 : (List.range' 480 60).map (fun g => ((Tryz.prog.funcs[g]?).bind (·.body)).elim [] Code.globalsNamed) = gloL480 := by kernel_rfl
def gloL540 : List (List Nat) := [[], [], [], [], [], [], [], [], [], [], [], [], [], [], [], [], [7], [], [], [5], [], [], [], [], [], [], [], [], [], [], [], [], [], [], [], [], [], [], [], [], [], [], [], [], [], [], [], [], [], [], [], [], [], [], [], [], [], [], [], []]
theorem glo_540 : (List.range' 540 60).map (fun g => ((Tryz.prog.funcs[g]?).bind (·.body)).elim [] Code.globalsNamed) = gloL540 := by kernel_rfl
def gloL600 : List (List Nat) := [[], [], [], [], [], [], [], [], [], [], [], [], [1], [], [5], [], [], [], [], [], [], [], [], [], [], [], [], [], [3], [], [], [], [], [], [], [], [], [], [], [], [], [], [], [], [], [], [], [], [], [], [], [], [], [], [], [], [], [], [], []]
theorem glo_600 : (List.range' 600 60).map (fun g => ((Tryz.prog.funcs[g]?).bind (·.body)).elim [] Code.globalsNamed) = gloL600 := by kernel_rfl
def gloL660 : List (List Nat) := [[], [], [], [], [], [], [], [], [], [], [], [], [], [], [], [], [], [], [], [], [], [], [], [], [], [], [], [], [], [], [], [], [], [], [], [], [], [], [], [], [], [], [], [], [], [], [], [], [], [], [], [], [], [], [], [], [], [], [], []]
theorem glo_660 : (List.range' 660 60).map (fun g => ((Tryz.prog.funcs[g]?).bind (·.body)).elim [] Code.globalsNamed) = gloL660 := by kernel_rfl
def gloL720 : List (List Nat) := [[], [], [], [], [], [], [], [], [], [], [], [], [], [], [12, 13, 10, 2, 3, 4, 5, 1, 6, 0, 7, 9, 8]]
theorem glo_720 : (List.range' 720 15).map (fun g => ((Tryz.prog.funcs[g]?).bind (·.body)).elim [] Code.globalsNamed) = gloL720 := by kernel_rfl
def gloT (g : Nat) : List Nat := if g < 60 then (gloL0[g - 0]?).getD [] else if g < 120 then (gloL60[g - 60]?).getD [] else if g < 180 then (gloL120[g - 120]?).getD [] else if g < 240 then (gloL180[g - 180]?).getD [] else if g < 300 then (gloL240[g - 240]?).getD [] else if g < 360 then (gloL300[g - 300]?).getD [] else if g < 420 then (gloL360[g - 360]?).getD [] else if g < 480 then (gloL420[g - 420]?).getD [] else if g < 540 then (gloL480[g - 480]?).getD [] else if g < 600 then (gloL540[g - 540]?).getD [] else if g < 660 then (gloL600[g - 600]?).getD [] else if g < 720 then (gloL660[g - 660]?).getD [] else if g < 735 then (gloL720[g - 720]?).getD [] else []
theorem glo_eq (g : Nat) : (((Tryz.prog.funcs[g]?).bind (·.body)).elim [] Code.globalsNamed) = gloT g := by
  unfold gloT
  by_cases h0 : g < 60
  · rw [if_pos h0]; exact tab_get (fun g => ((Tryz.prog.funcs[g]?).bind (·.body)).elim [] Code.globalsNamed) 0 60 _ glo_0 [] g (by omega) (by omega)
  rw [if_neg h0]
  by_cases h60 : g < 120
  · rw [if_pos h60]; exact tab_get (fun g => ((Tryz.prog.funcs[g]?).bind (·.body)).elim [] Code.globalsNamed) 60 60 _ glo_60 [] g (by omega) (by omega)
  rw [if_neg h60]
  by_cases h120 : g < 180
  · rw [if_pos h120]; exact tab_get (fun g => ((Tryz.prog.funcs[g]?).bind (·.body)).elim [] Code.globalsNamed) 120 60 _ glo_120 [] g (by omega) (by omega)
  rw [if_neg h120]
  by_cases h180 : g < 240
  · rw [if_pos h180]; exact tab_get (fun g => ((Tryz.prog.funcs[g]?).bind (·.body)).elim [] Code.globalsNamed) 180 60 _ glo_180 [] g (by omega) (by omega)
  rw [if_neg h180]
  by_cases h240 : g < 300
  · rw [if_pos h240]; exact tab_get (fun g => ((Tryz.prog.funcs[g]?).bind (·.body)).elim [] Code.globalsNamed) 240 60 _ glo_240 [] g (by omega) (by omega)
  rw [if_neg h240]
  by_cases h300 : g < 360
  · rw [if_pos h300]; exact tab_get (fun g => ((Tryz.prog.funcs[g]?).bind (·.body)).elim [] Code.globalsNamed) 300 60 _ glo_300 [] g (by omega) (by omega)
  rw [if_neg h300]
  by_cases h360 : g < 420
  · rw [if_pos h360]; exact tab_get (fun g => ((Tryz.prog.funcs[g]?).bind (·.body)).elim [] Code.globalsNamed) 360 60 _ glo_360 [] g (by omega) (by omega)
  rw [if_neg h360]
  by_cases h420 : g < 480
  · rw [if_pos h420]; exact tab_get (fun g => ((Tryz.prog.funcs[g]?).bind (·.body)).elim [] Code.globalsNamed) 420 60 _ glo_420 [] g (by omega) (by omega)
  rw [if_neg h420]
  by_cases h480 : g < 540
  · rw [if_pos h480]; exact tab_get (fun g => ((Tryz.prog.funcs[g]?).bind (·.body)).elim [] Code.globalsNamed) 480 60 _ glo_480 [] g (by omega) (by omega)
  rw [if_neg h480]
  by_cases h540 : g < 600
  · rw [if_pos h540]; exact tab_get (fun g => ((Tryz.prog.funcs[g]?).bind (·.body)).elim [] Code.globalsNamed) 540 60 _ glo_540 [] g (by omega) (by omega)
  rw [if_neg h540]
  by_cases h600 : g < 660
  · rw [if_pos h600]; exact tab_get (fun g => ((Tryz.prog.funcs[g]?).bind (·.body)).elim [] Code.globalsNamed) 600 60 _ glo_600 [] g (by omega) (by omega)
  rw [if_neg h600]
  by_cases h660 : g < 720
  · rw [if_pos h660]; exact tab_get (fun g => ((Tryz.prog.funcs[g]?).bind (·.body)).elim [] Code.globalsNamed) 660 60 _ glo_660 [] g (by omega) (by omega)
  rw [if_neg h660]
  by_cases h720 : g < 735
  · rw [if_pos h720]; exact tab_get (fun g => ((Tryz.prog.funcs[g]?).bind (·.body)).elim [] Code.globalsNamed) 720 15 _ glo_720 [] g (by omega) (by omega)
  rw [if_neg h720]
  rw [no_func g (by omega)]; rfl
def entL0 : List (Option String) := [.none, .none, .none, .none, .none, .none, .none, .none, .none, .none, .none, .none, .none, .none, .none, .none, .none, .none, .none, .none, .none, .none, .none, .none, .none, .none, .none, .none, .none, .none, .none, .none, .none, .none, .none, .none, .none, .none, .none, .none, .none, .none, .none, .none, .none, .none, .none, .none, .none, .none, .none, .none, .none, .none, .none, .none, .none, .none, .none, .none]
theorem ent_0 : (List.range' 0 60).map (fun g => (Tryz.prog.funcs[g]?).bind fun fn => if fn.body.isNone then entryReads.lookup fn.name else .none) = entL0 := by kernel_rfl
def entL60 : List (Option String) := [.none, .none, .none, .none, .none, .none, .none, .none, .none, .none, .none, .none, .none, .none, .none, .none, .none, .none, .none, .none, .none, .none, .none, .none, .none, .none, .none, .none, .none, .none, .none, .none, .none, .none, .none, .none, .none, .none, .none, .none, .none, .none, .none, .none, .none, .none, .none, .none, .none, .none, .none, .none, .none, .none, .none, .none, .none, .none, .none, .none]
theorem ent_60 : (List.range' 60 60).map (fun g => (Tryz.prog.funcs[g]?).bind fun fn => if fn.body.isNone then entryReads.lookup fn.name else .none) = entL60 := by kernel_rfl
def entL120 : List (Option String) := [.none, .none, .none, .none, .none, .none, .none, .none, .none, .none, .none, .none, .none, .none, .none, .none, .none, .none, .none, .none, .none, .none, .none, .none, .none, .none, .none, .none, .none, .none, .none, .none, .none, .none, .none, .none, .none, .none, .none, .none, .none, .none, .none, .none, .none, .none, .none, .none, .none, .none, .none, .none, .none, .none, .none, .none, .none, .none, .none, .none]
theorem ent_120 : (List.range' 120 60).map (fun g => (Tryz.prog.funcs[g]?).bind fun fn => if fn.body.isNone then entryReads.lookup fn.name else .none) = entL120 := by kernel_rfl
def entL180 : List (Option String) := [.none, .none, .none, .none, .none, .none, .none, .none, .none, .none, .none, .none, .none, .none, .none, .none, .none, .none, .none, .none, .none, .none, .none, .none, .none, .none, .none, .none, .none, .none, .none, .none, .none, .none, .none, .none, .none, .none, .none, .none, .none, .none, .none, .none, .none, .none, .none, .none, .none, .none, .none, .none, .none, .none, .none, .none, .none, .none, .none, .none]
theorem ent_180 : (List.range' 180 60).map (fun g => (Tryz.prog.funcs[g]?).bind fun fn => if fn.body.isNone then entryReads.lookup fn.name else .none) = entL180 := by kernel_rfl
def entL240 : List (Option String) := [.none, .none, .none, .none, .none, .none, .none, .none, .none, .none, .none, .none, .none, .none, .none, .none, .none, .none, .none, .none, .none, .none, .none, .none, .none, .none, .none, .none, .none, .none, .none, .none, .none, .none, .none, .none, .none, .none, .none, .none, .none, .none, .none, .none, .none, .none, .none, .none, .none, .none, .none, .none, .none, .none, .none, .none, .none, .none, .none, .none]
theorem ent_240 : (List.range' 240 60).map (fun g => (Tryz.prog.funcs[g]?).bind fun fn => if fn.body.isNone then entryReads.lookup fn.name else .none) = entL240 := by kernel_rfl
def entL300 : List (Option String) := [.none, .none, .none, .none, .none, .none, .none, .none, .none, .none, .none, .none, .none, .none, .none, .none, .none, .none, .none, .none, .none, .none, .none, .none, .none, .none, .none, .none, .none, .none, .none, .none, .none, .none, .none, .none, .none, .none, .none, .none, .none, .none, .none, .none, .none, .none, .none, .none, .none, .none, .none, .none, .none, .none, .none, .none, .none, .none, .none, .none]
theorem ent_300 : (List.range' 300 60).map (fun g => (Tryz.prog.funcs[g]?).bind fun fn => if fn.body.isNone then entryReads.lookup fn.name else .none) = entL300 := by kernel_rfl
def entL360 : List (Option String) := [.none, .none, .none, .none, .none, .none, .none, .none, .none, .none, .none, .none, .none, .none, .none, .none, .none, .none, .none, .none, .none, .none, .none, .none, .none, .none, .none, .none, .none, .none, .none, .none, .none, .none, .none, .none, .none, .none, .none, .none, .none, .none, some "internal/bytealg.MaxLen", .none, .none, .none, .none, .none, .none, .none, .none, .none, .none, .none, .none, .none, .none, .none, .none, .none]
theorem ent_360 : (List.range' 360 60).map (fun g => (Tryz.prog.funcs[g]?).bind fun fn => if fn.body.isNone then entryReads.lookup fn.name else .none) = entL360 := by kernel_rfl
def entL420 : List (Option String) := [.none, .none, .none, .none, .none, .none, .none, .none, .none, .none, .none, .none, .none, .none, .none, .none, .none, .none, .none, .none, .none, .none, .none, .none, .none, .none, .none, .none, .none, .none, .none, .none, .none, .none, .none, .none, .none, .none, .none, .none, .none, .none, .none, .none, .none, .none, .none, .none, .none, .none, .none, .none, .none, .none, .none, .none, .none, .none, .none, .none]
theorem ent_420 : (List.range' 420 60).map (fun g => (Tryz.prog.funcs[g]?).bind fun fn => if fn.body.isNone then entryReads.lookup fn.name else .none) = entL420 := by kernel_rfl
def entL480 : List (Option String) := [.none, .none, .none, .none, .none, .none, .none, .none, .none, .none, .none, .none, .none, .none, .none, .none, .none, .none, .none, .none, .none, .none, .none, .none, .none, .none, .none, .none, .none, .none, .none, .none, .none, .none, .none, .none, .none, .none, .none, .none, .none, .none, .none, .none, .none, .none, .none, .none, .none, .none, .none, .none, .none, .none, .none, .none, .none, .none, .none, .none]
theorem ent_480 : (List.range' 480 60).map (fun g => (Tryz.prog.funcs[g]?).bind fun fn => if fn.body.isNone then entryReads.lookup fn.name else .none) = entL480 := by kernel_rfl
def entL540 : List (Option String) := [.none, .none, .none, .none, .none, .none, .none, .none, .none, .none, .none, .none, .none, .none, .none, .none, .none, .none, .none, .none, .none, .none, .none, .none, .none, .none, .none, .none, .none, .none, .none, .none, .none, .none, .none, .none, .none, .none, .none, .none, .none, .none, .none, .none, .none, .none, .none, .none, .none, .none, .none, .none, .none, .none, .none, .none, .none, .none, .none, .none]
theorem ent_540 : (List.range' 540 60).map (fun g => (Tryz.prog.funcs[g]?).bind fun fn => if fn.body.isNone then entryReads.lookup fn.name else .none) = entL540 := by kernel_rfl
def entL600 : List (Option String) := [.none, .none, .none, .none, .none, .none, .none, .none, .none, .none, .none, .none, .none, .none, .none, .none, .none, .none, .none, .none, .none, .none, .none, .none, .none, .none, .none, .none, .none, .none, .none, .none, .none, .none, .none, .none, .none, .none, .none, .none, .none, .none, .none, .none, .none, .none, .none, .none, .none, .none, .none, .none, .none, .none, .none, .none, .none, .none, .none, .none]
theorem ent_600 : (List.range' 600 60).map (fun g => (Tryz.prog.funcs[g]?).bind fun fn => if fn.body.isNone then entryReads.lookup fn.name else .none) = entL600 := by kernel_rfl
def entL660 : List (Option String) := [.none, .none, .none, .none, .none, .none, .none, .none, .none, .none, .none, .none, .none, .none, .none, .none, .none, .none, .none, .none, .none, .none, .none, .none, .none, .none, .none, .none, .none, .none, .none, .none, .none, .none, .none, .none, .none, .none, .none, .none, .none, .none, .none, .none, .none, .none, .none, .none, .none, .none, .none, .none, .none, .none, .none, .none, .none, .none, .none, .none]
theorem ent_660 : (List.range' 660 60).map (fun g => (Tryz.prog.funcs[g]?).bind fun fn => if fn.body.isNone then entryReads.lookup fn.name else .none) = entL660 := by kernel_rfl
def entL720 : List (Option String) := [.none, .none, .none, .none, .none, .none, .none, .none, .none, .none, .none, .none, .none, .none, .none]
theorem ent_720 : (List.range' 720 15).map (fun g => (Tryz.prog.funcs[g]?).bind fun fn => if fn.body.isNone then entryReads.lookup fn.name else .none) = entL720 := by kernel_rfl
def entT (g : Nat) : Option String := if g < 60 then (entL0[g - 0]?).getD .none else if g < 120 then (entL60[g - 60]?).getD .none else if g < 180 then (entL120[g - 120]?).getD .none else if g < 240 then (entL180[g - 180]?).getD .none else if g < 300 then (entL240[g - 240]?).getD .none else if g < 360 then (entL300[g - 300]?).getD .none else if g < 420 then (entL360[g - 360]?).getD .none else if g < 480 then (entL420[g - 420]?).getD .none else if g < 540 then (entL480[g - 480]?).getD .none else if g < 600 then (entL540[g - 540]?).getD .none else if g < 660 then (entL600[g - 600]?).getD .none else if g < 720 then (entL660[g - 660]?).getD .none else if g < 735 then (entL720[g - 720]?).getD .none else .none
theorem ent_eq (g : Nat) : ((Tryz.prog.funcs[g]?).bind fun fn => if fn.body.isNone then entryReads.lookup fn.name else .none) = entT g := by
  unfold entT
  by_cases h0 : g < 60
  · rw [if_pos h0]; exact tab_get (fun g => (Tryz.prog.funcs[g]?).bind fun fn => if fn.body.isNone then entryReads.lookup fn.name else .none) 0 60 _ ent_0 .none g (by omega) (by omega)
  rw [if_neg h0]
  by_cases h60 : g < 120
  · rw [if_pos h60]; exact tab_get (fun g => (Tryz.prog.funcs[g]?).bind fun fn => if fn.body.isNone then entryReads.lookup fn.name else .none) 60 60 _ ent_60 .none g (by omega) (by omega)
  rw [if_neg h60]
  by_cases h120 : g < 180
  · rw [if_pos h120]; exact tab_get (fun g => (Tryz.prog.funcs[g]?).bind fun fn => if fn.body.isNone then entryReads.lookup fn.name else .none) 120 60 _ ent_120 .none g (by omega) (by omega)
  rw [if_neg h120]
  by_cases h180 : g < 240
  · rw [if_pos h180]; exact tab_get (fun g => (Tryz.prog.funcs[g]?).bind fun fn => if fn.body.isNone then entryReads.lookup fn.name else .none) 180 60 _ ent_180 .none g (by omega) (by omega)
  rw [if_neg h180]
  by_cases h240 : g < 300
  · rw [if_pos h240]; exact tab_get (fun g => (Tryz.prog.funcs[g]?).bind fun fn => if fn.body.isNone then entryReads.lookup fn.name else .none) 240 60 _ ent_240 .none g (by omega) (by omega)
  rw [if_neg h240]
  by_cases h300 : g < 360
  · rw [if_pos h300]; exact tab_get (fun g => (Tryz.prog.funcs[g]?).bind fun fn => if fn.body.isNone then entryReads.lookup fn.name else .none) 300 60 _ ent_300 .none g (by omega) (by omega)
  rw [if_neg h300]
  by_cases h360 : g < 420
  · rw [if_pos h360]; exact tab_get (fun g => (Tryz.prog.funcs[g]?).bind fun fn => if fn.body.isNone then entryReads.lookup fn.name else .none) 360 60 _ ent_360 .none g (by omega) (by omega)
  rw [if_neg h360]
  by_cases h420 : g < 480
  · rw [if_pos h420]; exact tab_get (fun g => (Tryz.prog.funcs[g]?).bind fun fn => if fn.body.isNone then entryReads.lookup fn.name else .none) 420 60 _ ent_420 .none g (by omega) (by omega)
  rw [if_neg h420]
  by_cases h480 : g < 540
  · rw [if_pos h480]; exact tab_get (fun g => (Tryz.prog.funcs[g]?).bind fun fn => if fn.body.isNone then entryReads.lookup fn.name else .none) 480 60 _ ent_480 .none g (by omega) (by omega)
  rw [if_neg h480]
  by_cases h540 : g < 600
  · rw [if_pos h540]; exact tab_get (fun g => (Tryz.prog.funcs[g]?).bind fun fn => if fn.body.isNone then entryReads.lookup fn.name else .none) 540 60 _ ent_540 .none g (by omega) (by omega)
  rw [if_neg h540]
  by_cases h600 : g < 660
  · rw [if_pos h600]; exact tab_get (fun g => (Tryz.prog.funcs[g]?).bind fun fn => if fn.body.isNone then entryReads.lookup fn.name else .none) 600 60 _ ent_600 .none g (by omega) (by omega)
  rw [if_neg h600]
  by_cases h660 : g < 720
  · rw [if_pos h660]; exact tab_get (fun g => (Tryz.prog.funcs[g]?).bind fun fn => if fn.body.isNone then entryReads.lookup fn.name else .none) 660 60 _ ent_660 .none g (by omega) (by omega)
  rw [if_neg h660]
  by_cases h720 : g < 735
  · rw [if_pos h720]; exact tab_get (fun g => (Tryz.prog.funcs[g]?).bind fun fn => if fn.body.isNone then entryReads.lookup fn.name else .none) 720 15 _ ent_720 .none g (by omega) (by omega)
  rw [if_neg h720]
  rw [no_func g (by omega)]; rfl
theorem plc_name (g : Nat) : ((Tryz.prog.funcs[g]?).bind fun fn => if fn.ours || fn.body.isNone || fn.name == "runtime.NumGoroutine" then some fn.name else .none) = if plcT g then (Tryz.prog.funcs[g]?).map (·.name) else .none := by
  rw [← plc_eq g]
  cases Tryz.prog.funcs[g]? with
  | none => rfl
  | some fn =>
    show (if fn.ours || fn.body.isNone || fn.name == "runtime.NumGoroutine" then some fn.name else .none) = if (fn.ours || fn.body.isNone || fn.name == "runtime.NumGoroutine") then some fn.name else .none
    rfl
end Go.Proofs.YthhiofppbpgipaaGreatDoor
