/-
  FlatDoubles with 9 nodes.
-/
import Derived.Test.YtjgknelmjdallaaGreatDoorFdFw2
import Derived.Test.YtjgknelmjdallaaGreatDoorFdTd
import Derived.Test.YtjgknelmjdallaaGreatDoorFdFk9
import Derived.Test.YtjgknelmjdallaaGreatDoorFdFk9x0
import Derived.Test.YtjgknelmjdallaaGreatDoorFdFk9x1
import Derived.Test.YtjgknelmjdallaaGreatDoorFdFk9x2
import Derived.Test.YtjgknelmjdallaaGreatDoorFdFk9x3
noncomputable section
namespace Go.Ax
open Go.Proofs
set_option maxRecDepth 100000
set_option linter.unusedVariables false
theorem fk9_0_kn : KnOk Tryz.prog 171 fk9_0 := knOk_of (E := E1) ⟨e1_ok, e1_intr⟩ e1_mix rfl (by kernel_rfl) fk9_0_ok
theorem fk9_1_kn : KnOk Tryz.prog 171 fk9_1 := knOk_of (E := E1) ⟨e1_ok, e1_intr⟩ e1_mix rfl (by kernel_rfl) fk9_1_ok
theorem fk9_2_kn : KnOk Tryz.prog 171 fk9_2 := knOk_of (E := E1) ⟨e1_ok, e1_intr⟩ e1_mix rfl (by kernel_rfl) fk9_2_ok
theorem fk9_3_kn : KnOk Tryz.prog 171 fk9_3 := knOk_of (E := E1) ⟨e1_ok, e1_intr⟩ e1_mix rfl (by kernel_rfl) fk9_3_ok
theorem fk9_4_kn : KnOk Tryz.prog 171 fk9_4 := knOk_of (E := E1) ⟨e1_ok, e1_intr⟩ e1_mix rfl (by kernel_rfl) fk9_4_ok
theorem fk9_5_kn : KnOk Tryz.prog 171 fk9_5 := knOk_of (E := E1) ⟨e1_ok, e1_intr⟩ e1_mix rfl (by kernel_rfl) fk9_5_ok
theorem fk9_6_kn : KnOk Tryz.prog 171 fk9_6 := knOk_of (E := E1) ⟨e1_ok, e1_intr⟩ e1_mix rfl (by kernel_rfl) fk9_6_ok
theorem fk9_7_kn : KnOk Tryz.prog 171 fk9_7 := knOk_of (E := E1) ⟨e1_ok, e1_intr⟩ e1_mix rfl (by kernel_rfl) fk9_7_ok
theorem fk9_8_kn : KnOk Tryz.prog 171 fk9_8 := knOk_of (E := E1) ⟨e1_ok, e1_intr⟩ e1_mix rfl (by kernel_rfl) fk9_8_ok
theorem fk9_9_kn : KnOk Tryz.prog 171 fk9_9 := knOk_of (E := E1) ⟨e1_ok, e1_intr⟩ e1_mix rfl (by kernel_rfl) fk9_9_ok
theorem fk9_10_kn : KnOk Tryz.prog 171 fk9_10 := knOk_of (E := E1) ⟨e1_ok, e1_intr⟩ e1_mix rfl (by kernel_rfl) fk9_10_ok
theorem fk9_11_kn : KnOk Tryz.prog 171 fk9_11 := knOk_of (E := E1) ⟨e1_ok, e1_intr⟩ e1_mix rfl (by kernel_rfl) fk9_11_ok
theorem fk9_12_kn : KnOk Tryz.prog 171 fk9_12 := knOk_of (E := E1) ⟨e1_ok, e1_intr⟩ e1_mix rfl (by kernel_rfl) fk9_12_ok
theorem fk9_13_kn : KnOk Tryz.prog 171 fk9_13 := knOk_of (E := E1) ⟨e1_ok, e1_intr⟩ e1_mix rfl (by kernel_rfl) fk9_13_ok
theorem fk9_14_kn : KnOk Tryz.prog 171 fk9_14 := knOk_of (E := E1) ⟨e1_ok, e1_intr⟩ e1_mix rfl (by kernel_rfl) fk9_14_ok
theorem fk9_15_kn : KnOk Tryz.prog 171 fk9_15 := knOk_of (E := E1) ⟨e1_ok, e1_intr⟩ e1_mix rfl (by kernel_rfl) fk9_15_ok
def fg9_0 : Kn := ⟨4555, [.ptr 4514 0, .agg [kI 13, kI 97, kI 0, kS [99], bF, .sl 1 0 6 [.agg [kI 3, kI 99, kI 0, kS [120], bF, .nils]]], .nils], [(1349, .tip 8), (1758, .tip 8), (2168, .tip 8), (2578, .tip 8), (2988, .tip 8), (3398, .tip 8), (3808, .tip 8), (4218, .tip 8), (4417, .tip 8), fc9_0, (4466, .box [kS [97], kI 5, kI 6, .sl 4480 0 1 [kI 0], .sl 4482 0 1 [kI 1], .sl 4527 0 4 [qC 3 1 0], .nils, .nils, .nils, kI 10]), fc9_1, (4480, .tip 1), (4482, .tip 1), (4512, .mp [(.string ⟨#[120]⟩, kI 3), (.string ⟨#[121]⟩, kI 4)]), (4513, .mp []), (4514, .box [.ptr 4467 0, kS [98], kI 62, .sl 1 0 6 [.agg [kS [120], kI 64, bF, bF, kS [], bF]], .sl 1 0 6 [.agg [kS [121], kI 81, bF, bF, kS [], bF]], .nils, .sl 1758 0 8 [.agg [.sl 1 0 2 [.agg [kS [121], kI 93]], bF, kI 6, kI 102, kI 0, sP, bF, .sl 1 0 6 [.agg [kI 13, kI 97, kI 0, kS [99], bF, .sl 1 0 6 [.agg [kI 3, kI 99, kI 0, kS [120], bF, .nils]]], .agg [kI 13, kI 104, kI 0, kS [99], bF, .sl 1 0 6 [.agg [kI 3, kI 106, kI 0, kS [120], bF, .nils]]]]]], .map 4512, .map 4513, .nils]), (4527, .tip 4)], .sl 10705 0 3 [aV 7], 10706, [oC (1349, .tip 8), oC (1758, .tip 8), oC (2168, .tip 8), oC (2578, .tip 8), oC (2988, .tip 8), oC (3398, .tip 8), oC (3808, .tip 8), oC (4218, .tip 8), oC (4417, .tip 8), oC fc9_0, oC (4466, .box [kS [97], kI 5, kI 323, .sl 4480 0 1 [kI 0], .sl 4482 0 1 [kI 1], .sl 10702 0 4 (fkR9.take 318), .nils, .nils, .nils, kI 389]), oC fc9_1, oC (4480, .tip 1), oC (4482, .tip 1), oC (4512, .mp [(.string ⟨#[120]⟩, kI 3), (.string ⟨#[121]⟩, kI 4)]), oC (4513, .mp []), oC (4514, .box [.ptr 4467 0, kS [98], kI 62, .sl 1 0 6 [.agg [kS [120], kI 64, bF, bF, kS [], bF]], .sl 1 0 6 [.agg [kS [121], kI 81, bF, bF, kS [], bF]], .nils, .sl 1758 0 8 [.agg [.sl 1 0 2 [.agg [kS [121], kI 93]], bF, kI 6, kI 102, kI 0, sP, bF, .sl 1 0 6 [.agg [kI 13, kI 97, kI 0, kS [99], bF, .sl 1 0 6 [.agg [kI 3, kI 99, kI 0, kS [120], bF, .nils]]], .agg [kI 13, kI 104, kI 0, kS [99], bF, .sl 1 0 6 [.agg [kI 3, kI 106, kI 0, kS [120], bF, .nils]]]]]], .map 4512, .map 4513, .nils]), oC (10702, .tip 1272), oC (10705, .tip 3), (4527, none)]⟩
theorem fg9_0_ok : fg9_0.saysF (callX (levelsF E1 171 [fk9_0, fk9_1, fk9_2, fk9_3] 3) 2000 171 fg9_0.args fg9_0.st) = true := by kernel_rfl
theorem fg9_0_kn : KnOk Tryz.prog 171 fg9_0 := knOk_ofF (E := levelsF E1 171 [fk9_0, fk9_1, fk9_2, fk9_3] 3) (levelsG ⟨e1_ok, e1_intr⟩ e1_mix rfl (by kernel_rfl) [fk9_0, fk9_1, fk9_2, fk9_3] (fun k hk => by
    simp only [List.mem_cons, List.not_mem_nil, or_false] at hk
    rcases hk with rfl | rfl | rfl | rfl
    · exact fk9_0_kn
    · exact fk9_1_kn
    · exact fk9_2_kn
    · exact fk9_3_kn
) 3) e1_mix rfl (by kernel_rfl) fg9_0_ok
def fg9_1 : Kn := ⟨10710, [.ptr 4514 0, .agg [kI 13, kI 104, kI 0, kS [99], bF, .sl 1 0 6 [.agg [kI 3, kI 106, kI 0, kS [120], bF, .nils]]], .nils], [(1349, .tip 8), (1758, .tip 8), (2168, .tip 8), (2578, .tip 8), (2988, .tip 8), (3398, .tip 8), (3808, .tip 8), (4218, .tip 8), (4417, .tip 8), fc9_0, (4466, .box [kS [97], kI 5, kI 323, .sl 4480 0 1 [kI 0], .sl 4482 0 1 [kI 1], .sl 10702 0 4 (fkR9.take 318), .nils, .nils, .nils, kI 389]), fc9_1, (4480, .tip 1), (4482, .tip 1), (4512, .mp [(.string ⟨#[120]⟩, kI 3), (.string ⟨#[121]⟩, kI 4)]), (4513, .mp []), (4514, .box [.ptr 4467 0, kS [98], kI 62, .sl 1 0 6 [.agg [kS [120], kI 64, bF, bF, kS [], bF]], .sl 1 0 6 [.agg [kS [121], kI 81, bF, bF, kS [], bF]], .nils, .sl 1758 0 8 [.agg [.sl 1 0 2 [.agg [kS [121], kI 93]], bF, kI 6, kI 102, kI 0, sP, bF, .sl 1 0 6 [.agg [kI 13, kI 97, kI 0, kS [99], bF, .sl 1 0 6 [.agg [kI 3, kI 99, kI 0, kS [120], bF, .nils]]], .agg [kI 13, kI 104, kI 0, kS [99], bF, .sl 1 0 6 [.agg [kI 3, kI 106, kI 0, kS [120], bF, .nils]]]]]], .map 4512, .map 4513, .nils]), (10702, .tip 1272)], .sl 16860 0 3 [aV 324], 16861, [oC (1349, .tip 8), oC (1758, .tip 8), oC (2168, .tip 8), oC (2578, .tip 8), oC (2988, .tip 8), oC (3398, .tip 8), oC (3808, .tip 8), oC (4218, .tip 8), oC (4417, .tip 8), oC fc9_0, oC (4466, .box [kS [97], kI 5, kI 640, .sl 4480 0 1 [kI 0], .sl 4482 0 1 [kI 1], .sl 16857 0 4 (fkR9.take 635), .nils, .nils, .nils, kI 768]), oC fc9_1, oC (4480, .tip 1), oC (4482, .tip 1), oC (4512, .mp [(.string ⟨#[120]⟩, kI 3), (.string ⟨#[121]⟩, kI 4)]), oC (4513, .mp []), oC (4514, .box [.ptr 4467 0, kS [98], kI 62, .sl 1 0 6 [.agg [kS [120], kI 64, bF, bF, kS [], bF]], .sl 1 0 6 [.agg [kS [121], kI 81, bF, bF, kS [], bF]], .nils, .sl 1758 0 8 [.agg [.sl 1 0 2 [.agg [kS [121], kI 93]], bF, kI 6, kI 102, kI 0, sP, bF, .sl 1 0 6 [.agg [kI 13, kI 97, kI 0, kS [99], bF, .sl 1 0 6 [.agg [kI 3, kI 99, kI 0, kS [120], bF, .nils]]], .agg [kI 13, kI 104, kI 0, kS [99], bF, .sl 1 0 6 [.agg [kI 3, kI 106, kI 0, kS [120], bF, .nils]]]]]], .map 4512, .map 4513, .nils]), oC (16857, .tip 2540), oC (16860, .tip 3), (10702, none)]⟩
theorem fg9_1_ok : fg9_1.saysF (callX (levelsF E1 171 [fk9_4, fk9_5, fk9_6, fk9_7] 3) 2000 171 fg9_1.args fg9_1.st) = true := by kernel_rfl
theorem fg9_1_kn : KnOk Tryz.prog 171 fg9_1 := knOk_ofF (E := levelsF E1 171 [fk9_4, fk9_5, fk9_6, fk9_7] 3) (levelsG ⟨e1_ok, e1_intr⟩ e1_mix rfl (by kernel_rfl) [fk9_4, fk9_5, fk9_6, fk9_7] (fun k hk => by
    simp only [List.mem_cons, List.not_mem_nil, or_false] at hk
    rcases hk with rfl | rfl | rfl | rfl
    · exact fk9_4_kn
    · exact fk9_5_kn
    · exact fk9_6_kn
    · exact fk9_7_kn
) 3) e1_mix rfl (by kernel_rfl) fg9_1_ok
def fg9_2 : Kn := ⟨16918, [.ptr 16877 0, .agg [kI 13, kI 97, kI 0, kS [99], bF, .sl 1 0 6 [.agg [kI 3, kI 99, kI 0, kS [120], bF, .nils]]], .nils], [(1349, .tip 8), (1758, .tip 8), (2168, .tip 8), (2578, .tip 8), (2988, .tip 8), (3398, .tip 8), (3808, .tip 8), (4218, .tip 8), (4417, .tip 8), fc9_0, (4466, .box [kS [97], kI 5, kI 643, .sl 4480 0 1 [kI 0], .sl 4482 0 1 [kI 1], .sl 16890 0 4 (fkR9.take 638), .nils, .nils, .nils, kI 773]), fc9_1, (4480, .tip 1), (4482, .tip 1), (16875, .mp [(.string ⟨#[120]⟩, kI 640), (.string ⟨#[121]⟩, kI 641)]), (16876, .mp []), (16877, .box [.ptr 4467 0, kS [98], kI 62, .sl 1 0 6 [.agg [kS [120], kI 64, bF, bF, kS [], bF]], .sl 1 0 6 [.agg [kS [121], kI 81, bF, bF, kS [], bF]], .nils, .sl 1758 0 8 [.agg [.sl 1 0 2 [.agg [kS [121], kI 93]], bF, kI 6, kI 102, kI 0, sP, bF, .sl 1 0 6 [.agg [kI 13, kI 97, kI 0, kS [99], bF, .sl 1 0 6 [.agg [kI 3, kI 99, kI 0, kS [120], bF, .nils]]], .agg [kI 13, kI 104, kI 0, kS [99], bF, .sl 1 0 6 [.agg [kI 3, kI 106, kI 0, kS [120], bF, .nils]]]]]], .map 16875, .map 16876, .nils]), (16890, .tip 2552)], .sl 23068 0 3 [aV 644], 23069, [oC (1349, .tip 8), oC (1758, .tip 8), oC (2168, .tip 8), oC (2578, .tip 8), oC (2988, .tip 8), oC (3398, .tip 8), oC (3808, .tip 8), oC (4218, .tip 8), oC (4417, .tip 8), oC fc9_0, oC (4466, .box [kS [97], kI 5, kI 960, .sl 4480 0 1 [kI 0], .sl 4482 0 1 [kI 1], .sl 23065 0 4 (fkR9.take 955), .nils, .nils, .nils, kI 1152]), oC fc9_1, oC (4480, .tip 1), oC (4482, .tip 1), oC (16875, .mp [(.string ⟨#[120]⟩, kI 640), (.string ⟨#[121]⟩, kI 641)]), oC (16876, .mp []), oC (16877, .box [.ptr 4467 0, kS [98], kI 62, .sl 1 0 6 [.agg [kS [120], kI 64, bF, bF, kS [], bF]], .sl 1 0 6 [.agg [kS [121], kI 81, bF, bF, kS [], bF]], .nils, .sl 1758 0 8 [.agg [.sl 1 0 2 [.agg [kS [121], kI 93]], bF, kI 6, kI 102, kI 0, sP, bF, .sl 1 0 6 [.agg [kI 13, kI 97, kI 0, kS [99], bF, .sl 1 0 6 [.agg [kI 3, kI 99, kI 0, kS [120], bF, .nils]]], .agg [kI 13, kI 104, kI 0, kS [99], bF, .sl 1 0 6 [.agg [kI 3, kI 106, kI 0, kS [120], bF, .nils]]]]]], .map 16875, .map 16876, .nils]), oC (23065, .tip 3820), oC (23068, .tip 3), (16890, none)]⟩
theorem fg9_2_ok : fg9_2.saysF (callX (levelsF E1 171 [fk9_8, fk9_9, fk9_10, fk9_11] 3) 2000 171 fg9_2.args fg9_2.st) = true := by kernel_rfl
theorem fg9_2_kn : KnOk Tryz.prog 171 fg9_2 := knOk_ofF (E := levelsF E1 171 [fk9_8, fk9_9, fk9_10, fk9_11] 3) (levelsG ⟨e1_ok, e1_intr⟩ e1_mix rfl (by kernel_rfl) [fk9_8, fk9_9, fk9_10, fk9_11] (fun k hk => by
    simp only [List.mem_cons, List.not_mem_nil, or_false] at hk
    rcases hk with rfl | rfl | rfl | rfl
    · exact fk9_8_kn
    · exact fk9_9_kn
    · exact fk9_10_kn
    · exact fk9_11_kn
) 3) e1_mix rfl (by kernel_rfl) fg9_2_ok
def fg9_3 : Kn := ⟨23073, [.ptr 16877 0, .agg [kI 13, kI 104, kI 0, kS [99], bF, .sl 1 0 6 [.agg [kI 3, kI 106, kI 0, kS [120], bF, .nils]]], .nils], [(1349, .tip 8), (1758, .tip 8), (2168, .tip 8), (2578, .tip 8), (2988, .tip 8), (3398, .tip 8), (3808, .tip 8), (4218, .tip 8), (4417, .tip 8), fc9_0, (4466, .box [kS [97], kI 5, kI 960, .sl 4480 0 1 [kI 0], .sl 4482 0 1 [kI 1], .sl 23065 0 4 (fkR9.take 955), .nils, .nils, .nils, kI 1152]), fc9_1, (4480, .tip 1), (4482, .tip 1), (16875, .mp [(.string ⟨#[120]⟩, kI 640), (.string ⟨#[121]⟩, kI 641)]), (16876, .mp []), (16877, .box [.ptr 4467 0, kS [98], kI 62, .sl 1 0 6 [.agg [kS [120], kI 64, bF, bF, kS [], bF]], .sl 1 0 6 [.agg [kS [121], kI 81, bF, bF, kS [], bF]], .nils, .sl 1758 0 8 [.agg [.sl 1 0 2 [.agg [kS [121], kI 93]], bF, kI 6, kI 102, kI 0, sP, bF, .sl 1 0 6 [.agg [kI 13, kI 97, kI 0, kS [99], bF, .sl 1 0 6 [.agg [kI 3, kI 99, kI 0, kS [120], bF, .nils]]], .agg [kI 13, kI 104, kI 0, kS [99], bF, .sl 1 0 6 [.agg [kI 3, kI 106, kI 0, kS [120], bF, .nils]]]]]], .map 16875, .map 16876, .nils]), (23065, .tip 3820)], .sl 28691 0 3 [aV 961], 28692, [oC (1349, .tip 8), oC (1758, .tip 8), oC (2168, .tip 8), oC (2578, .tip 8), oC (2988, .tip 8), oC (3398, .tip 8), oC (3808, .tip 8), oC (4218, .tip 8), oC (4417, .tip 8), oC fc9_0, oC (4466, .box [kS [97], kI 5, kI 1252, .sl 4480 0 1 [kI 0], .sl 4482 0 1 [kI 1], .sl 28688 0 4 (fkR9 ++ [qP 1122 28676 1124 1201, qC 1121 1 1122, qP 962 28684 964 1121, qC 961 1 962]), .nils, .nils, .nils, kI 1503]), oC (4467, .box [.ptr 4466 0, .map 4456, kI 5, kI 14]), oC (4480, .tip 1), oC (4482, .tip 1), oC (16875, .mp [(.string ⟨#[120]⟩, kI 640), (.string ⟨#[121]⟩, kI 641)]), oC (16876, .mp []), oC (16877, .box [.ptr 4467 0, kS [98], kI 62, .sl 1 0 6 [.agg [kS [120], kI 64, bF, bF, kS [], bF]], .sl 1 0 6 [.agg [kS [121], kI 81, bF, bF, kS [], bF]], .nils, .sl 1758 0 8 [.agg [.sl 1 0 2 [.agg [kS [121], kI 93]], bF, kI 6, kI 102, kI 0, sP, bF, .sl 1 0 6 [.agg [kI 13, kI 97, kI 0, kS [99], bF, .sl 1 0 6 [.agg [kI 3, kI 99, kI 0, kS [120], bF, .nils]]], .agg [kI 13, kI 104, kI 0, kS [99], bF, .sl 1 0 6 [.agg [kI 3, kI 106, kI 0, kS [120], bF, .nils]]]]]], .map 16875, .map 16876, .nils]), oC (28688, .tip 4976), oC (28691, .tip 3), (23065, none)]⟩
theorem fg9_3_ok : fg9_3.saysF (callX (levelsF E1 171 [fk9_12, fk9_13, fk9_14, fk9_15] 3) 2000 171 fg9_3.args fg9_3.st) = true := by kernel_rfl
theorem fg9_3_kn : KnOk Tryz.prog 171 fg9_3 := knOk_ofF (E := levelsF E1 171 [fk9_12, fk9_13, fk9_14, fk9_15] 3) (levelsG ⟨e1_ok, e1_intr⟩ e1_mix rfl (by kernel_rfl) [fk9_12, fk9_13, fk9_14, fk9_15] (fun k hk => by
    simp only [List.mem_cons, List.not_mem_nil, or_false] at hk
    rcases hk with rfl | rfl | rfl | rfl
    · exact fk9_12_kn
    · exact fk9_13_kn
    · exact fk9_14_kn
    · exact fk9_15_kn
) 3) e1_mix rfl (by kernel_rfl) fg9_3_ok
theorem fkP9_ok : fkP9.says (callX E1 2000 19 fkP9.args fkP9.st) = true := by kernel_rfl
def fkB9 : Env := withI E1 19 (tab [fkP9] (fun _ _ => .fail))
theorem fkB9_snd : fkB9.Ok ∧ IntrOk fkB9 := ⟨withI_ok e1_ok _ _, withI_intr e1_intr (tab_snd e1_ok e1_intr e1_mix rfl (by kernel_rfl) (fail_snd _ _) _ (fun k hk => by simp only [List.mem_cons, List.not_mem_nil, or_false] at hk; subst hk; exact ⟨2000, fkP9_ok⟩))⟩
def fkE9 : Env := levelsF fkB9 171 [fg9_0, fg9_1, fg9_2, fg9_3] 2
theorem fkE9_snd : fkE9.Ok ∧ IntrOk fkE9 := levelsG fkB9_snd e1_mix rfl (by kernel_rfl) [fg9_0, fg9_1, fg9_2, fg9_3] (fun k hk => by
    simp only [List.mem_cons, List.not_mem_nil, or_false] at hk
    rcases hk with rfl | rfl | rfl | rfl
    · exact fg9_0_kn
    · exact fg9_1_kn
    · exact fg9_2_kn
    · exact fg9_3_kn
) 2
theorem fkE9_case : endsTrue 2 ((comp fkE9 103 flatDoublesRest none).c (callX fkE9 2000) (fr1 (9 : Int)) [] St0) = true := by kernel_rfl
end Go.Ax
