/-
  FlatDoubles with 10 nodes.
-/
import Derived.Test.YtjgknelmjdallaaGreatDoorFdFw2
import Derived.Test.YtjgknelmjdallaaGreatDoorFdTd
import Derived.Test.YtjgknelmjdallaaGreatDoorFdFk10
import Derived.Test.YtjgknelmjdallaaGreatDoorFdFk10x0
import Derived.Test.YtjgknelmjdallaaGreatDoorFdFk10x1
import Derived.Test.YtjgknelmjdallaaGreatDoorFdFk10x2
import Derived.Test.YtjgknelmjdallaaGreatDoorFdFk10x3
noncomputable section
namespace Go.Ax
open Go.Proofs
set_option maxRecDepth 100000
set_option linter.unusedVariables false
theorem fk10_0_kn : KnOk Tryz.prog 171 fk10_0 := knOk_of (E := E1) ⟨e1_ok, e1_intr⟩ e1_mix rfl (by kernel_rfl) fk10_0_ok
theorem fk10_1_kn : KnOk Tryz.prog 171 fk10_1 := knOk_of (E := E1) ⟨e1_ok, e1_intr⟩ e1_mix rfl (by kernel_rfl) fk10_1_ok
theorem fk10_2_kn : KnOk Tryz.prog 171 fk10_2 := knOk_of (E := E1) ⟨e1_ok, e1_intr⟩ e1_mix rfl (by kernel_rfl) fk10_2_ok
theorem fk10_3_kn : KnOk Tryz.prog 171 fk10_3 := knOk_of (E := E1) ⟨e1_ok, e1_intr⟩ e1_mix rfl (by kernel_rfl) fk10_3_ok
theorem fk10_4_kn : KnOk Tryz.prog 171 fk10_4 := knOk_of (E := E1) ⟨e1_ok, e1_intr⟩ e1_mix rfl (by kernel_rfl) fk10_4_ok
theorem fk10_5_kn : KnOk Tryz.prog 171 fk10_5 := knOk_of (E := E1) ⟨e1_ok, e1_intr⟩ e1_mix rfl (by kernel_rfl) fk10_5_ok
theorem fk10_6_kn : KnOk Tryz.prog 171 fk10_6 := knOk_of (E := E1) ⟨e1_ok, e1_intr⟩ e1_mix rfl (by kernel_rfl) fk10_6_ok
theorem fk10_7_kn : KnOk Tryz.prog 171 fk10_7 := knOk_of (E := E1) ⟨e1_ok, e1_intr⟩ e1_mix rfl (by kernel_rfl) fk10_7_ok
theorem fk10_8_kn : KnOk Tryz.prog 171 fk10_8 := knOk_of (E := E1) ⟨e1_ok, e1_intr⟩ e1_mix rfl (by kernel_rfl) fk10_8_ok
theorem fk10_9_kn : KnOk Tryz.prog 171 fk10_9 := knOk_of (E := E1) ⟨e1_ok, e1_intr⟩ e1_mix rfl (by kernel_rfl) fk10_9_ok
theorem fk10_10_kn : KnOk Tryz.prog 171 fk10_10 := knOk_of (E := E1) ⟨e1_ok, e1_intr⟩ e1_mix rfl (by kernel_rfl) fk10_10_ok
theorem fk10_11_kn : KnOk Tryz.prog 171 fk10_11 := knOk_of (E := E1) ⟨e1_ok, e1_intr⟩ e1_mix rfl (by kernel_rfl) fk10_11_ok
theorem fk10_12_kn : KnOk Tryz.prog 171 fk10_12 := knOk_of (E := E1) ⟨e1_ok, e1_intr⟩ e1_mix rfl (by kernel_rfl) fk10_12_ok
theorem fk10_13_kn : KnOk Tryz.prog 171 fk10_13 := knOk_of (E := E1) ⟨e1_ok, e1_intr⟩ e1_mix rfl (by kernel_rfl) fk10_13_ok
theorem fk10_14_kn : KnOk Tryz.prog 171 fk10_14 := knOk_of (E := E1) ⟨e1_ok, e1_intr⟩ e1_mix rfl (by kernel_rfl) fk10_14_ok
theorem fk10_15_kn : KnOk Tryz.prog 171 fk10_15 := knOk_of (E := E1) ⟨e1_ok, e1_intr⟩ e1_mix rfl (by kernel_rfl) fk10_15_ok
def fg10_0 : Kn := ⟨5119, [.ptr 5078 0, .agg [kI 13, kI 154, kI 0, kS [100], bF, .sl 1 0 6 [.agg [kI 3, kI 156, kI 0, kS [120], bF, .nils]]], .nils], [(1457, .tip 8), (1866, .tip 8), (2276, .tip 8), (2686, .tip 8), (3096, .tip 8), (3506, .tip 8), (3916, .tip 8), (4326, .tip 8), (4736, .tip 8), (4935, .tip 8), fc10_0, (4985, .box [kS [97], kI 5, kI 9, .sl 4999 0 1 [kI 0], .sl 5001 0 1 [kI 1], .sl 5091 0 4 [qC 3 1 0, qC 6 1 3], .nils, .nils, .nils, kI 15]), fc10_1, (4999, .tip 1), (5001, .tip 1), (5076, .mp [(.string ⟨#[120]⟩, kI 6), (.string ⟨#[121]⟩, kI 7)]), (5077, .mp []), (5078, .box [.ptr 4986 0, kS [99], kI 119, .sl 1 0 6 [.agg [kS [120], kI 121, bF, bF, kS [], bF]], .sl 1 0 6 [.agg [kS [121], kI 138, bF, bF, kS [], bF]], .nils, .sl 2276 0 8 [.agg [.sl 1 0 2 [.agg [kS [121], kI 150]], bF, kI 6, kI 159, kI 0, sP, bF, .sl 1 0 6 [.agg [kI 13, kI 154, kI 0, kS [100], bF, .sl 1 0 6 [.agg [kI 3, kI 156, kI 0, kS [120], bF, .nils]]], .agg [kI 13, kI 161, kI 0, kS [100], bF, .sl 1 0 6 [.agg [kI 3, kI 163, kI 0, kS [120], bF, .nils]]]]]], .map 5076, .map 5077, .nils]), (5091, .tip 8)], .sl 11269 0 3 [aV 10], 11270, [oC (1457, .tip 8), oC (1866, .tip 8), oC (2276, .tip 8), oC (2686, .tip 8), oC (3096, .tip 8), oC (3506, .tip 8), oC (3916, .tip 8), oC (4326, .tip 8), oC (4736, .tip 8), oC (4935, .tip 8), oC fc10_0, oC (4985, .box [kS [97], kI 5, kI 326, .sl 4999 0 1 [kI 0], .sl 5001 0 1 [kI 1], .sl 11266 0 4 (fkR10.take 319), .nils, .nils, .nils, kI 394]), oC fc10_1, oC (4999, .tip 1), oC (5001, .tip 1), oC (5076, .mp [(.string ⟨#[120]⟩, kI 6), (.string ⟨#[121]⟩, kI 7)]), oC (5077, .mp []), oC (5078, .box [.ptr 4986 0, kS [99], kI 119, .sl 1 0 6 [.agg [kS [120], kI 121, bF, bF, kS [], bF]], .sl 1 0 6 [.agg [kS [121], kI 138, bF, bF, kS [], bF]], .nils, .sl 2276 0 8 [.agg [.sl 1 0 2 [.agg [kS [121], kI 150]], bF, kI 6, kI 159, kI 0, sP, bF, .sl 1 0 6 [.agg [kI 13, kI 154, kI 0, kS [100], bF, .sl 1 0 6 [.agg [kI 3, kI 156, kI 0, kS [120], bF, .nils]]], .agg [kI 13, kI 161, kI 0, kS [100], bF, .sl 1 0 6 [.agg [kI 3, kI 163, kI 0, kS [120], bF, .nils]]]]]], .map 5076, .map 5077, .nils]), oC (11266, .tip 1276), oC (11269, .tip 3), (5091, none)]⟩
theorem fg10_0_ok : fg10_0.saysF (callX (levelsF E1 171 [fk10_0, fk10_1, fk10_2, fk10_3] 3) 2000 171 fg10_0.args fg10_0.st) = true := by kernel_rfl
theorem fg10_0_kn : KnOk Tryz.prog 171 fg10_0 := knOk_ofF (E := levelsF E1 171 [fk10_0, fk10_1, fk10_2, fk10_3] 3) (levelsG ⟨e1_ok, e1_intr⟩ e1_mix rfl (by kernel_rfl) [fk10_0, fk10_1, fk10_2, fk10_3] (fun k hk => by
    simp only [List.mem_cons, List.not_mem_nil, or_false] at hk
    rcases hk with rfl | rfl | rfl | rfl
    · exact fk10_0_kn
    · exact fk10_1_kn
    · exact fk10_2_kn
    · exact fk10_3_kn
) 3) e1_mix rfl (by kernel_rfl) fg10_0_ok
def fg10_1 : Kn := ⟨11274, [.ptr 5078 0, .agg [kI 13, kI 161, kI 0, kS [100], bF, .sl 1 0 6 [.agg [kI 3, kI 163, kI 0, kS [120], bF, .nils]]], .nils], [(1457, .tip 8), (1866, .tip 8), (2276, .tip 8), (2686, .tip 8), (3096, .tip 8), (3506, .tip 8), (3916, .tip 8), (4326, .tip 8), (4736, .tip 8), (4935, .tip 8), fc10_0, (4985, .box [kS [97], kI 5, kI 326, .sl 4999 0 1 [kI 0], .sl 5001 0 1 [kI 1], .sl 11266 0 4 (fkR10.take 319), .nils, .nils, .nils, kI 394]), fc10_1, (4999, .tip 1), (5001, .tip 1), (5076, .mp [(.string ⟨#[120]⟩, kI 6), (.string ⟨#[121]⟩, kI 7)]), (5077, .mp []), (5078, .box [.ptr 4986 0, kS [99], kI 119, .sl 1 0 6 [.agg [kS [120], kI 121, bF, bF, kS [], bF]], .sl 1 0 6 [.agg [kS [121], kI 138, bF, bF, kS [], bF]], .nils, .sl 2276 0 8 [.agg [.sl 1 0 2 [.agg [kS [121], kI 150]], bF, kI 6, kI 159, kI 0, sP, bF, .sl 1 0 6 [.agg [kI 13, kI 154, kI 0, kS [100], bF, .sl 1 0 6 [.agg [kI 3, kI 156, kI 0, kS [120], bF, .nils]]], .agg [kI 13, kI 161, kI 0, kS [100], bF, .sl 1 0 6 [.agg [kI 3, kI 163, kI 0, kS [120], bF, .nils]]]]]], .map 5076, .map 5077, .nils]), (11266, .tip 1276)], .sl 17424 0 3 [aV 327], 17425, [oC (1457, .tip 8), oC (1866, .tip 8), oC (2276, .tip 8), oC (2686, .tip 8), oC (3096, .tip 8), oC (3506, .tip 8), oC (3916, .tip 8), oC (4326, .tip 8), oC (4736, .tip 8), oC (4935, .tip 8), oC fc10_0, oC (4985, .box [kS [97], kI 5, kI 643, .sl 4999 0 1 [kI 0], .sl 5001 0 1 [kI 1], .sl 17421 0 4 (fkR10.take 636), .nils, .nils, .nils, kI 773]), oC fc10_1, oC (4999, .tip 1), oC (5001, .tip 1), oC (5076, .mp [(.string ⟨#[120]⟩, kI 6), (.string ⟨#[121]⟩, kI 7)]), oC (5077, .mp []), oC (5078, .box [.ptr 4986 0, kS [99], kI 119, .sl 1 0 6 [.agg [kS [120], kI 121, bF, bF, kS [], bF]], .sl 1 0 6 [.agg [kS [121], kI 138, bF, bF, kS [], bF]], .nils, .sl 2276 0 8 [.agg [.sl 1 0 2 [.agg [kS [121], kI 150]], bF, kI 6, kI 159, kI 0, sP, bF, .sl 1 0 6 [.agg [kI 13, kI 154, kI 0, kS [100], bF, .sl 1 0 6 [.agg [kI 3, kI 156, kI 0, kS [120], bF, .nils]]], .agg [kI 13, kI 161, kI 0, kS [100], bF, .sl 1 0 6 [.agg [kI 3, kI 163, kI 0, kS [120], bF, .nils]]]]]], .map 5076, .map 5077, .nils]), oC (17421, .tip 2544), oC (17424, .tip 3), (11266, none)]⟩
theorem fg10_1_ok : fg10_1.saysF (callX (levelsF E1 171 [fk10_4, fk10_5, fk10_6, fk10_7] 3) 2000 171 fg10_1.args fg10_1.st) = true := by kernel_rfl
theorem fg10_1_kn : KnOk Tryz.prog 171 fg10_1 := knOk_ofF (E := levelsF E1 171 [fk10_4, fk10_5, fk10_6, fk10_7] 3) (levelsG ⟨e1_ok, e1_intr⟩ e1_mix rfl (by kernel_rfl) [fk10_4, fk10_5, fk10_6, fk10_7] (fun k hk => by
    simp only [List.mem_cons, List.not_mem_nil, or_false] at hk
    rcases hk with rfl | rfl | rfl | rfl
    · exact fk10_4_kn
    · exact fk10_5_kn
    · exact fk10_6_kn
    · exact fk10_7_kn
) 3) e1_mix rfl (by kernel_rfl) fg10_1_ok
def fg10_2 : Kn := ⟨17482, [.ptr 17441 0, .agg [kI 13, kI 154, kI 0, kS [100], bF, .sl 1 0 6 [.agg [kI 3, kI 156, kI 0, kS [120], bF, .nils]]], .nils], [(1457, .tip 8), (1866, .tip 8), (2276, .tip 8), (2686, .tip 8), (3096, .tip 8), (3506, .tip 8), (3916, .tip 8), (4326, .tip 8), (4736, .tip 8), (4935, .tip 8), fc10_0, (4985, .box [kS [97], kI 5, kI 646, .sl 4999 0 1 [kI 0], .sl 5001 0 1 [kI 1], .sl 17454 0 4 (fkR10.take 639), .nils, .nils, .nils, kI 778]), fc10_1, (4999, .tip 1), (5001, .tip 1), (17439, .mp [(.string ⟨#[120]⟩, kI 643), (.string ⟨#[121]⟩, kI 644)]), (17440, .mp []), (17441, .box [.ptr 4986 0, kS [99], kI 119, .sl 1 0 6 [.agg [kS [120], kI 121, bF, bF, kS [], bF]], .sl 1 0 6 [.agg [kS [121], kI 138, bF, bF, kS [], bF]], .nils, .sl 2276 0 8 [.agg [.sl 1 0 2 [.agg [kS [121], kI 150]], bF, kI 6, kI 159, kI 0, sP, bF, .sl 1 0 6 [.agg [kI 13, kI 154, kI 0, kS [100], bF, .sl 1 0 6 [.agg [kI 3, kI 156, kI 0, kS [120], bF, .nils]]], .agg [kI 13, kI 161, kI 0, kS [100], bF, .sl 1 0 6 [.agg [kI 3, kI 163, kI 0, kS [120], bF, .nils]]]]]], .map 17439, .map 17440, .nils]), (17454, .tip 2556)], .sl 23632 0 3 [aV 647], 23633, [oC (1457, .tip 8), oC (1866, .tip 8), oC (2276, .tip 8), oC (2686, .tip 8), oC (3096, .tip 8), oC (3506, .tip 8), oC (3916, .tip 8), oC (4326, .tip 8), oC (4736, .tip 8), oC (4935, .tip 8), oC fc10_0, oC (4985, .box [kS [97], kI 5, kI 963, .sl 4999 0 1 [kI 0], .sl 5001 0 1 [kI 1], .sl 23629 0 4 (fkR10.take 956), .nils, .nils, .nils, kI 1157]), oC fc10_1, oC (4999, .tip 1), oC (5001, .tip 1), oC (17439, .mp [(.string ⟨#[120]⟩, kI 643), (.string ⟨#[121]⟩, kI 644)]), oC (17440, .mp []), oC (17441, .box [.ptr 4986 0, kS [99], kI 119, .sl 1 0 6 [.agg [kS [120], kI 121, bF, bF, kS [], bF]], .sl 1 0 6 [.agg [kS [121], kI 138, bF, bF, kS [], bF]], .nils, .sl 2276 0 8 [.agg [.sl 1 0 2 [.agg [kS [121], kI 150]], bF, kI 6, kI 159, kI 0, sP, bF, .sl 1 0 6 [.agg [kI 13, kI 154, kI 0, kS [100], bF, .sl 1 0 6 [.agg [kI 3, kI 156, kI 0, kS [120], bF, .nils]]], .agg [kI 13, kI 161, kI 0, kS [100], bF, .sl 1 0 6 [.agg [kI 3, kI 163, kI 0, kS [120], bF, .nils]]]]]], .map 17439, .map 17440, .nils]), oC (23629, .tip 3824), oC (23632, .tip 3), (17454, none)]⟩
theorem fg10_2_ok : fg10_2.saysF (callX (levelsF E1 171 [fk10_8, fk10_9, fk10_10, fk10_11] 3) 2000 171 fg10_2.args fg10_2.st) = true := by kernel_rfl
theorem fg10_2_kn : KnOk Tryz.prog 171 fg10_2 := knOk_ofF (E := levelsF E1 171 [fk10_8, fk10_9, fk10_10, fk10_11] 3) (levelsG ⟨e1_ok, e1_intr⟩ e1_mix rfl (by kernel_rfl) [fk10_8, fk10_9, fk10_10, fk10_11] (fun k hk => by
    simp only [List.mem_cons, List.not_mem_nil, or_false] at hk
    rcases hk with rfl | rfl | rfl | rfl
    · exact fk10_8_kn
    · exact fk10_9_kn
    · exact fk10_10_kn
    · exact fk10_11_kn
) 3) e1_mix rfl (by kernel_rfl) fg10_2_ok
def fg10_3 : Kn := ⟨23637, [.ptr 17441 0, .agg [kI 13, kI 161, kI 0, kS [100], bF, .sl 1 0 6 [.agg [kI 3, kI 163, kI 0, kS [120], bF, .nils]]], .nils], [(1457, .tip 8), (1866, .tip 8), (2276, .tip 8), (2686, .tip 8), (3096, .tip 8), (3506, .tip 8), (3916, .tip 8), (4326, .tip 8), (4736, .tip 8), (4935, .tip 8), fc10_0, (4985, .box [kS [97], kI 5, kI 963, .sl 4999 0 1 [kI 0], .sl 5001 0 1 [kI 1], .sl 23629 0 4 (fkR10.take 956), .nils, .nils, .nils, kI 1157]), fc10_1, (4999, .tip 1), (5001, .tip 1), (17439, .mp [(.string ⟨#[120]⟩, kI 643), (.string ⟨#[121]⟩, kI 644)]), (17440, .mp []), (17441, .box [.ptr 4986 0, kS [99], kI 119, .sl 1 0 6 [.agg [kS [120], kI 121, bF, bF, kS [], bF]], .sl 1 0 6 [.agg [kS [121], kI 138, bF, bF, kS [], bF]], .nils, .sl 2276 0 8 [.agg [.sl 1 0 2 [.agg [kS [121], kI 150]], bF, kI 6, kI 159, kI 0, sP, bF, .sl 1 0 6 [.agg [kI 13, kI 154, kI 0, kS [100], bF, .sl 1 0 6 [.agg [kI 3, kI 156, kI 0, kS [120], bF, .nils]]], .agg [kI 13, kI 161, kI 0, kS [100], bF, .sl 1 0 6 [.agg [kI 3, kI 163, kI 0, kS [120], bF, .nils]]]]]], .map 17439, .map 17440, .nils]), (23629, .tip 3824)], .sl 29177 0 3 [aV 964], 29178, [oC (1457, .tip 8), oC (1866, .tip 8), oC (2276, .tip 8), oC (2686, .tip 8), oC (3096, .tip 8), oC (3506, .tip 8), oC (3916, .tip 8), oC (4326, .tip 8), oC (4736, .tip 8), oC (4935, .tip 8), oC fc10_0, oC (4985, .box [kS [97], kI 5, kI 1250, .sl 4999 0 1 [kI 0], .sl 5001 0 1 [kI 1], .sl 29174 0 4 (fkR10 ++ [qP 1125 29162 1127 1204, qC 1124 1 1125, qP 965 29170 967 1124, qC 964 1 965]), .nils, .nils, .nils, kI 1503]), oC (4986, .box [.ptr 4985 0, .map 4974, kI 5, kI 14]), oC (4999, .tip 1), oC (5001, .tip 1), oC (17439, .mp [(.string ⟨#[120]⟩, kI 643), (.string ⟨#[121]⟩, kI 644)]), oC (17440, .mp []), oC (17441, .box [.ptr 4986 0, kS [99], kI 119, .sl 1 0 6 [.agg [kS [120], kI 121, bF, bF, kS [], bF]], .sl 1 0 6 [.agg [kS [121], kI 138, bF, bF, kS [], bF]], .nils, .sl 2276 0 8 [.agg [.sl 1 0 2 [.agg [kS [121], kI 150]], bF, kI 6, kI 159, kI 0, sP, bF, .sl 1 0 6 [.agg [kI 13, kI 154, kI 0, kS [100], bF, .sl 1 0 6 [.agg [kI 3, kI 156, kI 0, kS [120], bF, .nils]]], .agg [kI 13, kI 161, kI 0, kS [100], bF, .sl 1 0 6 [.agg [kI 3, kI 163, kI 0, kS [120], bF, .nils]]]]]], .map 17439, .map 17440, .nils]), oC (29174, .tip 4964), oC (29177, .tip 3), (23629, none)]⟩
theorem fg10_3_ok : fg10_3.saysF (callX (levelsF E1 171 [fk10_12, fk10_13, fk10_14, fk10_15] 3) 2000 171 fg10_3.args fg10_3.st) = true := by kernel_rfl
theorem fg10_3_kn : KnOk Tryz.prog 171 fg10_3 := knOk_ofF (E := levelsF E1 171 [fk10_12, fk10_13, fk10_14, fk10_15] 3) (levelsG ⟨e1_ok, e1_intr⟩ e1_mix rfl (by kernel_rfl) [fk10_12, fk10_13, fk10_14, fk10_15] (fun k hk => by
    simp only [List.mem_cons, List.not_mem_nil, or_false] at hk
    rcases hk with rfl | rfl | rfl | rfl
    · exact fk10_12_kn
    · exact fk10_13_kn
    · exact fk10_14_kn
    · exact fk10_15_kn
) 3) e1_mix rfl (by kernel_rfl) fg10_3_ok
theorem fkP10_ok : fkP10.says (callX E1 2000 19 fkP10.args fkP10.st) = true := by kernel_rfl
def fkB10 : Env := withI E1 19 (tab [fkP10] (fun _ _ => .fail))
theorem fkB10_snd : fkB10.Ok ∧ IntrOk fkB10 := ⟨withI_ok e1_ok _ _, withI_intr e1_intr (tab_snd e1_ok e1_intr e1_mix rfl (by kernel_rfl) (fail_snd _ _) _ (fun k hk => by simp only [List.mem_cons, List.not_mem_nil, or_false] at hk; subst hk; exact ⟨2000, fkP10_ok⟩))⟩
def fkE10 : Env := levelsF fkB10 171 [fg10_0, fg10_1, fg10_2, fg10_3] 3
theorem fkE10_snd : fkE10.Ok ∧ IntrOk fkE10 := levelsG fkB10_snd e1_mix rfl (by kernel_rfl) [fg10_0, fg10_1, fg10_2, fg10_3] (fun k hk => by
    simp only [List.mem_cons, List.not_mem_nil, or_false] at hk
    rcases hk with rfl | rfl | rfl | rfl
    · exact fg10_0_kn
    · exact fg10_1_kn
    · exact fg10_2_kn
    · exact fg10_3_kn
) 3
theorem fkE10_case : endsTrue 2 ((comp fkE10 103 flatDoublesRest none).c (callX fkE10 2000) (fr1 (10 : Int)) [] St0) = true := by kernel_rfl
end Go.Ax
