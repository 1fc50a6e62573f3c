/-
  FlatDoubles with 11 nodes.
-/
import Derived.Test.YtjgknelmjdallaaGreatDoorFdFw2
import Derived.Test.YtjgknelmjdallaaGreatDoorFdTd
import Derived.Test.YtjgknelmjdallaaGreatDoorFdFk11
import Derived.Test.YtjgknelmjdallaaGreatDoorFdFk11x0
import Derived.Test.YtjgknelmjdallaaGreatDoorFdFk11x1
import Derived.Test.YtjgknelmjdallaaGreatDoorFdFk11x2
import Derived.Test.YtjgknelmjdallaaGreatDoorFdFk11x3
noncomputable section
namespace Go.Ax
open Go.Proofs
set_option maxRecDepth 100000
set_option linter.unusedVariables false
theorem fk11_0_kn : KnOk Tryz.prog 171 fk11_0 := knOk_of (E := E1) ⟨e1_ok, e1_intr⟩ e1_mix rfl (by kernel_rfl) fk11_0_ok
theorem fk11_1_kn : KnOk Tryz.prog 171 fk11_1 := knOk_of (E := E1) ⟨e1_ok, e1_intr⟩ e1_mix rfl (by kernel_rfl) fk11_1_ok
theorem fk11_2_kn : KnOk Tryz.prog 171 fk11_2 := knOk_of (E := E1) ⟨e1_ok, e1_intr⟩ e1_mix rfl (by kernel_rfl) fk11_2_ok
theorem fk11_3_kn : KnOk Tryz.prog 171 fk11_3 := knOk_of (E := E1) ⟨e1_ok, e1_intr⟩ e1_mix rfl (by kernel_rfl) fk11_3_ok
theorem fk11_4_kn : KnOk Tryz.prog 171 fk11_4 := knOk_of (E := E1) ⟨e1_ok, e1_intr⟩ e1_mix rfl (by kernel_rfl) fk11_4_ok
theorem fk11_5_kn : KnOk Tryz.prog 171 fk11_5 := knOk_of (E := E1) ⟨e1_ok, e1_intr⟩ e1_mix rfl (by kernel_rfl) fk11_5_ok
theorem fk11_6_kn : KnOk Tryz.prog 171 fk11_6 := knOk_of (E := E1) ⟨e1_ok, e1_intr⟩ e1_mix rfl (by kernel_rfl) fk11_6_ok
theorem fk11_7_kn : KnOk Tryz.prog 171 fk11_7 := knOk_of (E := E1) ⟨e1_ok, e1_intr⟩ e1_mix rfl (by kernel_rfl) fk11_7_ok
theorem fk11_8_kn : KnOk Tryz.prog 171 fk11_8 := knOk_of (E := E1) ⟨e1_ok, e1_intr⟩ e1_mix rfl (by kernel_rfl) fk11_8_ok
theorem fk11_9_kn : KnOk Tryz.prog 171 fk11_9 := knOk_of (E := E1) ⟨e1_ok, e1_intr⟩ e1_mix rfl (by kernel_rfl) fk11_9_ok
theorem fk11_10_kn : KnOk Tryz.prog 171 fk11_10 := knOk_of (E := E1) ⟨e1_ok, e1_intr⟩ e1_mix rfl (by kernel_rfl) fk11_10_ok
theorem fk11_11_kn : KnOk Tryz.prog 171 fk11_11 := knOk_of (E := E1) ⟨e1_ok, e1_intr⟩ e1_mix rfl (by kernel_rfl) fk11_11_ok
theorem fk11_12_kn : KnOk Tryz.prog 171 fk11_12 := knOk_of (E := E1) ⟨e1_ok, e1_intr⟩ e1_mix rfl (by kernel_rfl) fk11_12_ok
theorem fk11_13_kn : KnOk Tryz.prog 171 fk11_13 := knOk_of (E := E1) ⟨e1_ok, e1_intr⟩ e1_mix rfl (by kernel_rfl) fk11_13_ok
theorem fk11_14_kn : KnOk Tryz.prog 171 fk11_14 := knOk_of (E := E1) ⟨e1_ok, e1_intr⟩ e1_mix rfl (by kernel_rfl) fk11_14_ok
theorem fk11_15_kn : KnOk Tryz.prog 171 fk11_15 := knOk_of (E := E1) ⟨e1_ok, e1_intr⟩ e1_mix rfl (by kernel_rfl) fk11_15_ok
def fg11_0 : Kn := ⟨5683, [.ptr 5642 0, .agg [kI 13, kI 211, kI 0, kS [101], bF, .sl 1 0 6 [.agg [kI 3, kI 213, kI 0, kS [120], bF, .nils]]], .nils], [(1565, .tip 8), (1974, .tip 8), (2384, .tip 8), (2794, .tip 8), (3204, .tip 8), (3614, .tip 8), (4024, .tip 8), (4434, .tip 8), (4844, .tip 8), (5254, .tip 8), (5453, .tip 8), fc11_0, (5504, .box [kS [97], kI 5, kI 12, .sl 5518 0 1 [kI 0], .sl 5520 0 1 [kI 1], .sl 5655 0 4 [qC 3 1 0, qC 6 1 3, qC 9 1 6], .nils, .nils, .nils, kI 20]), fc11_1, (5518, .tip 1), (5520, .tip 1), (5640, .mp [(.string ⟨#[120]⟩, kI 9), (.string ⟨#[121]⟩, kI 10)]), (5641, .mp []), (5642, .box [.ptr 5505 0, kS [100], kI 176, .sl 1 0 6 [.agg [kS [120], kI 178, bF, bF, kS [], bF]], .sl 1 0 6 [.agg [kS [121], kI 195, bF, bF, kS [], bF]], .nils, .sl 2794 0 8 [.agg [.sl 1 0 2 [.agg [kS [121], kI 207]], bF, kI 6, kI 216, kI 0, sP, bF, .sl 1 0 6 [.agg [kI 13, kI 211, kI 0, kS [101], bF, .sl 1 0 6 [.agg [kI 3, kI 213, kI 0, kS [120], bF, .nils]]], .agg [kI 13, kI 218, kI 0, kS [101], bF, .sl 1 0 6 [.agg [kI 3, kI 220, kI 0, kS [120], bF, .nils]]]]]], .map 5640, .map 5641, .nils]), (5655, .tip 12)], .sl 11833 0 3 [aV 13], 11834, [oC (1565, .tip 8), oC (1974, .tip 8), oC (2384, .tip 8), oC (2794, .tip 8), oC (3204, .tip 8), oC (3614, .tip 8), oC (4024, .tip 8), oC (4434, .tip 8), oC (4844, .tip 8), oC (5254, .tip 8), oC (5453, .tip 8), oC fc11_0, oC (5504, .box [kS [97], kI 5, kI 329, .sl 5518 0 1 [kI 0], .sl 5520 0 1 [kI 1], .sl 11830 0 4 (fkR11.take 320), .nils, .nils, .nils, kI 399]), oC fc11_1, oC (5518, .tip 1), oC (5520, .tip 1), oC (5640, .mp [(.string ⟨#[120]⟩, kI 9), (.string ⟨#[121]⟩, kI 10)]), oC (5641, .mp []), oC (5642, .box [.ptr 5505 0, kS [100], kI 176, .sl 1 0 6 [.agg [kS [120], kI 178, bF, bF, kS [], bF]], .sl 1 0 6 [.agg [kS [121], kI 195, bF, bF, kS [], bF]], .nils, .sl 2794 0 8 [.agg [.sl 1 0 2 [.agg [kS [121], kI 207]], bF, kI 6, kI 216, kI 0, sP, bF, .sl 1 0 6 [.agg [kI 13, kI 211, kI 0, kS [101], bF, .sl 1 0 6 [.agg [kI 3, kI 213, kI 0, kS [120], bF, .nils]]], .agg [kI 13, kI 218, kI 0, kS [101], bF, .sl 1 0 6 [.agg [kI 3, kI 220, kI 0, kS [120], bF, .nils]]]]]], .map 5640, .map 5641, .nils]), oC (11830, .tip 1280), oC (11833, .tip 3), (5655, none)]⟩
theorem fg11_0_ok : fg11_0.saysF (callX (levelsF E1 171 [fk11_0, fk11_1, fk11_2, fk11_3] 3) 2000 171 fg11_0.args fg11_0.st) = true := by kernel_rfl
theorem fg11_0_kn : KnOk Tryz.prog 171 fg11_0 := knOk_ofF (E := levelsF E1 171 [fk11_0, fk11_1, fk11_2, fk11_3] 3) (levelsG ⟨e1_ok, e1_intr⟩ e1_mix rfl (by kernel_rfl) [fk11_0, fk11_1, fk11_2, fk11_3] (fun k hk => by
    simp only [List.mem_cons, List.not_mem_nil, or_false] at hk
    rcases hk with rfl | rfl | rfl | rfl
    · exact fk11_0_kn
    · exact fk11_1_kn
    · exact fk11_2_kn
    · exact fk11_3_kn
) 3) e1_mix rfl (by kernel_rfl) fg11_0_ok
def fg11_1 : Kn := ⟨11838, [.ptr 5642 0, .agg [kI 13, kI 218, kI 0, kS [101], bF, .sl 1 0 6 [.agg [kI 3, kI 220, kI 0, kS [120], bF, .nils]]], .nils], [(1565, .tip 8), (1974, .tip 8), (2384, .tip 8), (2794, .tip 8), (3204, .tip 8), (3614, .tip 8), (4024, .tip 8), (4434, .tip 8), (4844, .tip 8), (5254, .tip 8), (5453, .tip 8), fc11_0, (5504, .box [kS [97], kI 5, kI 329, .sl 5518 0 1 [kI 0], .sl 5520 0 1 [kI 1], .sl 11830 0 4 (fkR11.take 320), .nils, .nils, .nils, kI 399]), fc11_1, (5518, .tip 1), (5520, .tip 1), (5640, .mp [(.string ⟨#[120]⟩, kI 9), (.string ⟨#[121]⟩, kI 10)]), (5641, .mp []), (5642, .box [.ptr 5505 0, kS [100], kI 176, .sl 1 0 6 [.agg [kS [120], kI 178, bF, bF, kS [], bF]], .sl 1 0 6 [.agg [kS [121], kI 195, bF, bF, kS [], bF]], .nils, .sl 2794 0 8 [.agg [.sl 1 0 2 [.agg [kS [121], kI 207]], bF, kI 6, kI 216, kI 0, sP, bF, .sl 1 0 6 [.agg [kI 13, kI 211, kI 0, kS [101], bF, .sl 1 0 6 [.agg [kI 3, kI 213, kI 0, kS [120], bF, .nils]]], .agg [kI 13, kI 218, kI 0, kS [101], bF, .sl 1 0 6 [.agg [kI 3, kI 220, kI 0, kS [120], bF, .nils]]]]]], .map 5640, .map 5641, .nils]), (11830, .tip 1280)], .sl 17988 0 3 [aV 330], 17989, [oC (1565, .tip 8), oC (1974, .tip 8), oC (2384, .tip 8), oC (2794, .tip 8), oC (3204, .tip 8), oC (3614, .tip 8), oC (4024, .tip 8), oC (4434, .tip 8), oC (4844, .tip 8), oC (5254, .tip 8), oC (5453, .tip 8), oC fc11_0, oC (5504, .box [kS [97], kI 5, kI 646, .sl 5518 0 1 [kI 0], .sl 5520 0 1 [kI 1], .sl 17985 0 4 (fkR11.take 637), .nils, .nils, .nils, kI 778]), oC fc11_1, oC (5518, .tip 1), oC (5520, .tip 1), oC (5640, .mp [(.string ⟨#[120]⟩, kI 9), (.string ⟨#[121]⟩, kI 10)]), oC (5641, .mp []), oC (5642, .box [.ptr 5505 0, kS [100], kI 176, .sl 1 0 6 [.agg [kS [120], kI 178, bF, bF, kS [], bF]], .sl 1 0 6 [.agg [kS [121], kI 195, bF, bF, kS [], bF]], .nils, .sl 2794 0 8 [.agg [.sl 1 0 2 [.agg [kS [121], kI 207]], bF, kI 6, kI 216, kI 0, sP, bF, .sl 1 0 6 [.agg [kI 13, kI 211, kI 0, kS [101], bF, .sl 1 0 6 [.agg [kI 3, kI 213, kI 0, kS [120], bF, .nils]]], .agg [kI 13, kI 218, kI 0, kS [101], bF, .sl 1 0 6 [.agg [kI 3, kI 220, kI 0, kS [120], bF, .nils]]]]]], .map 5640, .map 5641, .nils]), oC (17985, .tip 2548), oC (17988, .tip 3), (11830, none)]⟩
theorem fg11_1_ok : fg11_1.saysF (callX (levelsF E1 171 [fk11_4, fk11_5, fk11_6, fk11_7] 3) 2000 171 fg11_1.args fg11_1.st) = true := by kernel_rfl
theorem fg11_1_kn : KnOk Tryz.prog 171 fg11_1 := knOk_ofF (E := levelsF E1 171 [fk11_4, fk11_5, fk11_6, fk11_7] 3) (levelsG ⟨e1_ok, e1_intr⟩ e1_mix rfl (by kernel_rfl) [fk11_4, fk11_5, fk11_6, fk11_7] (fun k hk => by
    simp only [List.mem_cons, List.not_mem_nil, or_false] at hk
    rcases hk with rfl | rfl | rfl | rfl
    · exact fk11_4_kn
    · exact fk11_5_kn
    · exact fk11_6_kn
    · exact fk11_7_kn
) 3) e1_mix rfl (by kernel_rfl) fg11_1_ok
def fg11_2 : Kn := ⟨18046, [.ptr 18005 0, .agg [kI 13, kI 211, kI 0, kS [101], bF, .sl 1 0 6 [.agg [kI 3, kI 213, kI 0, kS [120], bF, .nils]]], .nils], [(1565, .tip 8), (1974, .tip 8), (2384, .tip 8), (2794, .tip 8), (3204, .tip 8), (3614, .tip 8), (4024, .tip 8), (4434, .tip 8), (4844, .tip 8), (5254, .tip 8), (5453, .tip 8), fc11_0, (5504, .box [kS [97], kI 5, kI 649, .sl 5518 0 1 [kI 0], .sl 5520 0 1 [kI 1], .sl 18018 0 4 (fkR11.take 640), .nils, .nils, .nils, kI 783]), fc11_1, (5518, .tip 1), (5520, .tip 1), (18003, .mp [(.string ⟨#[120]⟩, kI 646), (.string ⟨#[121]⟩, kI 647)]), (18004, .mp []), (18005, .box [.ptr 5505 0, kS [100], kI 176, .sl 1 0 6 [.agg [kS [120], kI 178, bF, bF, kS [], bF]], .sl 1 0 6 [.agg [kS [121], kI 195, bF, bF, kS [], bF]], .nils, .sl 2794 0 8 [.agg [.sl 1 0 2 [.agg [kS [121], kI 207]], bF, kI 6, kI 216, kI 0, sP, bF, .sl 1 0 6 [.agg [kI 13, kI 211, kI 0, kS [101], bF, .sl 1 0 6 [.agg [kI 3, kI 213, kI 0, kS [120], bF, .nils]]], .agg [kI 13, kI 218, kI 0, kS [101], bF, .sl 1 0 6 [.agg [kI 3, kI 220, kI 0, kS [120], bF, .nils]]]]]], .map 18003, .map 18004, .nils]), (18018, .tip 2560)], .sl 24196 0 3 [aV 650], 24197, [oC (1565, .tip 8), oC (1974, .tip 8), oC (2384, .tip 8), oC (2794, .tip 8), oC (3204, .tip 8), oC (3614, .tip 8), oC (4024, .tip 8), oC (4434, .tip 8), oC (4844, .tip 8), oC (5254, .tip 8), oC (5453, .tip 8), oC fc11_0, oC (5504, .box [kS [97], kI 5, kI 966, .sl 5518 0 1 [kI 0], .sl 5520 0 1 [kI 1], .sl 24193 0 4 (fkR11.take 957), .nils, .nils, .nils, kI 1162]), oC fc11_1, oC (5518, .tip 1), oC (5520, .tip 1), oC (18003, .mp [(.string ⟨#[120]⟩, kI 646), (.string ⟨#[121]⟩, kI 647)]), oC (18004, .mp []), oC (18005, .box [.ptr 5505 0, kS [100], kI 176, .sl 1 0 6 [.agg [kS [120], kI 178, bF, bF, kS [], bF]], .sl 1 0 6 [.agg [kS [121], kI 195, bF, bF, kS [], bF]], .nils, .sl 2794 0 8 [.agg [.sl 1 0 2 [.agg [kS [121], kI 207]], bF, kI 6, kI 216, kI 0, sP, bF, .sl 1 0 6 [.agg [kI 13, kI 211, kI 0, kS [101], bF, .sl 1 0 6 [.agg [kI 3, kI 213, kI 0, kS [120], bF, .nils]]], .agg [kI 13, kI 218, kI 0, kS [101], bF, .sl 1 0 6 [.agg [kI 3, kI 220, kI 0, kS [120], bF, .nils]]]]]], .map 18003, .map 18004, .nils]), oC (24193, .tip 3828), oC (24196, .tip 3), (18018, none)]⟩
theorem fg11_2_ok : fg11_2.saysF (callX (levelsF E1 171 [fk11_8, fk11_9, fk11_10, fk11_11] 3) 2000 171 fg11_2.args fg11_2.st) = true := by kernel_rfl
theorem fg11_2_kn : KnOk Tryz.prog 171 fg11_2 := knOk_ofF (E := levelsF E1 171 [fk11_8, fk11_9, fk11_10, fk11_11] 3) (levelsG ⟨e1_ok, e1_intr⟩ e1_mix rfl (by kernel_rfl) [fk11_8, fk11_9, fk11_10, fk11_11] (fun k hk => by
    simp only [List.mem_cons, List.not_mem_nil, or_false] at hk
    rcases hk with rfl | rfl | rfl | rfl
    · exact fk11_8_kn
    · exact fk11_9_kn
    · exact fk11_10_kn
    · exact fk11_11_kn
) 3) e1_mix rfl (by kernel_rfl) fg11_2_ok
def fg11_3 : Kn := ⟨24201, [.ptr 18005 0, .agg [kI 13, kI 218, kI 0, kS [101], bF, .sl 1 0 6 [.agg [kI 3, kI 220, kI 0, kS [120], bF, .nils]]], .nils], [(1565, .tip 8), (1974, .tip 8), (2384, .tip 8), (2794, .tip 8), (3204, .tip 8), (3614, .tip 8), (4024, .tip 8), (4434, .tip 8), (4844, .tip 8), (5254, .tip 8), (5453, .tip 8), fc11_0, (5504, .box [kS [97], kI 5, kI 966, .sl 5518 0 1 [kI 0], .sl 5520 0 1 [kI 1], .sl 24193 0 4 (fkR11.take 957), .nils, .nils, .nils, kI 1162]), fc11_1, (5518, .tip 1), (5520, .tip 1), (18003, .mp [(.string ⟨#[120]⟩, kI 646), (.string ⟨#[121]⟩, kI 647)]), (18004, .mp []), (18005, .box [.ptr 5505 0, kS [100], kI 176, .sl 1 0 6 [.agg [kS [120], kI 178, bF, bF, kS [], bF]], .sl 1 0 6 [.agg [kS [121], kI 195, bF, bF, kS [], bF]], .nils, .sl 2794 0 8 [.agg [.sl 1 0 2 [.agg [kS [121], kI 207]], bF, kI 6, kI 216, kI 0, sP, bF, .sl 1 0 6 [.agg [kI 13, kI 211, kI 0, kS [101], bF, .sl 1 0 6 [.agg [kI 3, kI 213, kI 0, kS [120], bF, .nils]]], .agg [kI 13, kI 218, kI 0, kS [101], bF, .sl 1 0 6 [.agg [kI 3, kI 220, kI 0, kS [120], bF, .nils]]]]]], .map 18003, .map 18004, .nils]), (24193, .tip 3828)], .sl 29663 0 3 [aV 967], 29664, [oC (1565, .tip 8), oC (1974, .tip 8), oC (2384, .tip 8), oC (2794, .tip 8), oC (3204, .tip 8), oC (3614, .tip 8), oC (4024, .tip 8), oC (4434, .tip 8), oC (4844, .tip 8), oC (5254, .tip 8), oC (5453, .tip 8), oC fc11_0, oC (5504, .box [kS [97], kI 5, kI 1248, .sl 5518 0 1 [kI 0], .sl 5520 0 1 [kI 1], .sl 29660 0 4 (fkR11 ++ [qP 1128 29648 1130 1207, qC 1127 1 1128, qP 968 29656 970 1127, qC 967 1 968]), .nils, .nils, .nils, kI 1503]), oC (5505, .box [.ptr 5504 0, .map 5492, kI 5, kI 14]), oC (5518, .tip 1), oC (5520, .tip 1), oC (18003, .mp [(.string ⟨#[120]⟩, kI 646), (.string ⟨#[121]⟩, kI 647)]), oC (18004, .mp []), oC (18005, .box [.ptr 5505 0, kS [100], kI 176, .sl 1 0 6 [.agg [kS [120], kI 178, bF, bF, kS [], bF]], .sl 1 0 6 [.agg [kS [121], kI 195, bF, bF, kS [], bF]], .nils, .sl 2794 0 8 [.agg [.sl 1 0 2 [.agg [kS [121], kI 207]], bF, kI 6, kI 216, kI 0, sP, bF, .sl 1 0 6 [.agg [kI 13, kI 211, kI 0, kS [101], bF, .sl 1 0 6 [.agg [kI 3, kI 213, kI 0, kS [120], bF, .nils]]], .agg [kI 13, kI 218, kI 0, kS [101], bF, .sl 1 0 6 [.agg [kI 3, kI 220, kI 0, kS [120], bF, .nils]]]]]], .map 18003, .map 18004, .nils]), oC (29660, .tip 4952), oC (29663, .tip 3), (24193, none)]⟩
theorem fg11_3_ok : fg11_3.saysF (callX (levelsF E1 171 [fk11_12, fk11_13, fk11_14, fk11_15] 3) 2000 171 fg11_3.args fg11_3.st) = true := by kernel_rfl
theorem fg11_3_kn : KnOk Tryz.prog 171 fg11_3 := knOk_ofF (E := levelsF E1 171 [fk11_12, fk11_13, fk11_14, fk11_15] 3) (levelsG ⟨e1_ok, e1_intr⟩ e1_mix rfl (by kernel_rfl) [fk11_12, fk11_13, fk11_14, fk11_15] (fun k hk => by
    simp only [List.mem_cons, List.not_mem_nil, or_false] at hk
    rcases hk with rfl | rfl | rfl | rfl
    · exact fk11_12_kn
    · exact fk11_13_kn
    · exact fk11_14_kn
    · exact fk11_15_kn
) 3) e1_mix rfl (by kernel_rfl) fg11_3_ok
theorem fkP11_ok : fkP11.says (callX E1 2000 19 fkP11.args fkP11.st) = true := by kernel_rfl
def fkB11 : Env := withI E1 19 (tab [fkP11] (fun _ _ => .fail))
theorem fkB11_snd : fkB11.Ok ∧ IntrOk fkB11 := ⟨withI_ok e1_ok _ _, withI_intr e1_intr (tab_snd e1_ok e1_intr e1_mix rfl (by kernel_rfl) (fail_snd _ _) _ (fun k hk => by simp only [List.mem_cons, List.not_mem_nil, or_false] at hk; subst hk; exact ⟨2000, fkP11_ok⟩))⟩
def fkE11 : Env := levelsF fkB11 171 [fg11_0, fg11_1, fg11_2, fg11_3] 4
theorem fkE11_snd : fkE11.Ok ∧ IntrOk fkE11 := levelsG fkB11_snd e1_mix rfl (by kernel_rfl) [fg11_0, fg11_1, fg11_2, fg11_3] (fun k hk => by
    simp only [List.mem_cons, List.not_mem_nil, or_false] at hk
    rcases hk with rfl | rfl | rfl | rfl
    · exact fg11_0_kn
    · exact fg11_1_kn
    · exact fg11_2_kn
    · exact fg11_3_kn
) 4
theorem fkE11_case : endsTrue 2 ((comp fkE11 103 flatDoublesRest none).c (callX fkE11 2000) (fr1 (11 : Int)) [] St0) = true := by kernel_rfl
end Go.Ax
