/-
  FlatDoubles with 12 nodes.
-/
import Derived.Test.YtjgknelmjdallaaGreatDoorFdFw2
import Derived.Test.YtjgknelmjdallaaGreatDoorFdTd
import Derived.Test.YtjgknelmjdallaaGreatDoorFdFk12
import Derived.Test.YtjgknelmjdallaaGreatDoorFdFk12x0
import Derived.Test.YtjgknelmjdallaaGreatDoorFdFk12x1
import Derived.Test.YtjgknelmjdallaaGreatDoorFdFk12x2
import Derived.Test.YtjgknelmjdallaaGreatDoorFdFk12x3
noncomputable section
namespace Go.Ax
open Go.Proofs
set_option maxRecDepth 100000
set_option linter.unusedVariables false
theorem fk12_0_kn : KnOk Tryz.prog 171 fk12_0 := knOk_of (E := E1) ⟨e1_ok, e1_intr⟩ e1_mix rfl (by kernel_rfl) fk12_0_ok
theorem fk12_1_kn : KnOk Tryz.prog 171 fk12_1 := knOk_of (E := E1) ⟨e1_ok, e1_intr⟩ e1_mix rfl (by kernel_rfl) fk12_1_ok
theorem fk12_2_kn : KnOk Tryz.prog 171 fk12_2 := knOk_of (E := E1) ⟨e1_ok, e1_intr⟩ e1_mix rfl (by kernel_rfl) fk12_2_ok
theorem fk12_3_kn : KnOk Tryz.prog 171 fk12_3 := knOk_of (E := E1) ⟨e1_ok, e1_intr⟩ e1_mix rfl (by kernel_rfl) fk12_3_ok
theorem fk12_4_kn : KnOk Tryz.prog 171 fk12_4 := knOk_of (E := E1) ⟨e1_ok, e1_intr⟩ e1_mix rfl (by kernel_rfl) fk12_4_ok
theorem fk12_5_kn : KnOk Tryz.prog 171 fk12_5 := knOk_of (E := E1) ⟨e1_ok, e1_intr⟩ e1_mix rfl (by kernel_rfl) fk12_5_ok
theorem fk12_6_kn : KnOk Tryz.prog 171 fk12_6 := knOk_of (E := E1) ⟨e1_ok, e1_intr⟩ e1_mix rfl (by kernel_rfl) fk12_6_ok
theorem fk12_7_kn : KnOk Tryz.prog 171 fk12_7 := knOk_of (E := E1) ⟨e1_ok, e1_intr⟩ e1_mix rfl (by kernel_rfl) fk12_7_ok
theorem fk12_8_kn : KnOk Tryz.prog 171 fk12_8 := knOk_of (E := E1) ⟨e1_ok, e1_intr⟩ e1_mix rfl (by kernel_rfl) fk12_8_ok
theorem fk12_9_kn : KnOk Tryz.prog 171 fk12_9 := knOk_of (E := E1) ⟨e1_ok, e1_intr⟩ e1_mix rfl (by kernel_rfl) fk12_9_ok
theorem fk12_10_kn : KnOk Tryz.prog 171 fk12_10 := knOk_of (E := E1) ⟨e1_ok, e1_intr⟩ e1_mix rfl (by kernel_rfl) fk12_10_ok
theorem fk12_11_kn : KnOk Tryz.prog 171 fk12_11 := knOk_of (E := E1) ⟨e1_ok, e1_intr⟩ e1_mix rfl (by kernel_rfl) fk12_11_ok
theorem fk12_12_kn : KnOk Tryz.prog 171 fk12_12 := knOk_of (E := E1) ⟨e1_ok, e1_intr⟩ e1_mix rfl (by kernel_rfl) fk12_12_ok
theorem fk12_13_kn : KnOk Tryz.prog 171 fk12_13 := knOk_of (E := E1) ⟨e1_ok, e1_intr⟩ e1_mix rfl (by kernel_rfl) fk12_13_ok
theorem fk12_14_kn : KnOk Tryz.prog 171 fk12_14 := knOk_of (E := E1) ⟨e1_ok, e1_intr⟩ e1_mix rfl (by kernel_rfl) fk12_14_ok
def fg12_0 : Kn := ⟨6247, [.ptr 6206 0, .agg [kI 13, kI 268, kI 0, kS [102], bF, .sl 1 0 6 [.agg [kI 3, kI 270, kI 0, kS [120], bF, .nils]]], .nils], [(1673, .tip 8), (2082, .tip 8), (2492, .tip 8), (2902, .tip 8), (3312, .tip 8), (3722, .tip 8), (4132, .tip 8), (4542, .tip 8), (4952, .tip 8), (5362, .tip 8), (5772, .tip 8), (5971, .tip 8), fc12_0, (6023, .box [kS [97], kI 5, kI 15, .sl 6037 0 1 [kI 0], .sl 6039 0 1 [kI 1], .sl 6219 0 4 (fkR12.take 4), .nils, .nils, .nils, kI 25]), fc12_1, (6037, .tip 1), (6039, .tip 1), (6204, .mp [(.string ⟨#[120]⟩, kI 12), (.string ⟨#[121]⟩, kI 13)]), (6205, .mp []), (6206, .box [.ptr 6024 0, kS [101], kI 233, .sl 1 0 6 [.agg [kS [120], kI 235, bF, bF, kS [], bF]], .sl 1 0 6 [.agg [kS [121], kI 252, bF, bF, kS [], bF]], .nils, .sl 3312 0 8 [.agg [.sl 1 0 2 [.agg [kS [121], kI 264]], bF, kI 6, kI 273, kI 0, sP, bF, .sl 1 0 6 [.agg [kI 13, kI 268, kI 0, kS [102], bF, .sl 1 0 6 [.agg [kI 3, kI 270, kI 0, kS [120], bF, .nils]]], .agg [kI 13, kI 275, kI 0, kS [102], bF, .sl 1 0 6 [.agg [kI 3, kI 277, kI 0, kS [120], bF, .nils]]]]]], .map 6204, .map 6205, .nils]), (6219, .tip 16)], .sl 12397 0 3 [aV 16], 12398, [oC (1673, .tip 8), oC (2082, .tip 8), oC (2492, .tip 8), oC (2902, .tip 8), oC (3312, .tip 8), oC (3722, .tip 8), oC (4132, .tip 8), oC (4542, .tip 8), oC (4952, .tip 8), oC (5362, .tip 8), oC (5772, .tip 8), oC (5971, .tip 8), oC fc12_0, oC (6023, .box [kS [97], kI 5, kI 332, .sl 6037 0 1 [kI 0], .sl 6039 0 1 [kI 1], .sl 12394 0 4 (fkR12.take 321), .nils, .nils, .nils, kI 404]), oC fc12_1, oC (6037, .tip 1), oC (6039, .tip 1), oC (6204, .mp [(.string ⟨#[120]⟩, kI 12), (.string ⟨#[121]⟩, kI 13)]), oC (6205, .mp []), oC (6206, .box [.ptr 6024 0, kS [101], kI 233, .sl 1 0 6 [.agg [kS [120], kI 235, bF, bF, kS [], bF]], .sl 1 0 6 [.agg [kS [121], kI 252, bF, bF, kS [], bF]], .nils, .sl 3312 0 8 [.agg [.sl 1 0 2 [.agg [kS [121], kI 264]], bF, kI 6, kI 273, kI 0, sP, bF, .sl 1 0 6 [.agg [kI 13, kI 268, kI 0, kS [102], bF, .sl 1 0 6 [.agg [kI 3, kI 270, kI 0, kS [120], bF, .nils]]], .agg [kI 13, kI 275, kI 0, kS [102], bF, .sl 1 0 6 [.agg [kI 3, kI 277, kI 0, kS [120], bF, .nils]]]]]], .map 6204, .map 6205, .nils]), oC (12394, .tip 1284), oC (12397, .tip 3), (6219, none)]⟩
theorem fg12_0_ok : fg12_0.saysF (callX (levelsF E1 171 [fk12_0, fk12_1, fk12_2, fk12_3] 3) 2000 171 fg12_0.args fg12_0.st) = true := by kernel_rfl
theorem fg12_0_kn : KnOk Tryz.prog 171 fg12_0 := knOk_ofF (E := levelsF E1 171 [fk12_0, fk12_1, fk12_2, fk12_3] 3) (levelsG ⟨e1_ok, e1_intr⟩ e1_mix rfl (by kernel_rfl) [fk12_0, fk12_1, fk12_2, fk12_3] (fun k hk => by
    simp only [List.mem_cons, List.not_mem_nil, or_false] at hk
    rcases hk with rfl | rfl | rfl | rfl
    · exact fk12_0_kn
    · exact fk12_1_kn
    · exact fk12_2_kn
    · exact fk12_3_kn
) 3) e1_mix rfl (by kernel_rfl) fg12_0_ok
def fg12_1 : Kn := ⟨12402, [.ptr 6206 0, .agg [kI 13, kI 275, kI 0, kS [102], bF, .sl 1 0 6 [.agg [kI 3, kI 277, kI 0, kS [120], bF, .nils]]], .nils], [(1673, .tip 8), (2082, .tip 8), (2492, .tip 8), (2902, .tip 8), (3312, .tip 8), (3722, .tip 8), (4132, .tip 8), (4542, .tip 8), (4952, .tip 8), (5362, .tip 8), (5772, .tip 8), (5971, .tip 8), fc12_0, (6023, .box [kS [97], kI 5, kI 332, .sl 6037 0 1 [kI 0], .sl 6039 0 1 [kI 1], .sl 12394 0 4 (fkR12.take 321), .nils, .nils, .nils, kI 404]), fc12_1, (6037, .tip 1), (6039, .tip 1), (6204, .mp [(.string ⟨#[120]⟩, kI 12), (.string ⟨#[121]⟩, kI 13)]), (6205, .mp []), (6206, .box [.ptr 6024 0, kS [101], kI 233, .sl 1 0 6 [.agg [kS [120], kI 235, bF, bF, kS [], bF]], .sl 1 0 6 [.agg [kS [121], kI 252, bF, bF, kS [], bF]], .nils, .sl 3312 0 8 [.agg [.sl 1 0 2 [.agg [kS [121], kI 264]], bF, kI 6, kI 273, kI 0, sP, bF, .sl 1 0 6 [.agg [kI 13, kI 268, kI 0, kS [102], bF, .sl 1 0 6 [.agg [kI 3, kI 270, kI 0, kS [120], bF, .nils]]], .agg [kI 13, kI 275, kI 0, kS [102], bF, .sl 1 0 6 [.agg [kI 3, kI 277, kI 0, kS [120], bF, .nils]]]]]], .map 6204, .map 6205, .nils]), (12394, .tip 1284)], .sl 18552 0 3 [aV 333], 18553, [oC (1673, .tip 8), oC (2082, .tip 8), oC (2492, .tip 8), oC (2902, .tip 8), oC (3312, .tip 8), oC (3722, .tip 8), oC (4132, .tip 8), oC (4542, .tip 8), oC (4952, .tip 8), oC (5362, .tip 8), oC (5772, .tip 8), oC (5971, .tip 8), oC fc12_0, oC (6023, .box [kS [97], kI 5, kI 649, .sl 6037 0 1 [kI 0], .sl 6039 0 1 [kI 1], .sl 18549 0 4 (fkR12.take 638), .nils, .nils, .nils, kI 783]), oC fc12_1, oC (6037, .tip 1), oC (6039, .tip 1), oC (6204, .mp [(.string ⟨#[120]⟩, kI 12), (.string ⟨#[121]⟩, kI 13)]), oC (6205, .mp []), oC (6206, .box [.ptr 6024 0, kS [101], kI 233, .sl 1 0 6 [.agg [kS [120], kI 235, bF, bF, kS [], bF]], .sl 1 0 6 [.agg [kS [121], kI 252, bF, bF, kS [], bF]], .nils, .sl 3312 0 8 [.agg [.sl 1 0 2 [.agg [kS [121], kI 264]], bF, kI 6, kI 273, kI 0, sP, bF, .sl 1 0 6 [.agg [kI 13, kI 268, kI 0, kS [102], bF, .sl 1 0 6 [.agg [kI 3, kI 270, kI 0, kS [120], bF, .nils]]], .agg [kI 13, kI 275, kI 0, kS [102], bF, .sl 1 0 6 [.agg [kI 3, kI 277, kI 0, kS [120], bF, .nils]]]]]], .map 6204, .map 6205, .nils]), oC (18549, .tip 2552), oC (18552, .tip 3), (12394, none)]⟩
theorem fg12_1_ok : fg12_1.saysF (callX (levelsF E1 171 [fk12_4, fk12_5, fk12_6, fk12_7] 3) 2000 171 fg12_1.args fg12_1.st) = true := by kernel_rfl
theorem fg12_1_kn : KnOk Tryz.prog 171 fg12_1 := knOk_ofF (E := levelsF E1 171 [fk12_4, fk12_5, fk12_6, fk12_7] 3) (levelsG ⟨e1_ok, e1_intr⟩ e1_mix rfl (by kernel_rfl) [fk12_4, fk12_5, fk12_6, fk12_7] (fun k hk => by
    simp only [List.mem_cons, List.not_mem_nil, or_false] at hk
    rcases hk with rfl | rfl | rfl | rfl
    · exact fk12_4_kn
    · exact fk12_5_kn
    · exact fk12_6_kn
    · exact fk12_7_kn
) 3) e1_mix rfl (by kernel_rfl) fg12_1_ok
def fg12_2 : Kn := ⟨18610, [.ptr 18569 0, .agg [kI 13, kI 268, kI 0, kS [102], bF, .sl 1 0 6 [.agg [kI 3, kI 270, kI 0, kS [120], bF, .nils]]], .nils], [(1673, .tip 8), (2082, .tip 8), (2492, .tip 8), (2902, .tip 8), (3312, .tip 8), (3722, .tip 8), (4132, .tip 8), (4542, .tip 8), (4952, .tip 8), (5362, .tip 8), (5772, .tip 8), (5971, .tip 8), fc12_0, (6023, .box [kS [97], kI 5, kI 652, .sl 6037 0 1 [kI 0], .sl 6039 0 1 [kI 1], .sl 18582 0 4 (fkR12.take 641), .nils, .nils, .nils, kI 788]), fc12_1, (6037, .tip 1), (6039, .tip 1), (18567, .mp [(.string ⟨#[120]⟩, kI 649), (.string ⟨#[121]⟩, kI 650)]), (18568, .mp []), (18569, .box [.ptr 6024 0, kS [101], kI 233, .sl 1 0 6 [.agg [kS [120], kI 235, bF, bF, kS [], bF]], .sl 1 0 6 [.agg [kS [121], kI 252, bF, bF, kS [], bF]], .nils, .sl 3312 0 8 [.agg [.sl 1 0 2 [.agg [kS [121], kI 264]], bF, kI 6, kI 273, kI 0, sP, bF, .sl 1 0 6 [.agg [kI 13, kI 268, kI 0, kS [102], bF, .sl 1 0 6 [.agg [kI 3, kI 270, kI 0, kS [120], bF, .nils]]], .agg [kI 13, kI 275, kI 0, kS [102], bF, .sl 1 0 6 [.agg [kI 3, kI 277, kI 0, kS [120], bF, .nils]]]]]], .map 18567, .map 18568, .nils]), (18582, .tip 2564)], .sl 24760 0 3 [aV 653], 24761, [oC (1673, .tip 8), oC (2082, .tip 8), oC (2492, .tip 8), oC (2902, .tip 8), oC (3312, .tip 8), oC (3722, .tip 8), oC (4132, .tip 8), oC (4542, .tip 8), oC (4952, .tip 8), oC (5362, .tip 8), oC (5772, .tip 8), oC (5971, .tip 8), oC fc12_0, oC (6023, .box [kS [97], kI 5, kI 969, .sl 6037 0 1 [kI 0], .sl 6039 0 1 [kI 1], .sl 24757 0 4 (fkR12.take 958), .nils, .nils, .nils, kI 1167]), oC fc12_1, oC (6037, .tip 1), oC (6039, .tip 1), oC (18567, .mp [(.string ⟨#[120]⟩, kI 649), (.string ⟨#[121]⟩, kI 650)]), oC (18568, .mp []), oC (18569, .box [.ptr 6024 0, kS [101], kI 233, .sl 1 0 6 [.agg [kS [120], kI 235, bF, bF, kS [], bF]], .sl 1 0 6 [.agg [kS [121], kI 252, bF, bF, kS [], bF]], .nils, .sl 3312 0 8 [.agg [.sl 1 0 2 [.agg [kS [121], kI 264]], bF, kI 6, kI 273, kI 0, sP, bF, .sl 1 0 6 [.agg [kI 13, kI 268, kI 0, kS [102], bF, .sl 1 0 6 [.agg [kI 3, kI 270, kI 0, kS [120], bF, .nils]]], .agg [kI 13, kI 275, kI 0, kS [102], bF, .sl 1 0 6 [.agg [kI 3, kI 277, kI 0, kS [120], bF, .nils]]]]]], .map 18567, .map 18568, .nils]), oC (24757, .tip 3832), oC (24760, .tip 3), (18582, none)]⟩
theorem fg12_2_ok : fg12_2.saysF (callX (levelsF E1 171 [fk12_8, fk12_9, fk12_10, fk12_11] 3) 2000 171 fg12_2.args fg12_2.st) = true := by kernel_rfl
theorem fg12_2_kn : KnOk Tryz.prog 171 fg12_2 := knOk_ofF (E := levelsF E1 171 [fk12_8, fk12_9, fk12_10, fk12_11] 3) (levelsG ⟨e1_ok, e1_intr⟩ e1_mix rfl (by kernel_rfl) [fk12_8, fk12_9, fk12_10, fk12_11] (fun k hk => by
    simp only [List.mem_cons, List.not_mem_nil, or_false] at hk
    rcases hk with rfl | rfl | rfl | rfl
    · exact fk12_8_kn
    · exact fk12_9_kn
    · exact fk12_10_kn
    · exact fk12_11_kn
) 3) e1_mix rfl (by kernel_rfl) fg12_2_ok
def fg12_3 : Kn := ⟨24765, [.ptr 18569 0, .agg [kI 13, kI 275, kI 0, kS [102], bF, .sl 1 0 6 [.agg [kI 3, kI 277, kI 0, kS [120], bF, .nils]]], .nils], [(1673, .tip 8), (2082, .tip 8), (2492, .tip 8), (2902, .tip 8), (3312, .tip 8), (3722, .tip 8), (4132, .tip 8), (4542, .tip 8), (4952, .tip 8), (5362, .tip 8), (5772, .tip 8), (5971, .tip 8), fc12_0, (6023, .box [kS [97], kI 5, kI 969, .sl 6037 0 1 [kI 0], .sl 6039 0 1 [kI 1], .sl 24757 0 4 (fkR12.take 958), .nils, .nils, .nils, kI 1167]), fc12_1, (6037, .tip 1), (6039, .tip 1), (18567, .mp [(.string ⟨#[120]⟩, kI 649), (.string ⟨#[121]⟩, kI 650)]), (18568, .mp []), (18569, .box [.ptr 6024 0, kS [101], kI 233, .sl 1 0 6 [.agg [kS [120], kI 235, bF, bF, kS [], bF]], .sl 1 0 6 [.agg [kS [121], kI 252, bF, bF, kS [], bF]], .nils, .sl 3312 0 8 [.agg [.sl 1 0 2 [.agg [kS [121], kI 264]], bF, kI 6, kI 273, kI 0, sP, bF, .sl 1 0 6 [.agg [kI 13, kI 268, kI 0, kS [102], bF, .sl 1 0 6 [.agg [kI 3, kI 270, kI 0, kS [120], bF, .nils]]], .agg [kI 13, kI 275, kI 0, kS [102], bF, .sl 1 0 6 [.agg [kI 3, kI 277, kI 0, kS [120], bF, .nils]]]]]], .map 18567, .map 18568, .nils]), (24757, .tip 3832)], .sl 30111 0 3 [aV 970], 30112, [oC (1673, .tip 8), oC (2082, .tip 8), oC (2492, .tip 8), oC (2902, .tip 8), oC (3312, .tip 8), oC (3722, .tip 8), oC (4132, .tip 8), oC (4542, .tip 8), oC (4952, .tip 8), oC (5362, .tip 8), oC (5772, .tip 8), oC (5971, .tip 8), oC fc12_0, oC (6023, .box [kS [97], kI 5, kI 1246, .sl 6037 0 1 [kI 0], .sl 6039 0 1 [kI 1], .sl 30108 0 4 (fkR12 ++ [qC 1209 1 1129, qC 1212 1 1209, qC 1215 1 1212, qC 1218 1 1215, qC 1221 1 1218, qC 1222 1 1221, qC 1223 1 1218, qC 1224 1 1223, qP 1220 29669 1222 1224, qC 1219 1 1220, qC 1225 1 1215, qC 1228 1 1225, qC 1229 1 1228, qC 1230 1 1225, qC 1231 1 1230, qP 1227 29810 1229 1231, qC 1226 1 1227, qP 1217 29818 1219 1226, qC 1216 1 1217, qC 1232 1 1212, qC 1235 1 1232, qC 1238 1 1235, qC 1239 1 1238, qC 1240 1 1235, qC 1241 1 1240, qP 1237 30004 1239 1241, qC 1236 1 1237, qC 1242 1 1232, qP 1234 30047 1236 1243, qC 1233 1 1234, qP 1214 30055 1216 1233, qC 1213 1 1214, qC 1244 1 1209, qP 1211 30088 1213 1245, qC 1210 1 1211, qP 1131 30096 1133 1210, qC 1130 1 1131, qP 971 30104 973 1130, qC 970 1 971]), .nils, .nils, .nils, kI 1501]), oC (6024, .box [.ptr 6023 0, .map 6010, kI 5, kI 14]), oC (6037, .tip 1), oC (6039, .tip 1), oC (18567, .mp [(.string ⟨#[120]⟩, kI 649), (.string ⟨#[121]⟩, kI 650)]), oC (18568, .mp []), oC (18569, .box [.ptr 6024 0, kS [101], kI 233, .sl 1 0 6 [.agg [kS [120], kI 235, bF, bF, kS [], bF]], .sl 1 0 6 [.agg [kS [121], kI 252, bF, bF, kS [], bF]], .nils, .sl 3312 0 8 [.agg [.sl 1 0 2 [.agg [kS [121], kI 264]], bF, kI 6, kI 273, kI 0, sP, bF, .sl 1 0 6 [.agg [kI 13, kI 268, kI 0, kS [102], bF, .sl 1 0 6 [.agg [kI 3, kI 270, kI 0, kS [120], bF, .nils]]], .agg [kI 13, kI 275, kI 0, kS [102], bF, .sl 1 0 6 [.agg [kI 3, kI 277, kI 0, kS [120], bF, .nils]]]]]], .map 18567, .map 18568, .nils]), oC (30108, .tip 4932), oC (30111, .tip 3), (24757, none)]⟩
theorem fg12_3_ok : fg12_3.saysF (callX (levelsF E1 171 [fk12_12, fk12_13, fk12_14] 3) 2000 171 fg12_3.args fg12_3.st) = true := by kernel_rfl
theorem fg12_3_kn : KnOk Tryz.prog 171 fg12_3 := knOk_ofF (E := levelsF E1 171 [fk12_12, fk12_13, fk12_14] 3) (levelsG ⟨e1_ok, e1_intr⟩ e1_mix rfl (by kernel_rfl) [fk12_12, fk12_13, fk12_14] (fun k hk => by
    simp only [List.mem_cons, List.not_mem_nil, or_false] at hk
    rcases hk with rfl | rfl | rfl
    · exact fk12_12_kn
    · exact fk12_13_kn
    · exact fk12_14_kn
) 3) e1_mix rfl (by kernel_rfl) fg12_3_ok
theorem fkP12_ok : fkP12.says (callX E1 2000 19 fkP12.args fkP12.st) = true := by kernel_rfl
def fkB12 : Env := withI E1 19 (tab [fkP12] (fun _ _ => .fail))
theorem fkB12_snd : fkB12.Ok ∧ IntrOk fkB12 := ⟨withI_ok e1_ok _ _, withI_intr e1_intr (tab_snd e1_ok e1_intr e1_mix rfl (by kernel_rfl) (fail_snd _ _) _ (fun k hk => by simp only [List.mem_cons, List.not_mem_nil, or_false] at hk; subst hk; exact ⟨2000, fkP12_ok⟩))⟩
def fkE12 : Env := levelsF fkB12 171 [fg12_0, fg12_1, fg12_2, fg12_3] 5
theorem fkE12_snd : fkE12.Ok ∧ IntrOk fkE12 := levelsG fkB12_snd e1_mix rfl (by kernel_rfl) [fg12_0, fg12_1, fg12_2, fg12_3] (fun k hk => by
    simp only [List.mem_cons, List.not_mem_nil, or_false] at hk
    rcases hk with rfl | rfl | rfl | rfl
    · exact fg12_0_kn
    · exact fg12_1_kn
    · exact fg12_2_kn
    · exact fg12_3_kn
) 5
theorem fkE12_case : endsTrue 2 ((comp fkE12 103 flatDoublesRest none).c (callX fkE12 2000) (fr1 (12 : Int)) [] St0) = true := by kernel_rfl
end Go.Ax
