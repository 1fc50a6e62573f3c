/-
  FlatDoubles with 8 nodes.
-/
import Derived.Test.YtjgknelmjdallaaGreatDoorFdFw2
import Derived.Test.YtjgknelmjdallaaGreatDoorFdTd
import Derived.Test.YtjgknelmjdallaaGreatDoorFdFk8
import Derived.Test.YtjgknelmjdallaaGreatDoorFdFk8x0
import Derived.Test.YtjgknelmjdallaaGreatDoorFdFk8x1
noncomputable section
namespace Go.Ax
open Go.Proofs
set_option maxRecDepth 100000
set_option linter.unusedVariables false
theorem fk8_0_kn : KnOk Tryz.prog 171 fk8_0 := knOk_of (E := E1) ⟨e1_ok, e1_intr⟩ e1_mix rfl (by kernel_rfl) fk8_0_ok
theorem fk8_1_kn : KnOk Tryz.prog 171 fk8_1 := knOk_of (E := E1) ⟨e1_ok, e1_intr⟩ e1_mix rfl (by kernel_rfl) fk8_1_ok
theorem fk8_2_kn : KnOk Tryz.prog 171 fk8_2 := knOk_of (E := E1) ⟨e1_ok, e1_intr⟩ e1_mix rfl (by kernel_rfl) fk8_2_ok
theorem fk8_3_kn : KnOk Tryz.prog 171 fk8_3 := knOk_of (E := E1) ⟨e1_ok, e1_intr⟩ e1_mix rfl (by kernel_rfl) fk8_3_ok
theorem fk8_4_kn : KnOk Tryz.prog 171 fk8_4 := knOk_of (E := E1) ⟨e1_ok, e1_intr⟩ e1_mix rfl (by kernel_rfl) fk8_4_ok
theorem fk8_5_kn : KnOk Tryz.prog 171 fk8_5 := knOk_of (E := E1) ⟨e1_ok, e1_intr⟩ e1_mix rfl (by kernel_rfl) fk8_5_ok
theorem fk8_6_kn : KnOk Tryz.prog 171 fk8_6 := knOk_of (E := E1) ⟨e1_ok, e1_intr⟩ e1_mix rfl (by kernel_rfl) fk8_6_ok
theorem fk8_7_kn : KnOk Tryz.prog 171 fk8_7 := knOk_of (E := E1) ⟨e1_ok, e1_intr⟩ e1_mix rfl (by kernel_rfl) fk8_7_ok
def fg8_0 : Kn := ⟨3991, [.ptr 3953 0, .agg [kI 13, kI 40, kI 0, kS [98], bF, .bs 3926 0 1 6], .nils], [(1241, .tip 8), (1650, .tip 8), (2060, .tip 8), (2470, .tip 8), (2880, .tip 8), (3290, .tip 8), (3700, .tip 8), (3899, .tip 8), (3915, .tip 6), (3916, .tip 6), (3917, .box [.sl 3919 0 2 [.agg [kS [121], kI 36]], bF, kI 6, kI 45, kI 0, sP, bF, .bs 3922 0 2 6]), (3919, .tip 2), (3922, .box [kI 13, kI 40, kI 0, kS [98], bF, .bs 3926 0 1 6, kI 13, kI 47, kI 0, kS [98], bF, .bs 3933 0 1 6]), (3926, .box [kI 3, kI 42, kI 0, kS [120], bF, .nils]), (3933, .box [kI 3, kI 49, kI 0, kS [120], bF, .nils]), fc8_0, (3947, .box [kS [97], kI 5, kI 3, .sl 3961 0 1 [kI 0], .sl 3963 0 1 [kI 1], .nils, .nils, .nils, .nils, kI 5]), fc8_1, (3951, .mp [(.string ⟨#[120]⟩, kI 0), (.string ⟨#[121]⟩, kI 1)]), (3952, .mp []), (3953, .box [.ptr 3948 0, kS [97], kI 5, .sl 3915 0 6 [.agg [kS [120], kI 7, bF, bF, kS [], bF]], .sl 3916 0 6 [.agg [kS [121], kI 24, bF, bF, kS [], bF]], .nils, .bs 3917 0 1 8, .map 3951, .map 3952, .nils]), (3961, .tip 1), (3963, .tip 1)], .sl 10141 0 3 [aV 4], 10142, [oC (1241, .tip 8), oC (1650, .tip 8), oC (2060, .tip 8), oC (2470, .tip 8), oC (2880, .tip 8), oC (3290, .tip 8), oC (3700, .tip 8), oC (3899, .tip 8), oC (3915, .tip 6), oC (3916, .tip 6), oC (3917, .box [.sl 3919 0 2 [.agg [kS [121], kI 36]], bF, kI 6, kI 45, kI 0, sP, bF, .bs 3922 0 2 6]), oC (3919, .tip 2), oC (3922, .box [kI 13, kI 40, kI 0, kS [98], bF, .bs 3926 0 1 6, kI 13, kI 47, kI 0, kS [98], bF, .bs 3933 0 1 6]), oC (3926, .box [kI 3, kI 42, kI 0, kS [120], bF, .nils]), oC (3933, .box [kI 3, kI 49, kI 0, kS [120], bF, .nils]), oC fc8_0, oC (3947, .box [kS [97], kI 5, kI 320, .sl 3961 0 1 [kI 0], .sl 3963 0 1 [kI 1], .sl 10138 0 4 (fkR8.take 317), .nils, .nils, .nils, kI 384]), oC fc8_1, oC (3951, .mp [(.string ⟨#[120]⟩, kI 0), (.string ⟨#[121]⟩, kI 1)]), oC (3952, .mp []), oC (3953, .box [.ptr 3948 0, kS [97], kI 5, .sl 3915 0 6 [.agg [kS [120], kI 7, bF, bF, kS [], bF]], .sl 3916 0 6 [.agg [kS [121], kI 24, bF, bF, kS [], bF]], .nils, .bs 3917 0 1 8, .map 3951, .map 3952, .nils]), oC (3961, .tip 1), oC (3963, .tip 1), oC (10138, .tip 1268), oC (10141, .tip 3)]⟩
theorem fg8_0_ok : fg8_0.saysF (callX (levelsF E1 171 [fk8_0, fk8_1, fk8_2, fk8_3] 3) 2000 171 fg8_0.args fg8_0.st) = true := by kernel_rfl
theorem fg8_0_kn : KnOk Tryz.prog 171 fg8_0 := knOk_ofF (E := levelsF E1 171 [fk8_0, fk8_1, fk8_2, fk8_3] 3) (levelsG ⟨e1_ok, e1_intr⟩ e1_mix rfl (by kernel_rfl) [fk8_0, fk8_1, fk8_2, fk8_3] (fun k hk => by
    simp only [List.mem_cons, List.not_mem_nil, or_false] at hk
    rcases hk with rfl | rfl | rfl | rfl
    · exact fk8_0_kn
    · exact fk8_1_kn
    · exact fk8_2_kn
    · exact fk8_3_kn
) 3) e1_mix rfl (by kernel_rfl) fg8_0_ok
def fg8_1 : Kn := ⟨10146, [.ptr 3953 0, .agg [kI 13, kI 47, kI 0, kS [98], bF, .bs 3933 0 1 6], .nils], [(1241, .tip 8), (1650, .tip 8), (2060, .tip 8), (2470, .tip 8), (2880, .tip 8), (3290, .tip 8), (3700, .tip 8), (3899, .tip 8), (3915, .tip 6), (3916, .tip 6), (3917, .box [.sl 3919 0 2 [.agg [kS [121], kI 36]], bF, kI 6, kI 45, kI 0, sP, bF, .bs 3922 0 2 6]), (3919, .tip 2), (3922, .box [kI 13, kI 40, kI 0, kS [98], bF, .bs 3926 0 1 6, kI 13, kI 47, kI 0, kS [98], bF, .bs 3933 0 1 6]), (3926, .box [kI 3, kI 42, kI 0, kS [120], bF, .nils]), (3933, .box [kI 3, kI 49, kI 0, kS [120], bF, .nils]), fc8_0, (3947, .box [kS [97], kI 5, kI 320, .sl 3961 0 1 [kI 0], .sl 3963 0 1 [kI 1], .sl 10138 0 4 (fkR8.take 317), .nils, .nils, .nils, kI 384]), fc8_1, (3951, .mp [(.string ⟨#[120]⟩, kI 0), (.string ⟨#[121]⟩, kI 1)]), (3952, .mp []), (3953, .box [.ptr 3948 0, kS [97], kI 5, .sl 3915 0 6 [.agg [kS [120], kI 7, bF, bF, kS [], bF]], .sl 3916 0 6 [.agg [kS [121], kI 24, bF, bF, kS [], bF]], .nils, .bs 3917 0 1 8, .map 3951, .map 3952, .nils]), (3961, .tip 1), (3963, .tip 1), (10138, .tip 1268)], .sl 16296 0 3 [aV 321], 16297, [oC (1241, .tip 8), oC (1650, .tip 8), oC (2060, .tip 8), oC (2470, .tip 8), oC (2880, .tip 8), oC (3290, .tip 8), oC (3700, .tip 8), oC (3899, .tip 8), oC (3915, .tip 6), oC (3916, .tip 6), oC (3917, .box [.sl 3919 0 2 [.agg [kS [121], kI 36]], bF, kI 6, kI 45, kI 0, sP, bF, .bs 3922 0 2 6]), oC (3919, .tip 2), oC (3922, .box [kI 13, kI 40, kI 0, kS [98], bF, .bs 3926 0 1 6, kI 13, kI 47, kI 0, kS [98], bF, .bs 3933 0 1 6]), oC (3926, .box [kI 3, kI 42, kI 0, kS [120], bF, .nils]), oC (3933, .box [kI 3, kI 49, kI 0, kS [120], bF, .nils]), oC fc8_0, oC (3947, .box [kS [97], kI 5, kI 637, .sl 3961 0 1 [kI 0], .sl 3963 0 1 [kI 1], .sl 16293 0 4 (fkR8 ++ [qP 482 16281 484 561, qC 481 1 482, qP 322 16289 324 481, qC 321 1 322]), .nils, .nils, .nils, kI 763]), oC fc8_1, oC (3951, .mp [(.string ⟨#[120]⟩, kI 0), (.string ⟨#[121]⟩, kI 1)]), oC (3952, .mp []), oC (3953, .box [.ptr 3948 0, kS [97], kI 5, .sl 3915 0 6 [.agg [kS [120], kI 7, bF, bF, kS [], bF]], .sl 3916 0 6 [.agg [kS [121], kI 24, bF, bF, kS [], bF]], .nils, .bs 3917 0 1 8, .map 3951, .map 3952, .nils]), oC (3961, .tip 1), oC (3963, .tip 1), oC (16293, .tip 2536), oC (16296, .tip 3), (10138, none)]⟩
theorem fg8_1_ok : fg8_1.saysF (callX (levelsF E1 171 [fk8_4, fk8_5, fk8_6, fk8_7] 3) 2000 171 fg8_1.args fg8_1.st) = true := by kernel_rfl
theorem fg8_1_kn : KnOk Tryz.prog 171 fg8_1 := knOk_ofF (E := levelsF E1 171 [fk8_4, fk8_5, fk8_6, fk8_7] 3) (levelsG ⟨e1_ok, e1_intr⟩ e1_mix rfl (by kernel_rfl) [fk8_4, fk8_5, fk8_6, fk8_7] (fun k hk => by
    simp only [List.mem_cons, List.not_mem_nil, or_false] at hk
    rcases hk with rfl | rfl | rfl | rfl
    · exact fk8_4_kn
    · exact fk8_5_kn
    · exact fk8_6_kn
    · exact fk8_7_kn
) 3) e1_mix rfl (by kernel_rfl) fg8_1_ok
theorem fkP8_ok : fkP8.says (callX E1 2000 19 fkP8.args fkP8.st) = true := by kernel_rfl
def fkB8 : Env := withI E1 19 (tab [fkP8] (fun _ _ => .fail))
theorem fkB8_snd : fkB8.Ok ∧ IntrOk fkB8 := ⟨withI_ok e1_ok _ _, withI_intr e1_intr (tab_snd e1_ok e1_intr e1_mix rfl (by kernel_rfl) (fail_snd _ _) _ (fun k hk => by simp only [List.mem_cons, List.not_mem_nil, or_false] at hk; subst hk; exact ⟨2000, fkP8_ok⟩))⟩
def fkE8 : Env := levelsF fkB8 171 [fg8_0, fg8_1] 1
theorem fkE8_snd : fkE8.Ok ∧ IntrOk fkE8 := levelsG fkB8_snd e1_mix rfl (by kernel_rfl) [fg8_0, fg8_1] (fun k hk => by
    simp only [List.mem_cons, List.not_mem_nil, or_false] at hk
    rcases hk with rfl | rfl
    · exact fg8_0_kn
    · exact fg8_1_kn
) 1
theorem fkE8_case : endsTrue 2 ((comp fkE8 103 flatDoublesRest none).c (callX fkE8 2000) (fr1 (8 : Int)) [] St0) = true := by kernel_rfl
end Go.Ax
