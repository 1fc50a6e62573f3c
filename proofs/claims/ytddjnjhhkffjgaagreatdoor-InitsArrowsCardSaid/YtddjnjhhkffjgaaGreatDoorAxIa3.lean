/-
  Cases of InitsArrows, reckoned by the kernel.
-/
import Derived.Test.YtddjnjhhkffjgaaGreatDoorAxIaW
namespace Go.Ax
set_option maxRecDepth 100000
theorem initsArrowsc3t : endsTrue 4 ((comp E1 44 initsArrowsRest none).c (callX E1 2000) (fr 3 true) [] St0) = true := by kernel_rfl
theorem initsArrowsc3f : endsTrue 4 ((comp E1 44 initsArrowsRest none).c (callX E1 2000) (fr 3 false) [] St0) = true := by kernel_rfl
theorem initsArrowsc7t : endsTrue 4 ((comp E1 44 initsArrowsRest none).c (callX E1 2000) (fr 7 true) [] St0) = true := by kernel_rfl
theorem initsArrowsc7f : endsTrue 4 ((comp E1 44 initsArrowsRest none).c (callX E1 2000) (fr 7 false) [] St0) = true := by kernel_rfl
theorem initsArrowsc11t : endsTrue 4 ((comp E1 44 initsArrowsRest none).c (callX E1 2000) (fr 11 true) [] St0) = true := by kernel_rfl
theorem initsArrowsc11f : endsTrue 4 ((comp E1 44 initsArrowsRest none).c (callX E1 2000) (fr 11 false) [] St0) = true := by kernel_rfl
theorem initsArrowsc15t : endsTrue 4 ((comp E1 44 initsArrowsRest none).c (callX E1 2000) (fr 15 true) [] St0) = true := by kernel_rfl
theorem initsArrowsc15f : endsTrue 4 ((comp E1 44 initsArrowsRest none).c (callX E1 2000) (fr 15 false) [] St0) = true := by kernel_rfl
theorem initsArrowsc19t : endsTrue 4 ((comp E1 44 initsArrowsRest none).c (callX E1 2000) (fr 19 true) [] St0) = true := by kernel_rfl
theorem initsArrowsc19f : endsTrue 4 ((comp E1 44 initsArrowsRest none).c (callX E1 2000) (fr 19 false) [] St0) = true := by kernel_rfl
end Go.Ax
