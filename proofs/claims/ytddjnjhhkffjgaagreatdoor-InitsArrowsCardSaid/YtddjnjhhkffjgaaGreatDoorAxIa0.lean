/-
  Cases of InitsArrows, reckoned by the kernel.
-/
import Derived.Test.YtddjnjhhkffjgaaGreatDoorAxIaW
namespace Go.Ax
set_option maxRecDepth 100000
theorem initsArrowsc0t : endsTrue 4 ((comp E1 44 initsArrowsRest none).c (callX E1 2000) (fr 0 true) [] St0) = true := by kernel_rfl
theorem initsArrowsc0f : endsTrue 4 ((comp E1 44 initsArrowsRest none).c (callX E1 2000) (fr 0 false) [] St0) = true := by kernel_rfl
theorem initsArrowsc4t : endsTrue 4 ((comp E1 44 initsArrowsRest none).c (callX E1 2000) (fr 4 true) [] St0) = true := by kernel_rfl
theorem initsArrowsc4f : endsTrue 4 ((comp E1 44 initsArrowsRest none).c (callX E1 2000) (fr 4 false) [] St0) = true := by kernel_rfl
theorem initsArrowsc8t : endsTrue 4 ((comp E1 44 initsArrowsRest none).c (callX E1 2000) (fr 8 true) [] St0) = true := by kernel_rfl
theorem initsArrowsc8f : endsTrue 4 ((comp E1 44 initsArrowsRest none).c (callX E1 2000) (fr 8 false) [] St0) = true := by kernel_rfl
theorem initsArrowsc12t : endsTrue 4 ((comp E1 44 initsArrowsRest none).c (callX E1 2000) (fr 12 true) [] St0) = true := by kernel_rfl
theorem initsArrowsc12f : endsTrue 4 ((comp E1 44 initsArrowsRest none).c (callX E1 2000) (fr 12 false) [] St0) = true := by kernel_rfl
theorem initsArrowsc16t : endsTrue 4 ((comp E1 44 initsArrowsRest none).c (callX E1 2000) (fr 16 true) [] St0) = true := by kernel_rfl
theorem initsArrowsc16f : endsTrue 4 ((comp E1 44 initsArrowsRest none).c (callX E1 2000) (fr 16 false) [] St0) = true := by kernel_rfl
end Go.Ax
