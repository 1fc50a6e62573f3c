/-
  Cases of InitsArrows, reckoned by the kernel.
-/
import Derived.Test.YtddjnjhhkffjgaaGreatDoorAxIaW
namespace Go.Ax
set_option maxRecDepth 100000
theorem initsArrowsc1t : endsTrue 4 ((comp E1 44 initsArrowsRest none).c (callX E1 2000) (fr 1 true) [] St0) = true := by kernel_rfl
theorem initsArrowsc1f : endsTrue 4 ((comp E1 44 initsArrowsRest none).c (callX E1 2000) (fr 1 false) [] St0) = true := by kernel_rfl
theorem initsArrowsc5t : endsTrue 4 ((comp E1 44 initsArrowsRest none).c (callX E1 2000) (fr 5 true) [] St0) = true := by kernel_rfl
theorem initsArrowsc5f : endsTrue 4 ((comp E1 44 initsArrowsRest none).c (callX E1 2000) (fr 5 false) [] St0) = true := by kernel_rfl
theorem initsArrowsc9t : endsTrue 4 ((comp E1 44 initsArrowsRest none).c (callX E1 2000) (fr 9 true) [] St0) = true := by kernel_rfl
theorem initsArrowsc9f : endsTrue 4 ((comp E1 44 initsArrowsRest none).c (callX E1 2000) (fr 9 false) [] St0) = true := by kernel_rfl
theorem initsArrowsc13t : endsTrue 4 ((comp E1 44 initsArrowsRest none).c (callX E1 2000) (fr 13 true) [] St0) = true := by kernel_rfl
theorem initsArrowsc13f : endsTrue 4 ((comp E1 44 initsArrowsRest none).c (callX E1 2000) (fr 13 false) [] St0) = true := by kernel_rfl
theorem initsArrowsc17t : endsTrue 4 ((comp E1 44 initsArrowsRest none).c (callX E1 2000) (fr 17 true) [] St0) = true := by kernel_rfl
theorem initsArrowsc17f : endsTrue 4 ((comp E1 44 initsArrowsRest none).c (callX E1 2000) (fr 17 false) [] St0) = true := by kernel_rfl
end Go.Ax
