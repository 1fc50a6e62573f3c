/-
  Cases of InitsArrows, reckoned by the kernel.
-/
import Derived.Test.YtddjnjhhkffjgaaGreatDoorAxIaW
namespace Go.Ax
set_option maxRecDepth 100000
theorem initsArrowsc2t : endsTrue 4 ((comp E1 44 initsArrowsRest none).c (callX E1 2000) (fr 2 true) [] St0) = true := by kernel_rfl
theorem initsArrowsc2f : endsTrue 4 ((comp E1 44 initsArrowsRest none).c (callX E1 2000) (fr 2 false) [] St0) = true := by kernel_rfl
theorem initsArrowsc6t : endsTrue 4 ((comp E1 44 initsArrowsRest none).c (callX E1 2000) (fr 6 true) [] St0) = true := by kernel_rfl
theorem initsArrowsc6f : endsTrue 4 ((comp E1 44 initsArrowsRest none).c (callX E1 2000) (fr 6 false) [] St0) = true := by kernel_rfl
theorem initsArrowsc10t : endsTrue 4 ((comp E1 44 initsArrowsRest none).c (callX E1 2000) (fr 10 true) [] St0) = true := by kernel_rfl
theorem initsArrowsc10f : endsTrue 4 ((comp E1 44 initsArrowsRest none).c (callX E1 2000) (fr 10 false) [] St0) = true := by kernel_rfl
theorem initsArrowsc14t : endsTrue 4 ((comp E1 44 initsArrowsRest none).c (callX E1 2000) (fr 14 true) [] St0) = true := by kernel_rfl
theorem initsArrowsc14f : endsTrue 4 ((comp E1 44 initsArrowsRest none).c (callX E1 2000) (fr 14 false) [] St0) = true := by kernel_rfl
theorem initsArrowsc18t : endsTrue 4 ((comp E1 44 initsArrowsRest none).c (callX E1 2000) (fr 18 true) [] St0) = true := by kernel_rfl
theorem initsArrowsc18f : endsTrue 4 ((comp E1 44 initsArrowsRest none).c (callX E1 2000) (fr 18 false) [] St0) = true := by kernel_rfl
end Go.Ax
