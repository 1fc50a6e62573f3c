/-
  Cases of ParseDeep, reckoned by the kernel.
-/
import Derived.Test.YtddjnjhhkffjgaaGreatDoorAxDcW
namespace Go.Ax
set_option maxRecDepth 100000
theorem parseDeepc5t : endsTrue 4 ((comp E1 61 parseDeepRest none).c (callX E1 2000) (fr 5 true) [] St0) = true := by kernel_rfl
theorem parseDeepc5f : endsTrue 4 ((comp E1 61 parseDeepRest none).c (callX E1 2000) (fr 5 false) [] St0) = true := by kernel_rfl
theorem parseDeepc17t : endsTrue 4 ((comp E1 61 parseDeepRest none).c (callX E1 2000) (fr 17 true) [] St0) = true := by kernel_rfl
theorem parseDeepc17f : endsTrue 4 ((comp E1 61 parseDeepRest none).c (callX E1 2000) (fr 17 false) [] St0) = true := by kernel_rfl
theorem parseDeepc29t : endsTrue 4 ((comp E1 61 parseDeepRest none).c (callX E1 2000) (fr 29 true) [] St0) = true := by kernel_rfl
theorem parseDeepc29f : endsTrue 4 ((comp E1 61 parseDeepRest none).c (callX E1 2000) (fr 29 false) [] St0) = true := by kernel_rfl
theorem parseDeepc41t : endsTrue 4 ((comp E1 61 parseDeepRest none).c (callX E1 2000) (fr 41 true) [] St0) = true := by kernel_rfl
theorem parseDeepc41f : endsTrue 4 ((comp E1 61 parseDeepRest none).c (callX E1 2000) (fr 41 false) [] St0) = true := by kernel_rfl
theorem parseDeepc53t : endsTrue 4 ((comp E1 61 parseDeepRest none).c (callX E1 2000) (fr 53 true) [] St0) = true := by kernel_rfl
theorem parseDeepc53f : endsTrue 4 ((comp E1 61 parseDeepRest none).c (callX E1 2000) (fr 53 false) [] St0) = true := by kernel_rfl
end Go.Ax
