/-
  Cases of ParseDeep, reckoned by the kernel.
-/
import Derived.Test.YtddjnjhhkffjgaaGreatDoorAxDcW
namespace Go.Ax
set_option maxRecDepth 100000
theorem parseDeepc7t : endsTrue 4 ((comp E1 61 parseDeepRest none).c (callX E1 2000) (fr 7 true) [] St0) = true := by kernel_rfl
theorem parseDeepc7f : endsTrue 4 ((comp E1 61 parseDeepRest none).c (callX E1 2000) (fr 7 false) [] St0) = true := by kernel_rfl
theorem parseDeepc19t : endsTrue 4 ((comp E1 61 parseDeepRest none).c (callX E1 2000) (fr 19 true) [] St0) = true := by kernel_rfl
theorem parseDeepc19f : endsTrue 4 ((comp E1 61 parseDeepRest none).c (callX E1 2000) (fr 19 false) [] St0) = true := by kernel_rfl
theorem parseDeepc31t : endsTrue 4 ((comp E1 61 parseDeepRest none).c (callX E1 2000) (fr 31 true) [] St0) = true := by kernel_rfl
theorem parseDeepc31f : endsTrue 4 ((comp E1 61 parseDeepRest none).c (callX E1 2000) (fr 31 false) [] St0) = true := by kernel_rfl
theorem parseDeepc43t : endsTrue 4 ((comp E1 61 parseDeepRest none).c (callX E1 2000) (fr 43 true) [] St0) = true := by kernel_rfl
theorem parseDeepc43f : endsTrue 4 ((comp E1 61 parseDeepRest none).c (callX E1 2000) (fr 43 false) [] St0) = true := by kernel_rfl
theorem parseDeepc55t : endsTrue 4 ((comp E1 61 parseDeepRest none).c (callX E1 2000) (fr 55 true) [] St0) = true := by kernel_rfl
theorem parseDeepc55f : endsTrue 4 ((comp E1 61 parseDeepRest none).c (callX E1 2000) (fr 55 false) [] St0) = true := by kernel_rfl
end Go.Ax
