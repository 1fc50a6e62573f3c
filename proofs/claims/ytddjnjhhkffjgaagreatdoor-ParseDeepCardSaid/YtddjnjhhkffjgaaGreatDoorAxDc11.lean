/-
  Cases of ParseDeep, reckoned by the kernel.
-/
import Derived.Test.YtddjnjhhkffjgaaGreatDoorAxDcW
namespace Go.Ax
set_option maxRecDepth 100000
theorem parseDeepc11t : endsTrue 4 ((comp E1 61 parseDeepRest none).c (callX E1 2000) (fr 11 true) [] St0) = true := by kernel_rfl
theorem parseDeepc11f : endsTrue 4 ((comp E1 61 parseDeepRest none).c (callX E1 2000) (fr 11 false) [] St0) = true := by kernel_rfl
theorem parseDeepc23t : endsTrue 4 ((comp E1 61 parseDeepRest none).c (callX E1 2000) (fr 23 true) [] St0) = true := by kernel_rfl
theorem parseDeepc23f : endsTrue 4 ((comp E1 61 parseDeepRest none).c (callX E1 2000) (fr 23 false) [] St0) = true := by kernel_rfl
theorem parseDeepc35t : endsTrue 4 ((comp E1 61 parseDeepRest none).c (callX E1 2000) (fr 35 true) [] St0) = true := by kernel_rfl
theorem parseDeepc35f : endsTrue 4 ((comp E1 61 parseDeepRest none).c (callX E1 2000) (fr 35 false) [] St0) = true := by kernel_rfl
theorem parseDeepc47t : endsTrue 4 ((comp E1 61 parseDeepRest none).c (callX E1 2000) (fr 47 true) [] St0) = true := by kernel_rfl
theorem parseDeepc47f : endsTrue 4 ((comp E1 61 parseDeepRest none).c (callX E1 2000) (fr 47 false) [] St0) = true := by kernel_rfl
theorem parseDeepc59t : endsTrue 4 ((comp E1 61 parseDeepRest none).c (callX E1 2000) (fr 59 true) [] St0) = true := by kernel_rfl
theorem parseDeepc59f : endsTrue 4 ((comp E1 61 parseDeepRest none).c (callX E1 2000) (fr 59 false) [] St0) = true := by kernel_rfl
end Go.Ax
