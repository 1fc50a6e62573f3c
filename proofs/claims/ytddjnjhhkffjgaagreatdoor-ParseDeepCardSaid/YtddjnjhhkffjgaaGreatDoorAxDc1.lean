/-
  Cases of ParseDeep, reckoned by the kernel.
-/
import Derived.Test.YtddjnjhhkffjgaaGreatDoorAxDcW
namespace Go.Ax
set_option maxRecDepth 100000
theorem parseDeepc1t : endsTrue 4 ((comp E1 61 parseDeepRest none).c (callX E1 2000) (fr 1 true) [] St0) = true := by kernel_rfl
theorem parseDeepc1f : endsTrue 4 ((comp E1 61 parseDeepRest none).c (callX E1 2000) (fr 1 false) [] St0) = true := by kernel_rfl
theorem parseDeepc13t : endsTrue 4 ((comp E1 61 parseDeepRest none).c (callX E1 2000) (fr 13 true) [] St0) = true := by kernel_rfl
theorem parseDeepc13f : endsTrue 4 ((comp E1 61 parseDeepRest none).c (callX E1 2000) (fr 13 false) [] St0) = true := by kernel_rfl
theorem parseDeepc25t : endsTrue 4 ((comp E1 61 parseDeepRest none).c (callX E1 2000) (fr 25 true) [] St0) = true := by kernel_rfl
theorem parseDeepc25f : endsTrue 4 ((comp E1 61 parseDeepRest none).c (callX E1 2000) (fr 25 false) [] St0) = true := by kernel_rfl
theorem parseDeepc37t : endsTrue 4 ((comp E1 61 parseDeepRest none).c (callX E1 2000) (fr 37 true) [] St0) = true := by kernel_rfl
theorem parseDeepc37f : endsTrue 4 ((comp E1 61 parseDeepRest none).c (callX E1 2000) (fr 37 false) [] St0) = true := by kernel_rfl
theorem parseDeepc49t : endsTrue 4 ((comp E1 61 parseDeepRest none).c (callX E1 2000) (fr 49 true) [] St0) = true := by kernel_rfl
theorem parseDeepc49f : endsTrue 4 ((comp E1 61 parseDeepRest none).c (callX E1 2000) (fr 49 false) [] St0) = true := by kernel_rfl
end Go.Ax
