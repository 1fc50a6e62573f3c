/-
  Cases of ParseDeep, reckoned by the kernel.
-/
import Derived.Test.YtddjnjhhkffjgaaGreatDoorAxDcW
namespace Go.Ax
set_option maxRecDepth 100000
theorem parseDeepc3t : endsTrue 4 ((comp E1 61 parseDeepRest none).c (callX E1 2000) (fr 3 true) [] St0) = true := by kernel_rfl
theorem parseDeepc3f : endsTrue 4 ((comp E1 61 parseDeepRest none).c (callX E1 2000) (fr 3 false) [] St0) = true := by kernel_rfl
theorem parseDeepc15t : endsTrue 4 ((comp E1 61 parseDeepRest none).c (callX E1 2000) (fr 15 true) [] St0) = true := by kernel_rfl
theorem parseDeepc15f : endsTrue 4 ((comp E1 61 parseDeepRest none).c (callX E1 2000) (fr 15 false) [] St0) = true := by kernel_rfl
theorem parseDeepc27t : endsTrue 4 ((comp E1 61 parseDeepRest none).c (callX E1 2000) (fr 27 true) [] St0) = true := by kernel_rfl
theorem parseDeepc27f : endsTrue 4 ((comp E1 61 parseDeepRest none).c (callX E1 2000) (fr 27 false) [] St0) = true := by kernel_rfl
theorem parseDeepc39t : endsTrue 4 ((comp E1 61 parseDeepRest none).c (callX E1 2000) (fr 39 true) [] St0) = true := by kernel_rfl
theorem parseDeepc39f : endsTrue 4 ((comp E1 61 parseDeepRest none).c (callX E1 2000) (fr 39 false) [] St0) = true := by kernel_rfl
theorem parseDeepc51t : endsTrue 4 ((comp E1 61 parseDeepRest none).c (callX E1 2000) (fr 51 true) [] St0) = true := by kernel_rfl
theorem parseDeepc51f : endsTrue 4 ((comp E1 61 parseDeepRest none).c (callX E1 2000) (fr 51 false) [] St0) = true := by kernel_rfl
end Go.Ax
