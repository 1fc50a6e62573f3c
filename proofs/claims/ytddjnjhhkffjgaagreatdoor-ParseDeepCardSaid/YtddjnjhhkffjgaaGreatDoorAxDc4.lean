/-
  Cases of ParseDeep, reckoned by the kernel.
-/
import Derived.Test.YtddjnjhhkffjgaaGreatDoorAxDcW
namespace Go.Ax
set_option maxRecDepth 100000
theorem parseDeepc4t : endsTrue 4 ((comp E1 61 parseDeepRest none).c (callX E1 2000) (fr 4 true) [] St0) = true := by kernel_rfl
theorem parseDeepc4f : endsTrue 4 ((comp E1 61 parseDeepRest none).c (callX E1 2000) (fr 4 false) [] St0) = true := by kernel_rfl
theorem parseDeepc16t : endsTrue 4 ((comp E1 61 parseDeepRest none).c (callX E1 2000) (fr 16 true) [] St0) = true := by kernel_rfl
theorem parseDeepc16f : endsTrue 4 ((comp E1 61 parseDeepRest none).c (callX E1 2000) (fr 16 false) [] St0) = true := by kernel_rfl
theorem parseDeepc28t : endsTrue 4 ((comp E1 61 parseDeepRest none).c (callX E1 2000) (fr 28 true) [] St0) = true := by kernel_rfl
theorem parseDeepc28f : endsTrue 4 ((comp E1 61 parseDeepRest none).c (callX E1 2000) (fr 28 false) [] St0) = true := by kernel_rfl
theorem parseDeepc40t : endsTrue 4 ((comp E1 61 parseDeepRest none).c (callX E1 2000) (fr 40 true) [] St0) = true := by kernel_rfl
theorem parseDeepc40f : endsTrue 4 ((comp E1 61 parseDeepRest none).c (callX E1 2000) (fr 40 false) [] St0) = true := by kernel_rfl
theorem parseDeepc52t : endsTrue 4 ((comp E1 61 parseDeepRest none).c (callX E1 2000) (fr 52 true) [] St0) = true := by kernel_rfl
theorem parseDeepc52f : endsTrue 4 ((comp E1 61 parseDeepRest none).c (callX E1 2000) (fr 52 false) [] St0) = true := by kernel_rfl
end Go.Ax
