/-
  Cases of ParseDeep, reckoned by the kernel.
-/
import Derived.Test.YtddjnjhhkffjgaaGreatDoorAxDcW
namespace Go.Ax
set_option maxRecDepth 100000
theorem parseDeepc6t : endsTrue 4 ((comp E1 61 parseDeepRest none).c (callX E1 2000) (fr 6 true) [] St0) = true := by kernel_rfl
theorem parseDeepc6f : endsTrue 4 ((comp E1 61 parseDeepRest none).c (callX E1 2000) (fr 6 false) [] St0) = true := by kernel_rfl
theorem parseDeepc18t : endsTrue 4 ((comp E1 61 parseDeepRest none).c (callX E1 2000) (fr 18 true) [] St0) = true := by kernel_rfl
theorem parseDeepc18f : endsTrue 4 ((comp E1 61 parseDeepRest none).c (callX E1 2000) (fr 18 false) [] St0) = true := by kernel_rfl
theorem parseDeepc30t : endsTrue 4 ((comp E1 61 parseDeepRest none).c (callX E1 2000) (fr 30 true) [] St0) = true := by kernel_rfl
theorem parseDeepc30f : endsTrue 4 ((comp E1 61 parseDeepRest none).c (callX E1 2000) (fr 30 false) [] St0) = true := by kernel_rfl
theorem parseDeepc42t : endsTrue 4 ((comp E1 61 parseDeepRest none).c (callX E1 2000) (fr 42 true) [] St0) = true := by kernel_rfl
theorem parseDeepc42f : endsTrue 4 ((comp E1 61 parseDeepRest none).c (callX E1 2000) (fr 42 false) [] St0) = true := by kernel_rfl
theorem parseDeepc54t : endsTrue 4 ((comp E1 61 parseDeepRest none).c (callX E1 2000) (fr 54 true) [] St0) = true := by kernel_rfl
theorem parseDeepc54f : endsTrue 4 ((comp E1 61 parseDeepRest none).c (callX E1 2000) (fr 54 false) [] St0) = true := by kernel_rfl
end Go.Ax
