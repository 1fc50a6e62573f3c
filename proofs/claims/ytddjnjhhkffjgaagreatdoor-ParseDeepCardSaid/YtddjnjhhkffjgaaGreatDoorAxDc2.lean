/-
  Cases of ParseDeep, reckoned by the kernel.
-/
import Derived.Test.YtddjnjhhkffjgaaGreatDoorAxDcW
namespace Go.Ax
set_option maxRecDepth 100000
theorem parseDeepc2t : endsTrue 4 ((comp E1 61 parseDeepRest none).c (callX E1 2000) (fr 2 true) [] St0) = true := by kernel_rfl
theorem parseDeepc2f : endsTrue 4 ((comp E1 61 parseDeepRest none).c (callX E1 2000) (fr 2 false) [] St0) = true := by kernel_rfl
theorem parseDeepc14t : endsTrue 4 ((comp E1 61 parseDeepRest none).c (callX E1 2000) (fr 14 true) [] St0) = true := by kernel_rfl
theorem parseDeepc14f : endsTrue 4 ((comp E1 61 parseDeepRest none).c (callX E1 2000) (fr 14 false) [] St0) = true := by kernel_rfl
theorem parseDeepc26t : endsTrue 4 ((comp E1 61 parseDeepRest none).c (callX E1 2000) (fr 26 true) [] St0) = true := by kernel_rfl
theorem parseDeepc26f : endsTrue 4 ((comp E1 61 parseDeepRest none).c (callX E1 2000) (fr 26 false) [] St0) = true := by kernel_rfl
theorem parseDeepc38t : endsTrue 4 ((comp E1 61 parseDeepRest none).c (callX E1 2000) (fr 38 true) [] St0) = true := by kernel_rfl
theorem parseDeepc38f : endsTrue 4 ((comp E1 61 parseDeepRest none).c (callX E1 2000) (fr 38 false) [] St0) = true := by kernel_rfl
theorem parseDeepc50t : endsTrue 4 ((comp E1 61 parseDeepRest none).c (callX E1 2000) (fr 50 true) [] St0) = true := by kernel_rfl
theorem parseDeepc50f : endsTrue 4 ((comp E1 61 parseDeepRest none).c (callX E1 2000) (fr 50 false) [] St0) = true := by kernel_rfl
end Go.Ax
