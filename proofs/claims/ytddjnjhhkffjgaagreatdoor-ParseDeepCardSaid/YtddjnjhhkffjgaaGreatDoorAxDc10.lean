/-
  Cases of ParseDeep, reckoned by the kernel.
-/
import Derived.Test.YtddjnjhhkffjgaaGreatDoorAxDcW
namespace Go.Ax
set_option maxRecDepth 100000
theorem parseDeepc10t : endsTrue 4 ((comp E1 61 parseDeepRest none).c (callX E1 2000) (fr 10 true) [] St0) = true := by kernel_rfl
theorem parseDeepc10f : endsTrue 4 ((comp E1 61 parseDeepRest none).c (callX E1 2000) (fr 10 false) [] St0) = true := by kernel_rfl
theorem parseDeepc22t : endsTrue 4 ((comp E1 61 parseDeepRest none).c (callX E1 2000) (fr 22 true) [] St0) = true := by kernel_rfl
theorem parseDeepc22f : endsTrue 4 ((comp E1 61 parseDeepRest none).c (callX E1 2000) (fr 22 false) [] St0) = true := by kernel_rfl
theorem parseDeepc34t : endsTrue 4 ((comp E1 61 parseDeepRest none).c (callX E1 2000) (fr 34 true) [] St0) = true := by kernel_rfl
theorem parseDeepc34f : endsTrue 4 ((comp E1 61 parseDeepRest none).c (callX E1 2000) (fr 34 false) [] St0) = true := by kernel_rfl
theorem parseDeepc46t : endsTrue 4 ((comp E1 61 parseDeepRest none).c (callX E1 2000) (fr 46 true) [] St0) = true := by kernel_rfl
theorem parseDeepc46f : endsTrue 4 ((comp E1 61 parseDeepRest none).c (callX E1 2000) (fr 46 false) [] St0) = true := by kernel_rfl
theorem parseDeepc58t : endsTrue 4 ((comp E1 61 parseDeepRest none).c (callX E1 2000) (fr 58 true) [] St0) = true := by kernel_rfl
theorem parseDeepc58f : endsTrue 4 ((comp E1 61 parseDeepRest none).c (callX E1 2000) (fr 58 false) [] St0) = true := by kernel_rfl
end Go.Ax
