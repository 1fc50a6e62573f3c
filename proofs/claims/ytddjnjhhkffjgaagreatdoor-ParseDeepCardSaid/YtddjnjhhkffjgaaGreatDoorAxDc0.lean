/-
  Cases of ParseDeep, reckoned by the kernel.
-/
import Derived.Test.YtddjnjhhkffjgaaGreatDoorAxDcW
namespace Go.Ax
set_option maxRecDepth 100000
theorem parseDeepc0t : endsTrue 4 ((comp E1 61 parseDeepRest none).c (callX E1 2000) (fr 0 true) [] St0) = true := by kernel_rfl
theorem parseDeepc0f : endsTrue 4 ((comp E1 61 parseDeepRest none).c (callX E1 2000) (fr 0 false) [] St0) = true := by kernel_rfl
theorem parseDeepc12t : endsTrue 4 ((comp E1 61 parseDeepRest none).c (callX E1 2000) (fr 12 true) [] St0) = true := by kernel_rfl
theorem parseDeepc12f : endsTrue 4 ((comp E1 61 parseDeepRest none).c (callX E1 2000) (fr 12 false) [] St0) = true := by kernel_rfl
theorem parseDeepc24t : endsTrue 4 ((comp E1 61 parseDeepRest none).c (callX E1 2000) (fr 24 true) [] St0) = true := by kernel_rfl
theorem parseDeepc24f : endsTrue 4 ((comp E1 61 parseDeepRest none).c (callX E1 2000) (fr 24 false) [] St0) = true := by kernel_rfl
theorem parseDeepc36t : endsTrue 4 ((comp E1 61 parseDeepRest none).c (callX E1 2000) (fr 36 true) [] St0) = true := by kernel_rfl
theorem parseDeepc36f : endsTrue 4 ((comp E1 61 parseDeepRest none).c (callX E1 2000) (fr 36 false) [] St0) = true := by kernel_rfl
theorem parseDeepc48t : endsTrue 4 ((comp E1 61 parseDeepRest none).c (callX E1 2000) (fr 48 true) [] St0) = true := by kernel_rfl
theorem parseDeepc48f : endsTrue 4 ((comp E1 61 parseDeepRest none).c (callX E1 2000) (fr 48 false) [] St0) = true := by kernel_rfl
end Go.Ax
