/-
  Cases of ParseDeep, reckoned by the kernel.
-/
import Derived.Test.YtddjnjhhkffjgaaGreatDoorAxDcW
namespace Go.Ax
set_option maxRecDepth 100000
theorem parseDeepc9t : endsTrue 4 ((comp E1 61 parseDeepRest none).c (callX E1 2000) (fr 9 true) [] St0) = true := by kernel_rfl
theorem parseDeepc9f : endsTrue 4 ((comp E1 61 parseDeepRest none).c (callX E1 2000) (fr 9 false) [] St0) = true := by kernel_rfl
theorem parseDeepc21t : endsTrue 4 ((comp E1 61 parseDeepRest none).c (callX E1 2000) (fr 21 true) [] St0) = true := by kernel_rfl
theorem parseDeepc21f : endsTrue 4 ((comp E1 61 parseDeepRest none).c (callX E1 2000) (fr 21 false) [] St0) = true := by kernel_rfl
theorem parseDeepc33t : endsTrue 4 ((comp E1 61 parseDeepRest none).c (callX E1 2000) (fr 33 true) [] St0) = true := by kernel_rfl
theorem parseDeepc33f : endsTrue 4 ((comp E1 61 parseDeepRest none).c (callX E1 2000) (fr 33 false) [] St0) = true := by kernel_rfl
theorem parseDeepc45t : endsTrue 4 ((comp E1 61 parseDeepRest none).c (callX E1 2000) (fr 45 true) [] St0) = true := by kernel_rfl
theorem parseDeepc45f : endsTrue 4 ((comp E1 61 parseDeepRest none).c (callX E1 2000) (fr 45 false) [] St0) = true := by kernel_rfl
theorem parseDeepc57t : endsTrue 4 ((comp E1 61 parseDeepRest none).c (callX E1 2000) (fr 57 true) [] St0) = true := by kernel_rfl
theorem parseDeepc57f : endsTrue 4 ((comp E1 61 parseDeepRest none).c (callX E1 2000) (fr 57 false) [] St0) = true := by kernel_rfl
end Go.Ax
