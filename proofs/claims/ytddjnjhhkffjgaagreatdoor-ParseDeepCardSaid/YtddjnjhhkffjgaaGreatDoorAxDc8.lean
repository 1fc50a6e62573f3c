/-
  Cases of ParseDeep, reckoned by the kernel.
-/
import Derived.Test.YtddjnjhhkffjgaaGreatDoorAxDcW
namespace Go.Ax
set_option maxRecDepth 100000
theorem parseDeepc8t : endsTrue 4 ((comp E1 61 parseDeepRest none).c (callX E1 2000) (fr 8 true) [] St0) = true := by kernel_rfl
theorem parseDeepc8f : endsTrue 4 ((comp E1 61 parseDeepRest none).c (callX E1 2000) (fr 8 false) [] St0) = true := by kernel_rfl
theorem parseDeepc20t : endsTrue 4 ((comp E1 61 parseDeepRest none).c (callX E1 2000) (fr 20 true) [] St0) = true := by kernel_rfl
theorem parseDeepc20f : endsTrue 4 ((comp E1 61 parseDeepRest none).c (callX E1 2000) (fr 20 false) [] St0) = true := by kernel_rfl
theorem parseDeepc32t : endsTrue 4 ((comp E1 61 parseDeepRest none).c (callX E1 2000) (fr 32 true) [] St0) = true := by kernel_rfl
theorem parseDeepc32f : endsTrue 4 ((comp E1 61 parseDeepRest none).c (callX E1 2000) (fr 32 false) [] St0) = true := by kernel_rfl
theorem parseDeepc44t : endsTrue 4 ((comp E1 61 parseDeepRest none).c (callX E1 2000) (fr 44 true) [] St0) = true := by kernel_rfl
theorem parseDeepc44f : endsTrue 4 ((comp E1 61 parseDeepRest none).c (callX E1 2000) (fr 44 false) [] St0) = true := by kernel_rfl
theorem parseDeepc56t : endsTrue 4 ((comp E1 61 parseDeepRest none).c (callX E1 2000) (fr 56 true) [] St0) = true := by kernel_rfl
theorem parseDeepc56f : endsTrue 4 ((comp E1 61 parseDeepRest none).c (callX E1 2000) (fr 56 false) [] St0) = true := by kernel_rfl
end Go.Ax
