/-
  Cases of TypesRight, reckoned by the kernel.
-/
import Derived.Test.YtddjnjhhkffjgaaGreatDoorAxTrW
namespace Go.Ax
set_option maxRecDepth 100000
theorem typesRightcttf1 : endsTrue 8 ((comp E1 81 typesRightRest none).c (callX E1 2000) (frT true true false 1) [] St0) = true := by kernel_rfl
theorem typesRightctff2 : endsTrue 8 ((comp E1 81 typesRightRest none).c (callX E1 2000) (frT true false false 2) [] St0) = true := by kernel_rfl
theorem typesRightcftf3 : endsTrue 8 ((comp E1 81 typesRightRest none).c (callX E1 2000) (frT false true false 3) [] St0) = true := by kernel_rfl
theorem typesRightcfff4 : endsTrue 8 ((comp E1 81 typesRightRest none).c (callX E1 2000) (frT false false false 4) [] St0) = true := by kernel_rfl
theorem typesRightcttf6 : endsTrue 8 ((comp E1 81 typesRightRest none).c (callX E1 2000) (frT true true false 6) [] St0) = true := by kernel_rfl
theorem typesRightctff7 : endsTrue 8 ((comp E1 81 typesRightRest none).c (callX E1 2000) (frT true false false 7) [] St0) = true := by kernel_rfl
theorem typesRightcftf8 : endsTrue 8 ((comp E1 81 typesRightRest none).c (callX E1 2000) (frT false true false 8) [] St0) = true := by kernel_rfl
theorem typesRightcfff9 : endsTrue 8 ((comp E1 81 typesRightRest none).c (callX E1 2000) (frT false false false 9) [] St0) = true := by kernel_rfl
theorem typesRightcttf11 : endsTrue 8 ((comp E1 81 typesRightRest none).c (callX E1 2000) (frT true true false 11) [] St0) = true := by kernel_rfl
end Go.Ax
