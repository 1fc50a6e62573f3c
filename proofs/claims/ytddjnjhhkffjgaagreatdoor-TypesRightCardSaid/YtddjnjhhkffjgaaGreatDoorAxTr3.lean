/-
  Cases of TypesRight, reckoned by the kernel.
-/
import Derived.Test.YtddjnjhhkffjgaaGreatDoorAxTrW
namespace Go.Ax
set_option maxRecDepth 100000
theorem typesRightctff0 : endsTrue 8 ((comp E1 81 typesRightRest none).c (callX E1 2000) (frT true false false 0) [] St0) = true := by kernel_rfl
theorem typesRightcftf1 : endsTrue 8 ((comp E1 81 typesRightRest none).c (callX E1 2000) (frT false true false 1) [] St0) = true := by kernel_rfl
theorem typesRightcfff2 : endsTrue 8 ((comp E1 81 typesRightRest none).c (callX E1 2000) (frT false false false 2) [] St0) = true := by kernel_rfl
theorem typesRightcttf4 : endsTrue 8 ((comp E1 81 typesRightRest none).c (callX E1 2000) (frT true true false 4) [] St0) = true := by kernel_rfl
theorem typesRightctff5 : endsTrue 8 ((comp E1 81 typesRightRest none).c (callX E1 2000) (frT true false false 5) [] St0) = true := by kernel_rfl
theorem typesRightcftf6 : endsTrue 8 ((comp E1 81 typesRightRest none).c (callX E1 2000) (frT false true false 6) [] St0) = true := by kernel_rfl
theorem typesRightcfff7 : endsTrue 8 ((comp E1 81 typesRightRest none).c (callX E1 2000) (frT false false false 7) [] St0) = true := by kernel_rfl
theorem typesRightcttf9 : endsTrue 8 ((comp E1 81 typesRightRest none).c (callX E1 2000) (frT true true false 9) [] St0) = true := by kernel_rfl
theorem typesRightctff10 : endsTrue 8 ((comp E1 81 typesRightRest none).c (callX E1 2000) (frT true false false 10) [] St0) = true := by kernel_rfl
theorem typesRightcftf11 : endsTrue 8 ((comp E1 81 typesRightRest none).c (callX E1 2000) (frT false true false 11) [] St0) = true := by kernel_rfl
end Go.Ax
