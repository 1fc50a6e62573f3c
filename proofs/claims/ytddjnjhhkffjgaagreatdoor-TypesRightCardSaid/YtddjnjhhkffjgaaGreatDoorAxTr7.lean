/-
  Cases of TypesRight, reckoned by the kernel.
-/
import Derived.Test.YtddjnjhhkffjgaaGreatDoorAxTrW
namespace Go.Ax
set_option maxRecDepth 100000
theorem typesRightcfff0 : endsTrue 8 ((comp E1 81 typesRightRest none).c (callX E1 2000) (frT false false false 0) [] St0) = true := by kernel_rfl
theorem typesRightcttf2 : endsTrue 8 ((comp E1 81 typesRightRest none).c (callX E1 2000) (frT true true false 2) [] St0) = true := by kernel_rfl
theorem typesRightctff3 : endsTrue 8 ((comp E1 81 typesRightRest none).c (callX E1 2000) (frT true false false 3) [] St0) = true := by kernel_rfl
theorem typesRightcftf4 : endsTrue 8 ((comp E1 81 typesRightRest none).c (callX E1 2000) (frT false true false 4) [] St0) = true := by kernel_rfl
theorem typesRightcfff5 : endsTrue 8 ((comp E1 81 typesRightRest none).c (callX E1 2000) (frT false false false 5) [] St0) = true := by kernel_rfl
theorem typesRightcttf7 : endsTrue 8 ((comp E1 81 typesRightRest none).c (callX E1 2000) (frT true true false 7) [] St0) = true := by kernel_rfl
theorem typesRightctff8 : endsTrue 8 ((comp E1 81 typesRightRest none).c (callX E1 2000) (frT true false false 8) [] St0) = true := by kernel_rfl
theorem typesRightcftf9 : endsTrue 8 ((comp E1 81 typesRightRest none).c (callX E1 2000) (frT false true false 9) [] St0) = true := by kernel_rfl
theorem typesRightcfff10 : endsTrue 8 ((comp E1 81 typesRightRest none).c (callX E1 2000) (frT false false false 10) [] St0) = true := by kernel_rfl
end Go.Ax
