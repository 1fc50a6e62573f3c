/-
  Cases of TypesRight, reckoned by the kernel.
-/
import Derived.Test.YtddjnjhhkffjgaaGreatDoorAxTrW
namespace Go.Ax
set_option maxRecDepth 100000
theorem typesRightcftf0 : endsTrue 8 ((comp E1 81 typesRightRest none).c (callX E1 2000) (frT false true false 0) [] St0) = true := by kernel_rfl
theorem typesRightcfff1 : endsTrue 8 ((comp E1 81 typesRightRest none).c (callX E1 2000) (frT false false false 1) [] St0) = true := by kernel_rfl
theorem typesRightcttf3 : endsTrue 8 ((comp E1 81 typesRightRest none).c (callX E1 2000) (frT true true false 3) [] St0) = true := by kernel_rfl
theorem typesRightctff4 : endsTrue 8 ((comp E1 81 typesRightRest none).c (callX E1 2000) (frT true false false 4) [] St0) = true := by kernel_rfl
theorem typesRightcftf5 : endsTrue 8 ((comp E1 81 typesRightRest none).c (callX E1 2000) (frT false true false 5) [] St0) = true := by kernel_rfl
theorem typesRightcfff6 : endsTrue 8 ((comp E1 81 typesRightRest none).c (callX E1 2000) (frT false false false 6) [] St0) = true := by kernel_rfl
theorem typesRightcttf8 : endsTrue 8 ((comp E1 81 typesRightRest none).c (callX E1 2000) (frT true true false 8) [] St0) = true := by kernel_rfl
theorem typesRightctff9 : endsTrue 8 ((comp E1 81 typesRightRest none).c (callX E1 2000) (frT true false false 9) [] St0) = true := by kernel_rfl
theorem typesRightcftf10 : endsTrue 8 ((comp E1 81 typesRightRest none).c (callX E1 2000) (frT false true false 10) [] St0) = true := by kernel_rfl
theorem typesRightcfff11 : endsTrue 8 ((comp E1 81 typesRightRest none).c (callX E1 2000) (frT false false false 11) [] St0) = true := by kernel_rfl
end Go.Ax
