/-
  Cases of TypesRight, reckoned by the kernel.
-/
import Derived.Test.YtddjnjhhkffjgaaGreatDoorAxTrW
namespace Go.Ax
set_option maxRecDepth 100000
theorem typesRightcttf0 : endsTrue 8 ((comp E1 81 typesRightRest none).c (callX E1 2000) (frT true true false 0) [] St0) = true := by kernel_rfl
theorem typesRightctff1 : endsTrue 8 ((comp E1 81 typesRightRest none).c (callX E1 2000) (frT true false false 1) [] St0) = true := by kernel_rfl
theorem typesRightcftf2 : endsTrue 8 ((comp E1 81 typesRightRest none).c (callX E1 2000) (frT false true false 2) [] St0) = true := by kernel_rfl
theorem typesRightcfff3 : endsTrue 8 ((comp E1 81 typesRightRest none).c (callX E1 2000) (frT false false false 3) [] St0) = true := by kernel_rfl
theorem typesRightcttf5 : endsTrue 8 ((comp E1 81 typesRightRest none).c (callX E1 2000) (frT true true false 5) [] St0) = true := by kernel_rfl
theorem typesRightctff6 : endsTrue 8 ((comp E1 81 typesRightRest none).c (callX E1 2000) (frT true false false 6) [] St0) = true := by kernel_rfl
theorem typesRightcftf7 : endsTrue 8 ((comp E1 81 typesRightRest none).c (callX E1 2000) (frT false true false 7) [] St0) = true := by kernel_rfl
theorem typesRightcfff8 : endsTrue 8 ((comp E1 81 typesRightRest none).c (callX E1 2000) (frT false false false 8) [] St0) = true := by kernel_rfl
theorem typesRightcttf10 : endsTrue 8 ((comp E1 81 typesRightRest none).c (callX E1 2000) (frT true true false 10) [] St0) = true := by kernel_rfl
theorem typesRightctff11 : endsTrue 8 ((comp E1 81 typesRightRest none).c (callX E1 2000) (frT true false false 11) [] St0) = true := by kernel_rfl
end Go.Ax
