/-
  Cases of TypesRight, reckoned by the kernel.
-/
import Derived.Test.YtddjnjhhkffjgaaGreatDoorAxTrW
namespace Go.Ax
set_option maxRecDepth 100000
theorem typesRightcttt0 : endsTrue 8 ((comp E1 81 typesRightRest none).c (callX E1 2000) (frT true true true 0) [] St0) = true := by kernel_rfl
theorem typesRightctft1 : endsTrue 8 ((comp E1 81 typesRightRest none).c (callX E1 2000) (frT true false true 1) [] St0) = true := by kernel_rfl
theorem typesRightcftt2 : endsTrue 8 ((comp E1 81 typesRightRest none).c (callX E1 2000) (frT false true true 2) [] St0) = true := by kernel_rfl
theorem typesRightcfft3 : endsTrue 8 ((comp E1 81 typesRightRest none).c (callX E1 2000) (frT false false true 3) [] St0) = true := by kernel_rfl
theorem typesRightcttt5 : endsTrue 8 ((comp E1 81 typesRightRest none).c (callX E1 2000) (frT true true true 5) [] St0) = true := by kernel_rfl
theorem typesRightctft6 : endsTrue 8 ((comp E1 81 typesRightRest none).c (callX E1 2000) (frT true false true 6) [] St0) = true := by kernel_rfl
theorem typesRightcftt7 : endsTrue 8 ((comp E1 81 typesRightRest none).c (callX E1 2000) (frT false true true 7) [] St0) = true := by kernel_rfl
theorem typesRightcfft8 : endsTrue 8 ((comp E1 81 typesRightRest none).c (callX E1 2000) (frT false false true 8) [] St0) = true := by kernel_rfl
theorem typesRightcttt10 : endsTrue 8 ((comp E1 81 typesRightRest none).c (callX E1 2000) (frT true true true 10) [] St0) = true := by kernel_rfl
theorem typesRightctft11 : endsTrue 8 ((comp E1 81 typesRightRest none).c (callX E1 2000) (frT true false true 11) [] St0) = true := by kernel_rfl
end Go.Ax
