/-
  Cases of TypesRight, reckoned by the kernel.
-/
import Derived.Test.YtddjnjhhkffjgaaGreatDoorAxTrW
namespace Go.Ax
set_option maxRecDepth 100000
theorem typesRightcftt0 : endsTrue 8 ((comp E1 81 typesRightRest none).c (callX E1 2000) (frT false true true 0) [] St0) = true := by kernel_rfl
theorem typesRightcfft1 : endsTrue 8 ((comp E1 81 typesRightRest none).c (callX E1 2000) (frT false false true 1) [] St0) = true := by kernel_rfl
theorem typesRightcttt3 : endsTrue 8 ((comp E1 81 typesRightRest none).c (callX E1 2000) (frT true true true 3) [] St0) = true := by kernel_rfl
theorem typesRightctft4 : endsTrue 8 ((comp E1 81 typesRightRest none).c (callX E1 2000) (frT true false true 4) [] St0) = true := by kernel_rfl
theorem typesRightcftt5 : endsTrue 8 ((comp E1 81 typesRightRest none).c (callX E1 2000) (frT false true true 5) [] St0) = true := by kernel_rfl
theorem typesRightcfft6 : endsTrue 8 ((comp E1 81 typesRightRest none).c (callX E1 2000) (frT false false true 6) [] St0) = true := by kernel_rfl
theorem typesRightcttt8 : endsTrue 8 ((comp E1 81 typesRightRest none).c (callX E1 2000) (frT true true true 8) [] St0) = true := by kernel_rfl
theorem typesRightctft9 : endsTrue 8 ((comp E1 81 typesRightRest none).c (callX E1 2000) (frT true false true 9) [] St0) = true := by kernel_rfl
theorem typesRightcftt10 : endsTrue 8 ((comp E1 81 typesRightRest none).c (callX E1 2000) (frT false true true 10) [] St0) = true := by kernel_rfl
theorem typesRightcfft11 : endsTrue 8 ((comp E1 81 typesRightRest none).c (callX E1 2000) (frT false false true 11) [] St0) = true := by kernel_rfl
end Go.Ax
