/-
  Cases of TypesRight, reckoned by the kernel.
-/
import Derived.Test.YtddjnjhhkffjgaaGreatDoorAxTrW
namespace Go.Ax
set_option maxRecDepth 100000
theorem typesRightctft0 : endsTrue 8 ((comp E1 81 typesRightRest none).c (callX E1 2000) (frT true false true 0) [] St0) = true := by kernel_rfl
theorem typesRightcftt1 : endsTrue 8 ((comp E1 81 typesRightRest none).c (callX E1 2000) (frT false true true 1) [] St0) = true := by kernel_rfl
theorem typesRightcfft2 : endsTrue 8 ((comp E1 81 typesRightRest none).c (callX E1 2000) (frT false false true 2) [] St0) = true := by kernel_rfl
theorem typesRightcttt4 : endsTrue 8 ((comp E1 81 typesRightRest none).c (callX E1 2000) (frT true true true 4) [] St0) = true := by kernel_rfl
theorem typesRightctft5 : endsTrue 8 ((comp E1 81 typesRightRest none).c (callX E1 2000) (frT true false true 5) [] St0) = true := by kernel_rfl
theorem typesRightcftt6 : endsTrue 8 ((comp E1 81 typesRightRest none).c (callX E1 2000) (frT false true true 6) [] St0) = true := by kernel_rfl
theorem typesRightcfft7 : endsTrue 8 ((comp E1 81 typesRightRest none).c (callX E1 2000) (frT false false true 7) [] St0) = true := by kernel_rfl
theorem typesRightcttt9 : endsTrue 8 ((comp E1 81 typesRightRest none).c (callX E1 2000) (frT true true true 9) [] St0) = true := by kernel_rfl
theorem typesRightctft10 : endsTrue 8 ((comp E1 81 typesRightRest none).c (callX E1 2000) (frT true false true 10) [] St0) = true := by kernel_rfl
theorem typesRightcftt11 : endsTrue 8 ((comp E1 81 typesRightRest none).c (callX E1 2000) (frT false true true 11) [] St0) = true := by kernel_rfl
end Go.Ax
