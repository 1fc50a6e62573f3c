/-
  Cases of TypesRight, reckoned by the kernel.
-/
import Derived.Test.YtddjnjhhkffjgaaGreatDoorAxTrW
namespace Go.Ax
set_option maxRecDepth 100000
theorem typesRightcttt1 : endsTrue 8 ((comp E1 81 typesRightRest none).c (callX E1 2000) (frT true true true 1) [] St0) = true := by kernel_rfl
theorem typesRightctft2 : endsTrue 8 ((comp E1 81 typesRightRest none).c (callX E1 2000) (frT true false true 2) [] St0) = true := by kernel_rfl
theorem typesRightcftt3 : endsTrue 8 ((comp E1 81 typesRightRest none).c (callX E1 2000) (frT false true true 3) [] St0) = true := by kernel_rfl
theorem typesRightcfft4 : endsTrue 8 ((comp E1 81 typesRightRest none).c (callX E1 2000) (frT false false true 4) [] St0) = true := by kernel_rfl
theorem typesRightcttt6 : endsTrue 8 ((comp E1 81 typesRightRest none).c (callX E1 2000) (frT true true true 6) [] St0) = true := by kernel_rfl
theorem typesRightctft7 : endsTrue 8 ((comp E1 81 typesRightRest none).c (callX E1 2000) (frT true false true 7) [] St0) = true := by kernel_rfl
theorem typesRightcftt8 : endsTrue 8 ((comp E1 81 typesRightRest none).c (callX E1 2000) (frT false true true 8) [] St0) = true := by kernel_rfl
theorem typesRightcfft9 : endsTrue 8 ((comp E1 81 typesRightRest none).c (callX E1 2000) (frT false false true 9) [] St0) = true := by kernel_rfl
theorem typesRightcttt11 : endsTrue 8 ((comp E1 81 typesRightRest none).c (callX E1 2000) (frT true true true 11) [] St0) = true := by kernel_rfl
end Go.Ax
